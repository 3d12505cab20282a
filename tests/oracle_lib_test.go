package tests

import (
	"fmt"
	"math"
	"regexp"
	"slices"
	"strconv"
	"strings"
	"sync"

	"loop.example/codicil/impl"
)

// What this file has says anew, in the plainest way, what the document says of libraries, picks, and what is more of both.

// faultsOf is what is wrong with a library, line by line.
func faultsOf(l impl.Lib) []string {
	if !rightSchema(l.Schema) {
		return []string{"schema"}
	}
	if !rightObjs(l.Objs) {
		return []string{"objects"}
	}
	var faults []string
	refs, size, _ := toldBy(l.Jour)
	if !rightJour(l.Jour) {
		faults = append(faults, fmt.Sprint("journal at ", size))
	}
	for _, ref := range refs {
		history, there := historyOf(l.Objs, ref.Key)
		if !there {
			faults = append(faults, "history of "+ref.Name)
		}
		for _, key := range history {
			commit, _ := commitAt(l.Objs, key)
			text, _ := gotten(l.Objs, commit.Tree)
			if tree, is := treeOfText(text); !is {
				faults = append(faults, "tree of "+key[:8])
			} else if !fitting(l.Schema, tree) {
				faults = append(faults, "unfit tree of "+key[:8])
			}
		}
	}
	return faults
}

func rightLib(l impl.Lib) bool {
	return len(faultsOf(l)) == 0
}

func sameLib(a, b impl.Lib) bool {
	return sameSchema(a.Schema, b.Schema) && slices.Equal(a.Objs, b.Objs) && a.Jour == b.Jour
}

// seenIn is what LibSee is to show.
func seenIn(l impl.Lib) string {
	if !rightLib(l) {
		return ""
	}
	out := "library\n"
	refs, _, _ := toldBy(l.Jour)
	for _, ref := range refs {
		out += ref.Name + "\n"
		history, _ := historyOf(l.Objs, ref.Key)
		for _, key := range history {
			commit, _ := commitAt(l.Objs, key)
			tree, _ := gotten(l.Objs, commit.Tree)
			out += fmt.Sprintf("  %.8s %s %s\n", key, tree, commit.Note)
		}
	}
	return out
}

// opened is what LibOpen is to answer.
func opened(l impl.Lib) (impl.Lib, bool) {
	_, size, _ := toldBy(l.Jour)
	l.Jour = l.Jour[:size]
	if !rightLib(l) {
		return impl.Lib{}, false
	}
	return l, true
}

// deed is what a command is to do: its code, or which texts are put, what is added to the journal, which sums go, and whether the journal is packed.
type deed struct {
	code  int
	puts  []string
	line  string
	gone  []string
	packs bool
}

// rightCmd says whether a command has just what its kind has, and names that are names.
func rightCmd(c impl.Cmd) bool {
	has, known := map[int]string{1: "name tree note", 2: "name from", 3: "name from note", 4: "name", 5: "", 6: ""}[c.Kind]
	for field, value := range map[string]string{"name": c.Name, "from": c.From, "tree": c.Tree, "note": c.Note} {
		used := strings.Contains(has, field)
		if !used && value != "" || used && (field == "name" || field == "from") && !nameForm.MatchString(value) {
			return false
		}
	}
	return known
}

// deedOf is what a command is to do to a library that is ok.
func deedOf(l impl.Lib, c impl.Cmd) deed {
	if !rightCmd(c) {
		return deed{code: 1}
	}
	key, from := standingFor(l.Jour, c.Name), standingFor(l.Jour, c.From)
	switch c.Kind {
	case 1:
		if tree, is := treeOfText(c.Tree); is {
			return nextDeed(l, c.Name, tree, c.Note)
		}
		return deed{code: 4}
	case 2:
		if from == "" {
			return deed{code: 2}
		}
		if key != "" {
			return deed{code: 3}
		}
		return pointing(l, c.Name, from)
	case 3:
		return mergeDeed(l, c, key, from)
	case 4:
		if key == "" {
			return deed{code: 2}
		}
		return pointing(l, c.Name, "")
	case 5:
		return deed{gone: outsideOf(l)}
	default:
		return deed{packs: true}
	}
}

func mergeDeed(l impl.Lib, c impl.Cmd, key, from string) deed {
	if key == "" || from == "" {
		return deed{code: 2}
	}
	base, there := baseOf(l.Objs, key, from)
	if !there {
		return deed{code: 9}
	}
	if base == from {
		return deed{code: 6}
	}
	if base == key {
		return pointing(l, c.Name, from)
	}
	old, _ := treeAt(l.Objs, base)
	a, _ := treeAt(l.Objs, key)
	b, _ := treeAt(l.Objs, from)
	merged, can := joinedAlike(old, a, b)
	if !can {
		return deed{code: 7}
	}
	if !fitting(l.Schema, merged) {
		return deed{code: 5}
	}
	return making(l, c.Name, merged, c.Note, key, from)
}

// joinedAlike is three trees put together; false, if they cannot be, or something is unlike.
func joinedAlike(old, a, b impl.Tree) (impl.Tree, bool) {
	if !going(old, a, b) {
		return impl.Tree{}, false
	}
	merged, told := joined(old, a, b)
	return merged, len(told) == 0 && rightTree(merged)
}

// nextDeed is a commit of a tree over that for which a name stands.
func nextDeed(l impl.Lib, name string, tree impl.Tree, note string) deed {
	key := standingFor(l.Jour, name)
	if !fitting(l.Schema, tree) {
		return deed{code: 5}
	}
	if key == "" {
		return making(l, name, tree, note)
	}
	if was, _ := treeAt(l.Objs, key); sameTree(was, tree) {
		return deed{code: 6}
	}
	return making(l, name, tree, note, key)
}

func making(l impl.Lib, name string, tree impl.Tree, note string, over ...string) deed {
	text := textOfTree(tree)
	commit := textOfCommit(impl.Commit{Over: over, Tree: sumOf(text), Note: note})
	if _, is := commitOfText(commit); !is {
		return deed{code: 1}
	}
	history, there := historyOf(underSums(append(textsUnder(l.Objs), text, commit)...), sumOf(commit))
	d := pointing(l, name, sumOf(commit))
	if d.code != 0 || !there || len(history) > 22 {
		return deed{code: 8}
	}
	d.puts = []string{text, commit}
	return d
}

func pointing(l impl.Lib, name, key string) deed {
	longer, can := jourWith(l.Jour, name, standingFor(l.Jour, name), key)
	if !can {
		return deed{code: 8}
	}
	return deed{line: longer[len(l.Jour):]}
}

// outsideOf is the sums of what is neither in a history of a name nor a tree of such a commit.
func outsideOf(l impl.Lib) []string {
	var within []string
	refs, _, _ := toldBy(l.Jour)
	for _, ref := range refs {
		history, _ := historyOf(l.Objs, ref.Key)
		for _, key := range history {
			commit, _ := commitAt(l.Objs, key)
			within = append(within, key, commit.Tree)
		}
	}
	var outside []string
	for _, object := range l.Objs {
		if !slices.Contains(within, object.Key) {
			outside = append(outside, object.Key)
		}
	}
	return outside
}

// upTo is a number, but at least 0 and at most as many as there are.
func upTo(number, most int) int {
	return max(0, min(number, most))
}

// left is what a deed leaves of a library, if power is lost behind so many objects, and so many bytes.
func (d deed) left(l impl.Lib, objs, bytes int) impl.Lib {
	texts := append(textsUnder(l.Objs), d.puts[:upTo(objs, len(d.puts))]...)
	gone := d.gone[:upTo(objs, len(d.gone))]
	l.Objs = slices.DeleteFunc(underSums(texts...), func(object impl.Object) bool { return slices.Contains(gone, object.Key) })
	if objs >= len(d.puts) || len(d.puts) == 0 {
		l.Jour += d.line[:upTo(bytes, len(d.line))]
	}
	if d.packs && bytes > 0 {
		l.Jour = packedJour(l.Jour)
	}
	return l
}

// behindDeed is a library behind a deed, and its code.
func behindDeed(l impl.Lib, of func() deed) (impl.Lib, int) {
	if !rightLib(l) {
		return impl.Lib{}, 1
	}
	d := of()
	return d.left(l, math.MaxInt, math.MaxInt), d.code
}

func doneTo(l impl.Lib, c impl.Cmd) (impl.Lib, int) {
	return behindDeed(l, func() deed { return deedOf(l, c) })
}

// changing is what LibPick is to answer, and LibUndo, if turned.
func changing(l impl.Lib, name, key, note string, turned bool) (impl.Lib, int) {
	return behindDeed(l, func() deed {
		commit, _ := commitAt(l.Objs, key)
		to, is := treeAt(l.Objs, key)
		if !is || len(commit.Over) == 0 {
			return deed{code: 4}
		}
		from, was := treeAt(l.Objs, commit.Over[0])
		if !was {
			return deed{code: 4}
		}
		if turned {
			from, to = to, from
		}
		now, there := treeAt(l.Objs, standingFor(l.Jour, name))
		if !there {
			return deed{code: 2}
		}
		merged, can := joinedAlike(from, now, to)
		if !can {
			return deed{code: 7}
		}
		return nextDeed(l, name, merged, note)
	})
}

// saved is a library as it is to be written.
func saved(l impl.Lib) string {
	pack, _ := packOf(l.Objs)
	if pack == "" || !rightLib(l) {
		return ""
	}
	schema := textOfSchema(l.Schema)
	return fmt.Sprintf("library %d %d\n%s%s%s", len(schema), len(l.Jour), schema, l.Jour, pack)
}

var savedForm = regexp.MustCompile(`^library ([0-9]+) ([0-9]+)\n`)

// loaded reads loosely, and then asks whether the text is just what is written of what it read.
func loaded(text string) (impl.Lib, bool) {
	m := savedForm.FindStringSubmatch(text)
	if m == nil {
		return impl.Lib{}, false
	}
	rest := text[len(m[0]):]
	first, _ := strconv.Atoi(m[1])
	schema := rest[:upTo(first, len(rest))]
	rest = rest[len(schema):]
	second, _ := strconv.Atoi(m[2])
	var l impl.Lib
	l.Jour = rest[:upTo(second, len(rest))]
	l.Schema, _ = schemaOfText(schema)
	l.Objs, _ = packOfText(rest[len(l.Jour):])
	if written := saved(l); written == "" || written != text {
		return impl.Lib{}, false
	}
	return l, true
}

// session is what LibSession is to answer.
func session(schema string, lines []string) string {
	s, is := schemaOfText(schema)
	if !is {
		return "no schema\n"
	}
	l, out := impl.Lib{Schema: s}, ""
	for _, line := range lines {
		if line == "see" {
			out += seenIn(l)
			continue
		}
		c, is := saidBy(line)
		if !is {
			out += "what\n"
			continue
		}
		code := 0
		l, code = doneTo(l, c)
		out += fmt.Sprintf("code %d\n", code)
	}
	return out
}

var lineForms = []struct {
	form *regexp.Regexp
	cmd  func(words []string) impl.Cmd
}{
	{regexp.MustCompile(`(?s)^commit ([^ ]*) ([^ ]*) ([^ ]*)\z`), func(w []string) impl.Cmd { return impl.Cmd{Kind: 1, Name: w[1], Note: w[2], Tree: w[3]} }},
	{regexp.MustCompile(`(?s)^branch ([^ ]*) ([^ ]*)\z`), func(w []string) impl.Cmd { return impl.Cmd{Kind: 2, Name: w[1], From: w[2]} }},
	{regexp.MustCompile(`(?s)^merge ([^ ]*) ([^ ]*) ([^ ]*)\z`), func(w []string) impl.Cmd { return impl.Cmd{Kind: 3, Name: w[1], From: w[2], Note: w[3]} }},
	{regexp.MustCompile(`(?s)^drop ([^ ]*)\z`), func(w []string) impl.Cmd { return impl.Cmd{Kind: 4, Name: w[1]} }},
	{regexp.MustCompile(`^sweep\z`), func(w []string) impl.Cmd { return impl.Cmd{Kind: 5} }},
	{regexp.MustCompile(`^pack\z`), func(w []string) impl.Cmd { return impl.Cmd{Kind: 6} }},
}

func saidBy(line string) (impl.Cmd, bool) {
	for _, f := range lineForms {
		if words := f.form.FindStringSubmatch(line); words != nil {
			return f.cmd(words), true
		}
	}
	return impl.Cmd{}, false
}

// chooser is picks, and how many of them were asked for.
type chooser struct {
	picks []bool
	asked int
}

func (ch *chooser) next() bool {
	ch.asked++
	return ch.asked > len(ch.picks) || ch.picks[ch.asked-1]
}

// chosen is what comes of three trees that go together, by picks, and how many of these were asked for.
func chosen(old, a, b impl.Tree, picks []bool) (impl.Tree, int) {
	ch := &chooser{picks: picks}
	made := ch.thing(old, a, b, a.Id)
	return made, ch.asked
}

// thing is what comes of a number that both have, in whole trees.
func (ch *chooser) thing(old, a, b impl.Tree, id int) impl.Tree {
	was, had := thingOf(old, id)
	left, _ := thingOf(a, id)
	right, _ := thingOf(b, id)
	made := impl.Tree{Id: id, Kind: ch.word(was.Kind, had, left.Kind, right.Kind), Text: ch.word(was.Text, had, left.Text, right.Text)}
	for _, both := range append(sharedOf(kidIdsOf(left), kidIdsOf(right)), 0) { // 0 for the end
		onlyLeft, restLeft := aheadOf(left.Kids, both)
		onlyRight, restRight := aheadOf(right.Kids, both)
		left.Kids, right.Kids = restLeft, restRight
		stayLeft := ch.staying(old, onlyLeft, true)
		stayRight := ch.staying(old, onlyRight, false)
		if len(stayLeft) > 0 && len(stayRight) > 0 && !ch.next() {
			stayLeft, stayRight = stayRight, stayLeft
		}
		made.Kids = slices.Concat(made.Kids, stayLeft, stayRight)
		if both != 0 {
			made.Kids = append(made.Kids, ch.thing(old, a, b, both))
		}
	}
	return made
}

func (ch *chooser) word(was string, had bool, left, right string) string {
	counts, told := word(was, had, left, right)
	if told && !ch.next() {
		return right
	}
	return counts
}

// aheadOf is what is ahead of a number, and what is behind it.
func aheadOf(list []impl.Tree, id int) ([]impl.Tree, []impl.Tree) {
	for at, thing := range list {
		if thing.Id == id {
			return list[:at], list[at+1:]
		}
	}
	return list, nil
}

func (ch *chooser) staying(old impl.Tree, alone []impl.Tree, ofLeft bool) []impl.Tree {
	var stay []impl.Tree
	for _, thing := range alone {
		was, had := thingOf(old, thing.Id)
		if !had || !sameTree(was, thing) && ch.next() == ofLeft {
			stay = append(stay, thing)
		}
	}
	return stay
}

// schemas of libraries by chance: all that fits the first is of one kind; what fits the second has an order.
const (
	plainSchema   = "root a\na text: a*\n"
	orderedSchema = "root a\na text: a* b*\nb text: a* c?\nc:\n"
)

// edited is a tree behind some small changes, most of which leave what is of the kind a so.
func (c chance) edited(t impl.Tree, most int) impl.Tree {
	for range 1 + c.Intn(most) {
		ids := idsOf(t)
		id := ids[c.Intn(len(ids))]
		thing, _ := thingOf(t, id)
		step := worded(id, c.word("", "x", "y", "z", "1", "2", "3"))
		switch c.Intn(12) {
		case 0, 1:
			step = cut(id)
		case 2, 3, 4, 5:
			step = put(id, c.Intn(len(thing.Kids)+1), impl.Tree{Id: 2 + c.Intn(90), Kind: c.word("a", "a", "a", "a", "a", "b"), Text: c.word("", "n")})
		case 6:
			step = kinded(id, c.word("a", "a", "b", "c"))
		}
		t, _ = stepped(t, step)
	}
	return t
}

// libNames is few names: those that stand for something in a library, and the others.
func libNames(l impl.Lib) (used, free []string) {
	for _, name := range []string{"main", "work", "a", "abcdefgh", "z"} {
		if standingFor(l.Jour, name) != "" {
			used = append(used, name)
		} else {
			free = append(free, name)
		}
	}
	return used, free
}

// cmd is a command to a library that is ok, which mostly can be done.
func (c chance) cmd(l impl.Lib) impl.Cmd {
	used, free := libNames(l)
	all := slices.Concat(used, free)
	note := c.word("", "n", "note", "a-b", "twelve-bytes")
	if len(used) == 0 {
		used = all
	}
	_, _, lines := toldBy(l.Jour)
	switch n := c.Intn(100); {
	case n < 4:
		return c.oddCmd(c.word(all...), c.word(used...), note)
	case n < 6 || lines > 34 && n < 40:
		return impl.Cmd{Kind: 6}
	case n < 9:
		return impl.Cmd{Kind: 5}
	case n < 12:
		return impl.Cmd{Kind: 4, Name: c.word(all...)}
	case n < 20 || n < 56 && len(used) < 2:
		return impl.Cmd{Kind: 2, Name: c.word(c.word(all...), all[4], all[4], all[4]), From: c.word(append(used, all[4])...)}
	case n < 56:
		return impl.Cmd{Kind: 3, Name: c.word(append(used, used[0], all[4])...), From: c.word(append(used, used[len(used)-1])...), Note: note}
	}
	name := c.word(used...)
	if c.Intn(30) == 0 {
		name = c.word(all...)
	}
	tree, there := treeAt(l.Objs, standingFor(l.Jour, name))
	if !there {
		tree, _ = treeOfText("a#1[a#2[a#3,a#4],a#5[a#6],a#7]")
	}
	return impl.Cmd{Kind: 1, Name: name, Tree: textOfTree(c.edited(tree, 2)), Note: note}
}

// oddCmd is a command that is refused whatever the library has, or nearly so.
func (c chance) oddCmd(name, from, note string) impl.Cmd {
	odd := c.word("", "A", "abcdefghi", "a b", "-", "none", "a#1", "a#1[", "\n", "thirteen text", "\xff")
	kind := c.Intn(9) - 1
	switch c.Intn(4) {
	case 0:
		return impl.Cmd{Kind: kind, Name: odd, From: from}
	case 1:
		return impl.Cmd{Kind: kind, Name: name, From: odd}
	case 2:
		return impl.Cmd{Kind: kind, Name: name, Tree: odd, Note: note}
	default:
		return impl.Cmd{Kind: kind, Name: name, Tree: "a#1", Note: odd}
	}
}

// moment is a library that is ok, and a command to it.
type moment struct {
	lib impl.Lib
	cmd impl.Cmd
}

// someMoments are those of some sessions by chance. They are made once, and not written into.
var someMoments = sync.OnceValue(func() []moment {
	c := newChance()
	var list []moment
	for at := range 24 {
		s, _ := schemaOfText([]string{plainSchema, plainSchema, orderedSchema}[at%3])
		l := impl.Lib{Schema: s}
		for range 60 {
			m := moment{lib: l, cmd: c.cmd(l)}
			list = append(list, m)
			l, _ = doneTo(l, m.cmd)
		}
	}
	return list
})

// underNames is a library of a past in which names stand for some sums.
func underNames(schema string, p past, stands ...string) impl.Lib {
	s, _ := schemaOfText(schema)
	l := impl.Lib{Schema: s, Objs: p.objs()}
	for at := 0; at < len(stands); at += 2 {
		l.Jour += lineOf(at/2, stands[at], stands[at+1])
	}
	return l
}
