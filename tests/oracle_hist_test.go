package tests

import (
	"crypto/sha256"
	"encoding/hex"
	"maps"
	"regexp"
	"slices"
	"strconv"
	"strings"
	"sync"

	"loop.example/codicil/impl"
)

// What this file has says anew, in the plainest way, what the document says of
// objects, journals and history.

func sumOf(text string) string {
	sum := sha256.Sum256([]byte(text))
	return hex.EncodeToString(sum[:])
}

// underSums is texts as objects that are right.
func underSums(texts ...string) []impl.Object {
	byKey := map[string]string{}
	for _, text := range texts {
		byKey[sumOf(text)] = text
	}
	var list []impl.Object
	for _, key := range slices.Sorted(maps.Keys(byKey)) {
		list = append(list, impl.Object{Key: key, Text: byKey[key]})
	}
	return list
}

func textsUnder(list []impl.Object) []string {
	var texts []string
	for _, object := range list {
		texts = append(texts, object.Text)
	}
	return texts
}

func rightObjs(list []impl.Object) bool {
	return slices.Equal(list, underSums(textsUnder(list)...))
}

func gotten(list []impl.Object, key string) (string, bool) {
	at := slices.IndexFunc(list, func(object impl.Object) bool { return object.Key == key })
	if at < 0 || sumOf(list[at].Text) != key {
		return "", false
	}
	return list[at].Text, true
}

var lineForm = regexp.MustCompile(`^((0|[1-9][0-9]*) ([a-z]{1,8}) ([0-9a-f]{64}|-)) ([0-9a-f]{8})\n`)

// toldBy is what a journal tells, how many bytes of it are right, and how many lines these are.
func toldBy(text string) (refs []impl.Ref, size int, lines int) {
	stands := map[string]string{}
	for {
		m := lineForm.FindStringSubmatch(text[size:])
		if m == nil || m[2] != strconv.Itoa(lines) || m[5] != sumOf(m[1])[:8] {
			break
		}
		stands[m[3]] = m[4]
		size += len(m[0])
		lines++
	}
	for _, name := range slices.Sorted(maps.Keys(stands)) {
		if stands[name] != "-" {
			refs = append(refs, impl.Ref{Name: name, Key: stands[name]})
		}
	}
	return refs, size, lines
}

func rightJour(text string) bool {
	_, size, _ := toldBy(text)
	return size == len(text) && size <= 4000
}

func standingFor(text, name string) string {
	refs, _, _ := toldBy(text)
	for _, ref := range refs {
		if ref.Name == name {
			return ref.Key
		}
	}
	return ""
}

// lineOf is a line of a journal; key is what stands in it, `-` for nothing.
func lineOf(place int, name, key string) string {
	said := strconv.Itoa(place) + " " + name + " " + key
	return said + " " + sumOf(said)[:8] + "\n"
}

var keyForm = regexp.MustCompile(`^[0-9a-f]{64}$`)

// jourWith is what JourAdd is to answer.
func jourWith(text, name, old, key string) (string, bool) {
	_, _, lines := toldBy(text)
	shown := key
	if key == "" {
		shown = "-"
	}
	longer := text + lineOf(lines, name, shown)
	if !rightJour(text) || !nameForm.MatchString(name) || key != "" && !keyForm.MatchString(key) || standingFor(text, name) != old || len(longer) > 4000 {
		return text, false
	}
	return longer, true
}

func packedJour(text string) string {
	if !rightJour(text) {
		return ""
	}
	refs, _, _ := toldBy(text)
	out := ""
	for place, ref := range refs {
		out += lineOf(place, ref.Name, ref.Key)
	}
	return out
}

var commitForm = regexp.MustCompile(`^commit\n((?:over [0-9a-f]{64}\n){0,2})tree ([0-9a-f]{64})\nnote ([ -~]{0,12})\n$`)

func textOfCommit(c impl.Commit) string {
	out := "commit\n"
	for _, over := range c.Over {
		out += "over " + over + "\n"
	}
	return out + "tree " + c.Tree + "\nnote " + c.Note + "\n"
}

func commitOfText(text string) (impl.Commit, bool) {
	m := commitForm.FindStringSubmatch(text)
	if m == nil {
		return impl.Commit{}, false
	}
	c := impl.Commit{Tree: m[2], Note: m[3]}
	for line := range strings.Lines(m[1]) {
		c.Over = append(c.Over, line[len("over "):len(line)-1])
	}
	if len(c.Over) == 2 && c.Over[0] == c.Over[1] {
		return impl.Commit{}, false
	}
	return c, true
}

func sameCommit(a, b impl.Commit) bool {
	return slices.Equal(a.Over, b.Over) && a.Tree == b.Tree && a.Note == b.Note
}

func commitAt(list []impl.Object, key string) (impl.Commit, bool) {
	text, _ := gotten(list, key)
	return commitOfText(text)
}

// behind is keys, and behind them those that a commit came of and that are not yet there, and itself.
// Of what is missing there is an empty key.
func behind(list []impl.Object, done []string, key string) []string {
	if slices.Contains(done, key) {
		return done
	}
	commit, there := commitAt(list, key)
	if !there {
		return append(done, "")
	}
	for _, over := range commit.Over {
		done = behind(list, done, over)
	}
	return append(done, key)
}

func historyOf(list []impl.Object, key string) ([]string, bool) {
	all := behind(list, nil, key)
	slices.Reverse(all)
	if !rightObjs(list) || slices.Contains(all, "") || len(all) > 24 {
		return nil, false
	}
	return all, true
}

func baseOf(list []impl.Object, a, b string) (string, bool) {
	ofA, isA := historyOf(list, a)
	ofB, isB := historyOf(list, b)
	var both []string
	for _, key := range ofA {
		if slices.Contains(ofB, key) {
			both = append(both, key)
		}
	}
	if !isA || !isB || len(both) == 0 {
		return "", false
	}
	return slices.MinFunc(both, func(x, y string) int {
		ofX, _ := historyOf(list, x)
		ofY, _ := historyOf(list, y)
		if len(ofX) != len(ofY) {
			return len(ofY) - len(ofX)
		}
		return strings.Compare(x, y)
	}), true
}

func treeAt(list []impl.Object, key string) (impl.Tree, bool) {
	commit, _ := commitAt(list, key)
	text, there := gotten(list, commit.Tree)
	if !rightObjs(list) || !there {
		return impl.Tree{}, false
	}
	return treeOfText(text)
}

// hasSo says whether a commit has a tree with a thing of that number, kind and text.
func hasSo(list []impl.Object, key string, thing impl.Tree) bool {
	tree, _ := treeAt(list, key)
	had, has := thingOf(tree, thing.Id)
	return has && had.Kind == thing.Kind && had.Text == thing.Text
}

func makerOf(list []impl.Object, key string, thing impl.Tree) string {
	commit, _ := commitAt(list, key)
	for _, over := range commit.Over {
		if hasSo(list, over, thing) {
			return makerOf(list, over, thing)
		}
	}
	return key
}

func blameOf(list []impl.Object, key string) []impl.Blame {
	_, whole := historyOf(list, key)
	tree, there := treeAt(list, key)
	if !whole || !there {
		return nil
	}
	var blames []impl.Blame
	for _, p := range placesOf(tree) {
		blames = append(blames, impl.Blame{Id: p.thing.Id, Key: makerOf(list, key, p.thing)})
	}
	return blames
}

// past is texts, and the sums of the commits among them, in the order in which they were made.
type past struct {
	texts []string
	keys  []string
}

func (p *past) put(text string) string {
	p.texts = append(p.texts, text)
	return sumOf(text)
}

// commit makes a commit of a tree's text.
func (p *past) commit(tree, note string, over ...string) string {
	key := p.put(textOfCommit(impl.Commit{Over: over, Tree: p.put(tree), Note: note}))
	p.keys = append(p.keys, key)
	return key
}

func (p *past) objs() []impl.Object {
	return underSums(p.texts...)
}

// without is the objects but those under some sums.
func (p *past) without(keys ...string) []impl.Object {
	return slices.DeleteFunc(p.objs(), func(object impl.Object) bool { return slices.Contains(keys, object.Key) })
}

// past is commits by chance, most of which came of one or two that were made just ahead of them.
func (c chance) past(most int) past {
	var p past
	trees := map[string]impl.Tree{}
	for at := range 1 + c.Intn(most) {
		over := c.over(p.keys)
		tree := c.bushy(6)
		if len(over) > 0 {
			tree = c.mixed(trees[over[0]], trees[over[len(over)-1]])
		}
		text := textOfTree(tree)
		if c.Intn(40) == 0 {
			text = "no tree" // and so there is none of this commit
		}
		key := p.commit(text, strconv.Itoa(at), over...)
		trees[key] = tree
	}
	return p
}

func (c chance) over(keys []string) []string {
	if len(keys) == 0 || c.Intn(12) == 0 {
		return nil
	}
	last := keys[max(0, len(keys)-4):]
	one, other := c.word(last...), c.word(last...)
	if one == other || c.Intn(2) == 0 {
		return []string{one}
	}
	return []string{one, other}
}

// mixed is a tree of which some words are another one's, behind some steps.
func (c chance) mixed(a, b impl.Tree) impl.Tree {
	for _, p := range placesOf(b) {
		if _, both := thingOf(a, p.thing.Id); both && c.Intn(2) == 0 {
			a, _ = stepped(a, worded(p.thing.Id, p.thing.Text))
			a, _ = stepped(a, kinded(p.thing.Id, p.thing.Kind))
		}
	}
	return c.changed(a, 3)
}

// spoiledPast is objects of which some are missing, and now and then one is not right.
func (c chance) spoiledPast(p past) []impl.Object {
	list := p.objs()
	if c.Intn(2) == 0 {
		at := c.Intn(len(list))
		list = slices.Delete(list, at, at+1)
	}
	if len(list) > 1 && c.Intn(6) == 0 {
		at := c.Intn(len(list) - 1)
		switch c.Intn(3) {
		case 0:
			list[at].Text += "x"
		case 1:
			list[at], list[at+1] = list[at+1], list[at]
		default:
			list = slices.Insert(list, at, list[at])
		}
	}
	return list
}

// somePasts are made once, and not written into.
var somePasts = sync.OnceValue(func() []past {
	c := newChance()
	var list []past
	for range 150 {
		list = append(list, c.past(28))
	}
	return list
})
