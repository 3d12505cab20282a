package tests

import (
	"fmt"
	"slices"
	"strconv"
	"strings"
	"testing"

	"loop.example/codicil/impl"
)

// P68: what is since another one is of the one and not of the other.
func TestSince(t *testing.T) {
	c := newChance()
	seen := map[string]int{}
	for _, p := range somePasts() {
		for at := range 10 {
			list := p.objs()
			if at%5 == 4 {
				list = c.spoiledPast(p)
			}
			seen[checkSince(t, list, c.word(c.asked(p)...), c.word(c.asked(p)...))]++
		}
		key := c.word(p.keys...)
		if got, ok := impl.HistSince(p.objs(), key, key); len(got) != 0 || ok != hasHistory(p.objs(), key) {
			t.Fatalf("since itself there is %v, %v", got, ok)
		}
	}
	for _, what := range []string{"none", "nothing", "some"} {
		if seen[what] < 60 {
			t.Errorf("%s: only %d, of %v", what, seen[what], seen)
		}
	}
}

func hasHistory(list []impl.Object, key string) bool {
	_, there := historyOf(list, key)
	return there
}

func checkSince(t *testing.T, list []impl.Object, a, b string) string {
	t.Helper()
	ofA, isA := historyOf(list, a)
	ofB, isB := historyOf(list, b)
	var want []string
	for _, key := range ofA {
		if isA && isB && !slices.Contains(ofB, key) {
			want = append(want, key)
		}
	}
	got, ok := impl.HistSince(list, a, b)
	if ok != (isA && isB) || !slices.Equal(got, want) {
		t.Fatalf("%s since %s has %v, %v, not %v", a, b, got, ok, want)
	}
	switch {
	case !ok:
		return "none"
	case len(got) == 0:
		return "nothing"
	}
	return "some"
}

func TestKnownSince(t *testing.T) {
	var p past
	root := p.commit("a#1", "root")
	left, right := p.commit("a#1", "left", root), p.commit("a#1", "right", root)
	both := p.commit("a#1", "both", right, left)
	apart := p.commit("no tree", "apart")
	for _, c := range []struct {
		a, b string
		want []string
		ok   bool
	}{
		{both, root, []string{both, left, right}, true}, {both, left, []string{both, right}, true}, {left, both, nil, true}, {left, right, []string{left}, true}, {root, root, nil, true},
		{apart, both, []string{apart}, true}, {both, apart, []string{both, left, right, root}, true}, {both, "", nil, false}, {"", both, nil, false}, {both, "none", nil, false}, {sumOf("a#1"), both, nil, false}, {both, sumOf("a#1"), nil, false},
	} {
		if got, ok := impl.HistSince(p.objs(), c.a, c.b); ok != c.ok || !slices.Equal(got, c.want) {
			t.Errorf("%s since %s has %v, %v, not %v", c.a, c.b, got, ok, c.want)
		}
	}
	for length, ok := range map[int]bool{24: true, 25: false} {
		p := line(length)
		last := p.keys[length-1]
		since, can := impl.HistSince(p.objs(), last, p.keys[0])
		back, too := impl.HistSince(p.objs(), p.keys[0], last)
		if can != ok || too != ok || ok && len(since) != length-1 || !ok && len(since) != 0 || len(back) != 0 {
			t.Errorf("of %d: %v, %v, and %v, %v", length, since, can, back, too)
		}
	}
	for name, list := range badObjs() {
		if got, ok := impl.HistSince(list, list[0].Key, list[0].Key); ok || len(got) != 0 {
			t.Errorf("%s: since itself there is %v, %v", name, got, ok)
		}
	}
}

// P69: what a commit changed makes its tree of the tree that it came of.
func TestParts(t *testing.T) {
	c := newChance()
	parts := map[bool]int{}
	for _, p := range somePasts() {
		for at := range 2 {
			list := p.objs()
			if at == 1 {
				list = c.spoiledPast(p)
			}
			for _, key := range c.asked(p) {
				parts[checkPart(t, list, key)]++
			}
		}
	}
	if parts[true] < 500 || parts[false] < 500 {
		t.Errorf("too few parts are there, or not: %v", parts)
	}
}

func checkPart(t *testing.T, list []impl.Object, key string) bool {
	t.Helper()
	commit, _ := commitAt(list, key)
	is, can := treeAt(list, key)
	var was impl.Tree
	if len(commit.Over) == 0 {
		can = false
	} else if before, there := treeAt(list, commit.Over[0]); !there || before.Id != is.Id {
		can = false
	} else {
		was = before
	}
	var want []impl.Step
	if can {
		want = differing(was, is)
	}
	got, ok := impl.HistPart(list, key)
	if ok != can || !sameSteps(got, want) {
		t.Fatalf("%s changed %v, %v, not %v, %v", key, got, ok, want, can)
	}
	if behind, done := impl.StepsDo(was, got); ok && (!done || !impl.TreeSame(behind, is)) {
		t.Fatalf("%s changed %s to %s by %v", key, textOfTree(was), textOfTree(behind), got)
	}
	return ok
}

func TestKnownParts(t *testing.T) {
	var p past
	root := p.commit("a#1[a#2]", "root")
	other := p.commit("a#7", "other", root)
	next := p.commit(`a#1[a#2"x"]`, "next", root)
	merged := p.commit(`a#1[a#2"x",a#3]`, "merged", next, root)
	turned := p.commit(`a#1[a#2"x",a#3]`, "turned", root, next)
	same := p.commit(`a#1[a#2"x"]`, "same", next)
	none := p.commit("no tree", "none", root)
	behind := p.commit("a#1[a#2]", "behind", none)
	for _, c := range []struct {
		key, want string
		ok        bool
	}{{root, "", false}, {other, "", false}, {next, "text 2 x\n", true}, {merged, "put 1 1 a#3\n", true}, {turned, "text 2 x\nput 1 1 a#3\n", true}, {same, "", true}, {none, "", false}, {behind, "", false}, {"", "", false}, {sumOf("a#1[a#2]"), "", false}} {
		got, ok := impl.HistPart(p.objs(), c.key)
		if ok != c.ok || impl.StepsText(got) != c.want || len(got) != strings.Count(c.want, "\n") {
			t.Errorf("%s changed %v, %v, not %q", c.key, got, ok, c.want)
		}
	}
	if got, ok := impl.HistPart(p.without(root), next); ok || len(got) != 0 {
		t.Errorf("of nothing %v came, %v", got, ok)
	}
	if got, ok := impl.HistPart(p.without(root), merged); !ok || len(got) != 1 { // the history is not asked for
		t.Errorf("of one of two %v came, %v", got, ok)
	}
	if got, ok := impl.HistPart(append(p.objs(), impl.Object{Key: "z"}), next); ok || len(got) != 0 {
		t.Errorf("among objects that are not ok %v came, %v", got, ok)
	}
}

// checkChange holds LibPick and LibUndo against the document's words, and is P70.
func checkChange(t *testing.T, l impl.Lib, name, key, note string, turned bool) int {
	t.Helper()
	want, refused := changing(l, name, key, note, turned)
	do := impl.LibPick
	if turned {
		do = impl.LibUndo
	}
	got, code := do(l, name, key, note)
	if code != refused || !sameLib(got, want) {
		t.Fatalf("%s, %s, turned %v, to %q: %d, %q, not %d, %q", name, key, turned, seenIn(l), code, seenIn(got), refused, seenIn(want))
	}
	if code != 0 {
		if !sameLib(got, l) {
			t.Fatalf("%s, %s: %d, and something has changed", name, key, code)
		}
		return code
	}
	part, _ := commitAt(l.Objs, key)
	old, _ := impl.HistTree(l.Objs, part.Over[0])
	is, _ := impl.HistTree(l.Objs, key)
	if turned {
		old, is = is, old
	}
	now, _ := impl.HistTree(l.Objs, standingFor(l.Jour, name))
	merged, told, ok := impl.MergeTrees(old, now, is)
	made, _ := impl.HistTree(got.Objs, standingFor(got.Jour, name))
	if !ok || len(told) != 0 || !impl.TreeSame(made, merged) || !impl.LibOk(got) {
		t.Fatalf("%s, %s: the tree is %s, not %s", name, key, textOfTree(made), textOfTree(merged))
	}
	checkKept(t, l, impl.Cmd{Name: name}, got)
	history := historiesIn(got)[name]
	commit, _ := commitAt(got.Objs, history[0])
	if !slices.Equal(history[1:], historiesIn(l)[name]) || commit.Note != note || len(commit.Over) != 1 {
		t.Fatalf("%s, %s: the history is %v, of %v", name, key, history, commit)
	}
	return 0
}

// P70: what is picked is done at another name as it was done where it was; what is undone is turned.
func TestPicksAndUndoings(t *testing.T) {
	c := newChance()
	seen := map[string]int{}
	for _, l := range someLibs(c) {
		keys := []string{"", "none", sumOf("none")}
		for _, object := range l.Objs {
			keys = append(keys, object.Key)
			if strings.HasPrefix(object.Text, "commit") {
				keys = append(keys, object.Key, object.Key, object.Key)
			}
		}
		for range 30 {
			name := c.word("main", "work", "a", "old", "abcdefgh", c.word("none", "z", "", "A"))
			note := c.word("", "n", "twelve bytes", c.word("thirteen text", "\n"))
			turned := c.Intn(2) == 0
			seen[fmt.Sprint("code ", checkChange(t, l, name, c.word(keys...), note, turned), " ", turned)]++
		}
	}
	for what, least := range map[string]int{
		"code 0 true": 30, "code 0 false": 15, "code 1 true": 10, "code 1 false": 5, "code 2 true": 60, "code 2 false": 60, "code 4 true": 60, "code 4 false": 60,
		"code 6 true": 15, "code 6 false": 15, "code 7 true": 30, "code 7 false": 30,
	} {
		if seen[what] < least {
			t.Errorf("%s: only %d, of %v", what, seen[what], seen)
		}
	}
}

// P71: what was just committed can be undone.
func TestWhatWasJustCommittedIsUndone(t *testing.T) {
	c := newChance()
	codes := map[int]int{}
	for _, l := range someLibs(c) {
		refs, _ := impl.JourRead(l.Jour)
		for _, ref := range refs {
			commit, _ := commitAt(l.Objs, ref.Key)
			if len(commit.Over) != 1 {
				continue
			}
			was, _ := treeAt(l.Objs, commit.Over[0])
			is, _ := treeAt(l.Objs, ref.Key)
			fits := impl.MergeFits(is, is, was)
			got, code := impl.LibUndo(l, ref.Name, ref.Key, "undone")
			codes[code]++
			made, _ := impl.HistTree(got.Objs, impl.JourOf(got.Jour, ref.Name))
			if fits && code != 8 && code != 6 && (code != 0 || !sameTree(made, was)) || !fits && code != 7 {
				t.Fatalf("%s of %s, undone: %d, %s", textOfTree(is), textOfTree(was), code, textOfTree(made))
			}
			checkChange(t, l, ref.Name, ref.Key, "undone", true)
		}
	}
	if codes[0] < 80 || codes[6] < 1 || codes[7] < 2 || codes[8] < 1 {
		t.Errorf("too few were undone: %v", codes)
	}
}

// Each code of picks and undoings, and of two that could be given the first.
func TestCodesOfPicks(t *testing.T) {
	long := strings.Repeat("n", 13)
	var p past
	root := p.commit("a#1[a#2,a#3]", "root")
	text := p.commit(`a#1[a#2"x",a#3]`, "text", root)
	unlike := p.commit(`a#1[a#2"y",a#3]`, "unlike", root)
	plus := p.commit("a#1[a#2,a#3,a#4]", "plus", root)
	plusAhead := p.commit("a#1[a#5,a#2,a#3]", "ahead", root)
	same := p.commit("a#1[a#2,a#3]", "same", root)
	other := p.commit("a#9", "other", root)
	none := p.commit("no tree", "none", root)
	behind := p.commit("a#1[a#2,a#3]", "behind", none)
	both := p.commit(`a#1[a#2"x",a#3,a#4]`, "both", text, plus)
	deep := p.commit("a#1[a#2[a#7[a#8]],a#3]", "deep", root)
	apart := p.commit("a#1[a#2,a#3]", "apart")
	l := underNames("root a\na text: a? a? a?\n", p, "root", root, "text", text, "unlike", unlike, "plus", plus, "ahead", plusAhead, "apart", apart, "gone", root, "gone", "-", "both", both)
	full := filledUp(l)
	if !rightLib(l) || !rightLib(full) {
		t.Fatal(faultsOf(l), faultsOf(full))
	}
	for _, c := range []struct {
		lib             impl.Lib
		name, key, note string
		turned          bool
		code            int
	}{
		{l, "text", plus, "n", false, 0}, {l, "apart", text, "twelve bytes", false, 0}, {l, "plus", text, "", false, 0}, {l, "text", text, "", true, 0}, {l, "both", text, "", true, 0}, {l, "both", both, "", true, 0}, {l, "plus", deep, "", false, 0}, {l, "root", both, "", false, 0},
		{l, "text", "", "", false, 4}, {l, "text", "none", "", false, 4}, {l, "text", sumOf("none"), "", true, 4}, {l, "text", sumOf("a#1[a#2,a#3]"), "", false, 4}, {l, "text", root, "", false, 4}, {l, "text", root, "", true, 4}, {l, "text", apart, "", true, 4}, {l, "text", none, "", false, 4}, {l, "text", none, "", true, 4}, {l, "text", behind, "", false, 4}, {l, "text", behind, long, true, 4}, {l, "none", root, "", false, 4}, {l, "", "", long, false, 4}, {full, "none", none, "", true, 4},
		{l, "none", text, "", false, 2}, {l, "none", text, "", true, 2}, {l, "gone", text, "", false, 2}, {l, "", text, "", false, 2}, {l, "Text", text, long, false, 2}, {l, "none", other, "", false, 2}, {full, "none", text, "", false, 2},
		{l, "text", unlike, "", false, 7}, {l, "unlike", text, "", true, 7}, {l, "text", other, "", false, 7}, {l, "text", other, long, true, 7}, {full, "text", unlike, "", false, 7},
		{l, "ahead", plus, "", false, 5}, {l, "plus", plusAhead, "", false, 5}, {l, "ahead", plus, long, false, 5}, {full, "ahead", plus, "", false, 5},
		{l, "text", text, "", false, 6}, {l, "root", text, "", true, 6}, {l, "text", same, "", false, 6}, {l, "text", same, "", true, 6}, {l, "both", plus, long, false, 6}, {full, "text", text, "", false, 6},
		{l, "text", plus, long, false, 1}, {l, "text", plus, "\n", false, 1}, {l, "text", text, "\x7f", true, 1}, {full, "text", plus, long, false, 1}, {full, "text", plus, "n", false, 8}, {full, "text", text, "n", true, 8},
	} {
		if code := checkChange(t, c.lib, c.name, c.key, c.note, c.turned); code != c.code {
			t.Errorf("%s, %.8s, %q, turned %v: %d, not %d", c.name, c.key, c.note, c.turned, code, c.code)
		}
	}
	for length, code := range map[int]int{20: 0, 21: 0, 22: 8, 24: 8} {
		p := line(length)
		key := p.commit("a#1[a#2]", "other", p.commit("a#1", "another"))
		l := underNames(plainSchema, p, "main", p.keys[length-1], "other", key)
		if got := checkChange(t, l, "main", key, "n", false); got != code {
			t.Errorf("picked over %d commits: %d", length, got)
		}
		last := p.commit("a#1[a#3]", "last", p.keys[length-2])
		l = underNames(plainSchema, p, "main", last)
		if got := checkChange(t, l, "main", last, "n", true); got != code {
			t.Errorf("undone over %d commits: %d", length, got)
		}
	}
}

// P72: a library is ok just if nothing is wrong with it.
func TestFaults(t *testing.T) {
	c := newChance()
	seen := map[string]int{}
	check := func(l impl.Lib) {
		want := faultsOf(l)
		got := impl.LibFaults(l)
		if !slices.Equal(got, want) || impl.LibOk(l) != (len(got) == 0) {
			t.Fatalf("wrong with %v is %v, not %v, and it is ok: %v", l, got, want, impl.LibOk(l))
		}
		for _, fault := range want {
			seen[strings.Join(strings.Fields(fault)[:len(strings.Fields(fault))-1], " ")]++
		}
		seen[fmt.Sprint(min(2, len(want)))]++
		if len(want) == 1 && !strings.Contains(want[0], " ") {
			seen[want[0]]++
		}
	}
	for _, l := range someLibs(c) {
		check(l)
		for range 5 {
			bad := c.spoiledLib(l)
			check(bad)
			check(c.spoiledLib(bad))
		}
	}
	for what, least := range map[string]int{"0": 65, "1": 60, "2": 60, "schema": 20, "objects": 20, "journal at": 50, "history of": 50, "tree of": 30, "unfit tree of": 100} {
		if seen[what] < least {
			t.Errorf("%s: only %d, of %v", what, seen[what], seen)
		}
	}
}

func TestKnownFaults(t *testing.T) {
	var p past
	root := p.commit("a#1", "root")
	unfit := p.commit("b#1", "unfit", root)
	none := p.commit("no tree", "none", unfit)
	last := p.commit("a#1", "last", none)
	broken := p.commit("a#1", "broken", sumOf("nothing"))
	many := line(25)
	l := underNames(plainSchema, p, "b", last, "a", root, "d", broken, "c", unfit, "e", broken, "e", "-", "f", none)
	faults := []string{"tree of " + none[:8], "unfit tree of " + unfit[:8], "unfit tree of " + unfit[:8], "history of d", "tree of " + none[:8], "unfit tree of " + unfit[:8]}
	cutOff := l
	cutOff.Jour += "7 a"
	first := underNames(plainSchema, p, "a", unfit)
	first.Jour += "x"
	long := fullLib("dddd")
	noSchema, noObjs, neither := cutOff, cutOff, cutOff
	noSchema.Schema, neither.Schema = impl.Schema{Root: "a"}, impl.Schema{}
	noObjs.Objs = append([]impl.Object{{}}, l.Objs...)
	neither.Objs = noObjs.Objs
	for name, c := range map[string]struct {
		lib  impl.Lib
		want []string
	}{
		"nothing": {underNames(plainSchema, p, "a", root), nil}, "no names": {underNames(plainSchema, p), nil}, "all names": {l, faults}, "and the journal": {cutOff, append([]string{"journal at " + strconv.Itoa(len(l.Jour))}, faults...)},
		"a journal of no lines": {underNamesAnd(p, "x"), []string{"journal at 0"}}, "a journal of one": {first, []string{"journal at " + strconv.Itoa(len(first.Jour)-1), "unfit tree of " + unfit[:8]}}, "4001 bytes": {long, []string{"journal at 4001"}}, "4000 bytes": {fullLib("ddd"), nil},
		"no schema": {noSchema, []string{"schema"}}, "no objects": {noObjs, []string{"objects"}}, "neither": {neither, []string{"schema"}}, "nothing at all": {impl.Lib{}, []string{"schema"}},
		"25 commits": {underNames(plainSchema, many, "a", many.keys[24], "b", many.keys[23]), []string{"history of a"}}, "a name for a tree": {underNames(plainSchema, p, "abcdefgh", sumOf("a#1"), "a", root), []string{"history of abcdefgh"}},
	} {
		if got := impl.LibFaults(c.lib); !slices.Equal(got, c.want) || !slices.Equal(faultsOf(c.lib), c.want) {
			t.Errorf("%s: wrong is %v, not %v", name, got, c.want)
		}
	}
}

func underNamesAnd(p past, more string) impl.Lib {
	l := underNames(plainSchema, p)
	l.Jour += more
	return l
}

// P73: a library can be written as one text and read again without a change.
func TestLibrariesAreSavedAndLoaded(t *testing.T) {
	c := newChance()
	written := map[bool]int{}
	for _, l := range someLibs(c) {
		for at, one := range []impl.Lib{l, c.spoiledLib(l)} {
			want := saved(one)
			text := impl.LibSave(one)
			if text != want || at == 0 && (text == "") != (len(l.Objs) > 60) {
				t.Fatalf("%v is written as %q, not %q", one, text, want)
			}
			written[text != ""]++
			got, ok := impl.LibLoad(text)
			if ok != (text != "") || ok && (!sameLib(got, one) || impl.LibSee(got) != impl.LibSee(one) || impl.LibSave(got) != text) {
				t.Fatalf("%q is read as %v, %v", text, got, ok)
			}
			if !ok && !sameLib(got, impl.Lib{}) {
				t.Fatalf("nothing is read as %v", got)
			}
		}
	}
	if written[true] < 60 || written[false] < 30 {
		t.Errorf("too few were written, or not: %v", written)
	}
}

func checkLoad(t *testing.T, text string) bool {
	t.Helper()
	want, right := loaded(text)
	got, ok := impl.LibLoad(text)
	if ok != right || !sameLib(got, want) {
		t.Fatalf("%q is read as %v, %v, not %v", text, got, ok, want)
	}
	if ok && impl.LibSave(got) != text {
		t.Fatalf("%q is read, and written as %q", text, impl.LibSave(got))
	}
	return ok
}

func TestNothingElseIsLoaded(t *testing.T) {
	l := twoNames()
	schema, pack := plainSchema, impl.PackWrite(l.Objs)
	head := fmt.Sprintf("library %d %d\n", len(schema), len(l.Jour))
	empty := "library " + strconv.Itoa(len(schema)) + " 0\n" + schema + sumOf("")
	if !checkLoad(t, head+schema+l.Jour+pack) || !checkLoad(t, empty) {
		t.Fatal("a library is not read")
	}
	sized := func(first, second any) string { return fmt.Sprintf("library %v %v\n", first, second) }
	n, m := len(schema), len(l.Jour)
	lost := slices.DeleteFunc(twoNames().Objs, func(object impl.Object) bool { return object.Key == standingFor(l.Jour, "old") })
	unfit := "root a\na text:\n"
	for name, text := range map[string]string{
		"nothing": "", "the head alone": head, "no head": schema + l.Jour + pack, "no schema": sized(0, m) + l.Jour + pack, "no journal, but its size": head + schema + pack, "no pack": head + schema + l.Jour, "no sum": sized(n, 0) + schema, "half a sum": sized(n, 0) + schema + sumOf("")[:32],
		"another word": "Library" + head[7:] + schema + l.Jour + pack, "a space ahead": " " + head + schema + l.Jour + pack, "two spaces": "library  " + head[8:] + schema + l.Jour + pack, "a space behind": head[:len(head)-1] + " \n" + schema + l.Jour + pack, "no newline": head[:len(head)-1] + schema + l.Jour + pack, "one size": fmt.Sprintf("library %d\n", n) + schema + l.Jour + pack, "three sizes": sized(n, fmt.Sprint(m, " 0")) + schema + l.Jour + pack,
		"noughts ahead": sized("0"+strconv.Itoa(n), m) + schema + l.Jour + pack, "noughts ahead of the other": sized(n, "0"+strconv.Itoa(m)) + schema + l.Jour + pack, "a sign": sized("+"+strconv.Itoa(n), m) + schema + l.Jour + pack, "below nothing": sized(n, "-1") + schema + pack, "two noughts": sized(n, "00") + schema + sumOf(""), "no size": sized("", m) + schema + l.Jour + pack, "vast sizes": sized(strings.Repeat("9", 40), m) + schema + l.Jour + pack, "seven figures": sized(n, 1000000) + schema + l.Jour + pack, "six figures": sized(999999, m) + schema + l.Jour + pack,
		"a size less": sized(n-1, m) + schema + l.Jour + pack, "a size more": sized(n+1, m) + schema + l.Jour + pack, "a journal less": sized(n, m-1) + schema + l.Jour + pack, "a journal more": sized(n, m+1) + schema + l.Jour + pack, "one for the other": sized(m, n) + schema + l.Jour + pack, "one to the other": sized(n+1, m-1) + schema + l.Jour + pack, "all for the journal": sized(n, m+len(pack)) + schema + l.Jour + pack,
		"another order": sized(n, m) + l.Jour + schema + pack, "more behind": head + schema + l.Jour + pack + "\n", "twice": head + schema + l.Jour + pack + head + schema + l.Jour + pack,
		"a journal that is not right": sized(n, m-1) + schema + l.Jour[:m-1] + pack, "a schema that is not ok": sized(11, m) + "root a\na: b\n"[:11] + l.Jour + pack, "a schema that does not fit": sized(len(unfit), m) + unfit + l.Jour + pack, "an object that is missing": head + schema + l.Jour + impl.PackWrite(lost), "no objects": head + schema + l.Jour + sumOf(""),
	} {
		if checkLoad(t, text) {
			t.Errorf("%s: it is read", name)
		}
	}
	c := newChance()
	for _, text := range []string{empty, head + schema + l.Jour + pack} {
		for at, changed := range c.changes(text, " ", "\n", "0", "1", "a", "f", "A", "\x00", "\xff", "library ", "w0:") {
			if at < 600 || at%7 == 0 {
				checkLoad(t, changed)
			}
		}
	}
}

// As many objects as a pack may have, and as long; one more, and it is not written.
func TestLibrariesAreSavedAtTheLimits(t *testing.T) {
	c := newChance()
	for objs := 58; objs <= 62; objs++ {
		p := line(20) // and one tree: 21 objects
		for at := range objs - 21 {
			p.put("more " + strconv.Itoa(at))
		}
		l := underNames(plainSchema, p, "main", p.keys[19])
		text := impl.LibSave(l)
		if len(l.Objs) != objs || (text != "") != (objs <= 60) || text != saved(l) || !impl.LibOk(l) {
			t.Errorf("%d objects are written in %d bytes", len(l.Objs), len(text))
		}
		if objs <= 60 && !checkLoad(t, text) {
			t.Errorf("%d objects are not read", objs)
		}
	}
	for size, can := range map[int]bool{6000: true, 6001: false} {
		p := line(3)
		p.put(c.long(size))
		l := underNames(plainSchema, p, "main", p.keys[2])
		if text := impl.LibSave(l); (text != "") != can || text != saved(l) || can && !checkLoad(t, text) {
			t.Errorf("an object of %d bytes is written in %d", size, len(text))
		}
	}
	for _, l := range []impl.Lib{fullLib("ddd"), underNames(plainSchema, line(24), "a", line(24).keys[23]), {Schema: someSchemas()[1]}} {
		if text := impl.LibSave(l); text == "" || !checkLoad(t, text) {
			t.Errorf("%v is written as %q", l, text)
		}
	}
	for _, l := range []impl.Lib{fullLib("dddd"), underNames(plainSchema, line(25), "a", line(25).keys[24]), {}} {
		if text := impl.LibSave(l); text != "" {
			t.Errorf("%v is written as %q", l, text)
		}
	}
	p := line(2)
	long := underNames(plainSchema, p, "a", p.keys[1])
	long.Jour = fullLib("dddd").Jour
	long.Objs = fullLib("dddd").Objs
	pack, _ := packOf(long.Objs)
	if checkLoad(t, fmt.Sprintf("library %d %d\n%s%s%s", len(plainSchema), len(long.Jour), plainSchema, long.Jour, pack)) {
		t.Error("a journal of 4001 bytes is read")
	}
}
