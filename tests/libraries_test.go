package tests

import (
	"fmt"
	"maps"
	"math"
	"slices"
	"strconv"
	"strings"
	"testing"

	"loop.example/codicil/impl"
)

func TestKindsAndCodesOfCommands(t *testing.T) {
	kinds := []int{impl.CmdCommit, impl.CmdBranch, impl.CmdMerge, impl.CmdDrop, impl.CmdSweep, impl.CmdPack}
	if !slices.Equal(kinds, []int{1, 2, 3, 4, 5, 6}) {
		t.Errorf("the kinds of commands are %v", kinds)
	}
	codes := []int{impl.LibBad, impl.LibNoName, impl.LibThere, impl.LibNoTree, impl.LibUnfit, impl.LibNothing, impl.LibConflict, impl.LibFull, impl.LibApart}
	if !slices.Equal(codes, []int{1, 2, 3, 4, 5, 6, 7, 8, 9}) {
		t.Errorf("the codes are %v", codes)
	}
}

// P50: a new library has nothing, and is ok just if its schema is.
func TestNewLibraries(t *testing.T) {
	for _, s := range someSchemas() {
		l := impl.LibNew(s)
		if !sameLib(l, impl.Lib{Schema: s}) || !impl.LibOk(l) || impl.LibSee(l) != "library\n" {
			t.Fatalf("the new library of %q is %v", textOfSchema(s), l)
		}
	}
	for _, s := range badSchemas() {
		if l := impl.LibNew(s); !sameLib(l, impl.Lib{}) || impl.LibOk(l) || impl.LibSee(l) != "" {
			t.Errorf("the new library of %v is %v", s, l)
		}
	}
}

// checkCmd holds LibDo of a library that is ok against the document's words, and is P44.
func checkCmd(t *testing.T, l impl.Lib, c impl.Cmd) (impl.Lib, int) {
	t.Helper()
	want, refused := doneTo(l, c)
	got, code := impl.LibDo(l, c)
	if code != refused || !sameLib(got, want) {
		t.Fatalf("%v to %q: %d, %q, not %d, %q", c, seenIn(l), code, seenIn(got), refused, seenIn(want))
	}
	if !impl.LibOk(got) || code != 0 && !sameLib(got, l) {
		t.Fatalf("%v to %q: %d, and what is left is %v", c, seenIn(l), code, got)
	}
	return got, code
}

// P44, P45, P46, P47: sessions by chance; of each kind and code there are enough.
func TestCommandsByChance(t *testing.T) {
	seen := map[string]int{}
	for _, m := range someMoments() {
		got, code := checkCmd(t, m.lib, m.cmd)
		seen[fmt.Sprint("code ", code)]++
		if code != 0 {
			continue
		}
		checkKept(t, m.lib, m.cmd, got)
		switch m.cmd.Kind {
		case impl.CmdCommit:
			checkCommitted(t, m.lib, m.cmd, got)
		case impl.CmdMerge:
			seen[checkMerged(t, m.lib, m.cmd, got)]++
		}
		seen[fmt.Sprint("kind ", m.cmd.Kind)]++
	}
	for what, least := range map[string]int{
		"code 0": 600, "code 1": 15, "code 2": 30, "code 3": 20, "code 5": 40, "code 6": 40, "code 7": 20, "code 9": 15,
		"kind 1": 250, "kind 2": 60, "kind 3": 60, "kind 4": 20, "kind 5": 20, "kind 6": 20, "merged": 25, "came of it": 25,
	} {
		if seen[what] < least {
			t.Errorf("%s: only %d, of %v", what, seen[what], seen)
		}
	}
}

// historiesIn is the history of each name, by HistAll.
func historiesIn(l impl.Lib) map[string][]string {
	histories := map[string][]string{}
	refs, _ := impl.JourRead(l.Jour)
	for _, ref := range refs {
		histories[ref.Name], _ = impl.HistAll(l.Objs, ref.Key)
	}
	return histories
}

// checkKept is P45, and that no other name stands for something else.
func checkKept(t *testing.T, before impl.Lib, c impl.Cmd, after impl.Lib) {
	t.Helper()
	now := historiesIn(after)
	for name, history := range historiesIn(before) {
		if name == c.Name && c.Kind == impl.CmdDrop {
			if impl.JourOf(after.Jour, name) != "" {
				t.Fatalf("%s is dropped, and stands for something", name)
			}
			continue
		}
		if name != c.Name && !slices.Equal(now[name], history) {
			t.Fatalf("%v: %s has the history %v, and had %v", c, name, now[name], history)
		}
		for _, key := range history {
			if !slices.Contains(now[name], key) {
				t.Fatalf("%v: %s has lost %s", c, name, key)
			}
		}
	}
	for name := range now {
		if impl.JourOf(before.Jour, name) == "" && name != c.Name {
			t.Fatalf("%v: %s stands for something", c, name)
		}
	}
}

// checkCommitted is P46.
func checkCommitted(t *testing.T, before impl.Lib, c impl.Cmd, after impl.Lib) {
	t.Helper()
	tree, there := impl.HistTree(after.Objs, impl.JourOf(after.Jour, c.Name))
	was, now := historiesIn(before)[c.Name], historiesIn(after)[c.Name]
	if !there || impl.TreeWrite(tree) != c.Tree || len(now) != len(was)+1 || !slices.Equal(now[1:], was) {
		t.Fatalf("%v: the tree is %s, and the history %v, behind %v", c, textOfTree(tree), now, was)
	}
}

// checkMerged is P47, and says what the merge was.
func checkMerged(t *testing.T, before impl.Lib, c impl.Cmd, after impl.Lib) string {
	t.Helper()
	into, from, now := impl.JourOf(before.Jour, c.Name), impl.JourOf(before.Jour, c.From), impl.JourOf(after.Jour, c.Name)
	histories := historiesIn(before)
	for _, key := range slices.Concat(histories[c.Name], histories[c.From]) {
		if !slices.Contains(historiesIn(after)[c.Name], key) {
			t.Fatalf("%v: %s is not in the history", c, key)
		}
	}
	if slices.Contains(histories[c.From], into) {
		if now != from || len(after.Objs) != len(before.Objs) {
			t.Fatalf("%v: %s came of %s, and now is %s", c, from, into, now)
		}
		return "came of it"
	}
	base, _ := impl.HistBase(before.Objs, into, from)
	old, _ := impl.HistTree(before.Objs, base)
	a, _ := impl.HistTree(before.Objs, into)
	b, _ := impl.HistTree(before.Objs, from)
	want, told, ok := impl.MergeTrees(old, a, b)
	got, _ := impl.HistTree(after.Objs, now)
	commit, _ := commitAt(after.Objs, now)
	if !ok || len(told) != 0 || !sameTree(got, want) || !slices.Equal(commit.Over, []string{into, from}) || commit.Note != c.Note {
		t.Fatalf("%v: %s, over %v", c, textOfTree(got), commit.Over)
	}
	return "merged"
}

// P42: wherever power is lost, a library is as ahead of a command, or behind it.
func TestPowerIsLost(t *testing.T) {
	done, refused := 0, 0
	for at, m := range someMoments() {
		if at%12 != 0 && (at%3 != 0 || m.cmd.Kind != impl.CmdSweep) {
			continue
		}
		d := deedOf(m.lib, m.cmd)
		after := d.left(m.lib, math.MaxInt, math.MaxInt)
		showing := []string{impl.LibSee(m.lib), impl.LibSee(after)}
		known := map[string]bool{}
		for _, objs := range []int{math.MinInt, -1, 0, 1, 2, 3, 7, len(d.gone) - 1, len(d.gone), len(d.gone) + 1, math.MaxInt} {
			for _, bytes := range []int{math.MinInt, -1, 0, 1, 2, 40, len(d.line) - 1, len(d.line), len(d.line) + 1, math.MaxInt} {
				checkLeft(t, m, d, objs, bytes, showing, known)
			}
		}
		if got := impl.LibCrash(m.lib, m.cmd, 1000, 1000); !sameLib(got, after) {
			t.Fatalf("%v, with all power: %v, not %v", m.cmd, got, after)
		}
		if d.code != 0 {
			refused++
		} else {
			done++
		}
	}
	if done < 60 || refused < 40 {
		t.Errorf("%d were done, %d refused", done, refused)
	}
}

// checkLeft holds LibCrash against the document's words, and what is left against what was to be seen; known is what was left already.
func checkLeft(t *testing.T, m moment, d deed, objs, bytes int, showing []string, known map[string]bool) {
	t.Helper()
	want := m.lib
	if d.code == 0 {
		want = d.left(m.lib, objs, bytes)
	}
	got := impl.LibCrash(m.lib, m.cmd, objs, bytes)
	if !sameLib(got, want) {
		t.Fatalf("%v to %v, with power for %d and %d: %v, not %v", m.cmd, m.lib, objs, bytes, got, want)
	}
	told := fmt.Sprint(got)
	if known[told] {
		return
	}
	known[told] = true
	again, ok := impl.LibOpen(got)
	if shown := impl.LibSee(again); !ok || shown == "" || !slices.Contains(showing, shown) {
		t.Fatalf("%v to %q, with power for %d and %d, is opened as %q, %v", m.cmd, showing[0], objs, bytes, shown, ok)
	}
}

// P42: power is lost at each byte.
func TestPowerIsLostAtEachByte(t *testing.T) {
	l := twoNames()
	for _, c := range []impl.Cmd{
		{Kind: 1, Name: "main", Tree: `a#1"new"`}, {Kind: 1, Name: "new", Tree: "a#7"}, {Kind: 2, Name: "new", From: "work"}, {Kind: 3, Name: "main", From: "work"},
		{Kind: 3, Name: "old", From: "main"}, {Kind: 4, Name: "main"}, {Kind: 6}, {Kind: 5}, {Kind: 4, Name: "none"},
	} {
		m := moment{lib: l, cmd: c}
		d := deedOf(l, c)
		showing := []string{impl.LibSee(l), impl.LibSee(d.left(l, 2, 100))}
		if (showing[0] == showing[1]) != (c.Kind > 4 || d.code != 0) {
			t.Fatalf("%v does nothing: %q", c, showing)
		}
		known := map[string]bool{}
		for objs := range 4 {
			for bytes := range 100 {
				checkLeft(t, m, d, objs, bytes, showing, known)
			}
		}
	}
}

// twoNames is a library in which main and work came of old, and there is something that no name has.
func twoNames() impl.Lib {
	var p past
	old := p.commit(`a#1[a#2,a#3]`, "old")
	first := p.commit(`a#1[a#2"x",a#3]`, "main", old)
	second := p.commit(`a#1[a#2,a#3"y"]`, "work", old)
	p.commit(`a#9`, "lost", second)
	p.put("nothing")
	return underNames(plainSchema, p, "main", first, "old", old, "work", second)
}

// What is written first is there first: the tree, its commit, and then the journal. What is there already is put all the same.
func TestWhatIsWrittenFirst(t *testing.T) {
	l := twoNames()
	has := func(l impl.Lib, text string) bool { _, there := gotten(l.Objs, sumOf(text)); return there }
	for name, c := range map[string]struct {
		cmd  impl.Cmd
		tree string
	}{
		"a new tree": {impl.Cmd{Kind: 1, Name: "main", Tree: `a#1"new"`, Note: "n"}, `a#1"new"`}, "a tree that is there": {impl.Cmd{Kind: 1, Name: "main", Tree: `a#1[a#2,a#3"y"]`, Note: "n"}, `a#1[a#2,a#3"y"]`},
		"a merge": {impl.Cmd{Kind: 3, Name: "main", From: "work", Note: "n"}, `a#1[a#2"x",a#3"y"]`}, "a first commit": {impl.Cmd{Kind: 1, Name: "new", Tree: "a#9", Note: "n"}, "a#9"},
	} {
		over := []string{}
		if key := standingFor(l.Jour, c.cmd.Name); key != "" {
			over = append(over, key)
		}
		if c.cmd.Kind == 3 {
			over = append(over, standingFor(l.Jour, "work"))
		}
		commit := textOfCommit(impl.Commit{Over: over, Tree: sumOf(c.tree), Note: "n"})
		was := has(l, c.tree)
		for objs, want := range [][3]bool{{was, false, false}, {true, false, false}, {true, true, true}, {true, true, true}} {
			left := impl.LibCrash(l, c.cmd, objs, 1000)
			if got := [3]bool{has(left, c.tree), has(left, commit), left.Jour != l.Jour}; got != want {
				t.Errorf("%s: with %d objects there are tree, commit and line: %v", name, objs, got)
			}
			if left := impl.LibCrash(l, c.cmd, objs, 0); left.Jour != l.Jour {
				t.Errorf("%s: with %d objects and no byte, there is a line", name, objs)
			}
		}
	}
}

// What a sweep takes out goes from the first on; what an object is put for does not go by bytes, and the other way round.
func TestSweepsAndPacksWithoutPower(t *testing.T) {
	l := twoNames()
	gone := outsideOf(l)
	if len(gone) != 3 {
		t.Fatalf("%v are to go", gone)
	}
	for objs := -1; objs <= 4; objs++ {
		for _, bytes := range []int{-1, 0, 1000} {
			left := impl.LibCrash(l, impl.Cmd{Kind: 5}, objs, bytes)
			want := slices.DeleteFunc(slices.Clone(l.Objs), func(object impl.Object) bool { return slices.Contains(gone[:upTo(objs, 3)], object.Key) })
			if !slices.Equal(left.Objs, want) || left.Jour != l.Jour {
				t.Errorf("with power for %d and %d a sweep leaves %v", objs, bytes, left)
			}
		}
	}
	l.Jour += lineOf(3, "work", "-")
	for _, objs := range []int{-1, 0, 1000} {
		for bytes, want := range map[int]string{-1: l.Jour, 0: l.Jour, 1: packedJour(l.Jour), 2: packedJour(l.Jour), math.MinInt: l.Jour} {
			if left := impl.LibCrash(l, impl.Cmd{Kind: 6}, objs, bytes); left.Jour != want || !slices.Equal(left.Objs, l.Objs) {
				t.Errorf("with power for %d and %d a pack leaves %v", objs, bytes, left)
			}
		}
	}
}

// P43: to open a library once more changes nothing.
func TestLibrariesAreOpened(t *testing.T) {
	c := newChance()
	can := map[bool]int{}
	for _, l := range someLibs(c) {
		can[checkOpened(t, l)]++
		for range 3 {
			can[checkOpened(t, c.spoiledLib(l))]++
		}
		l.Jour = l.Jour[:c.Intn(len(l.Jour)+1)]
		can[checkOpened(t, l)]++
	}
	if can[true] < 150 || can[false] < 60 {
		t.Errorf("too few are opened, or not: %v", can)
	}
}

func checkOpened(t *testing.T, l impl.Lib) bool {
	t.Helper()
	want, can := opened(l)
	got, ok := impl.LibOpen(l)
	if ok != can || !sameLib(got, want) {
		t.Fatalf("%v is opened as %v, %v, not %v, %v", l, got, ok, want, can)
	}
	if rightLib(l) && (!ok || !sameLib(got, l)) {
		t.Fatalf("%v is ok, and opened as %v", l, got)
	}
	again, too := impl.LibOpen(got)
	if ok && (!too || !sameLib(again, got) || !impl.LibOk(got)) || !ok && too {
		t.Fatalf("%v is opened as %v, and that as %v, %v", l, got, again, too)
	}
	return ok
}

// someLibs are libraries that are ok: some of sessions by chance, and some whose limits are met.
func someLibs(c chance) []impl.Lib {
	list := []impl.Lib{twoNames(), underNames(plainSchema, past{}), underNames(plainSchema, line(24), "a", line(24).keys[23]), underNames(plainSchema, ladder(24), "main", ladder(24).keys[23], "work", ladder(24).keys[10])}
	list = append(list, fullLib("ddd"))
	for range 60 {
		list = append(list, someMoments()[c.Intn(len(someMoments()))].lib)
	}
	return list
}

// fullLib is a library whose journal has just so many bytes as it may have, and as many more as its last name has more than three.
func fullLib(name string) impl.Lib {
	var p past
	x := p.commit("a#1", "x")
	y := p.commit(`a#1"y"`, "y", x)
	l := underNames(plainSchema, p)
	for place := range 49 {
		l.Jour += lineOf(place, []string{"a", "bb", "bb", "ccc", "ccc"}[place/10], x)
	}
	l.Jour += lineOf(49, name, y)
	return l
}

// spoiledLib is a library that was changed in one way or another, so that mostly something is wrong with it.
func (c chance) spoiledLib(l impl.Lib) impl.Lib {
	l.Objs = slices.Clone(l.Objs)
	switch n := c.Intn(12); {
	case n == 0:
		l.Schema = badSchemas()[c.Intn(len(badSchemas()))]
	case n < 3:
		other, _ := schemaOfText(c.word("root b\na: b\nb:\n", "root a\na:\n", "root a\na: a*\n", "root a\na text: b*\nb text:\n"))
		l.Schema = other
	case n < 8 && len(l.Objs) > 0:
		at := c.Intn(len(l.Objs))
		for range 1 + c.Intn(3) {
			l.Objs = slices.Delete(l.Objs, min(at, len(l.Objs)-1), min(at+1, len(l.Objs)))
			if len(l.Objs) == 0 {
				break
			}
		}
	case n == 8 && len(l.Objs) > 0:
		l.Objs[c.Intn(len(l.Objs))].Text += "x"
	case n == 9:
		_, _, lines := toldBy(l.Jour)
		l.Jour += lineOf(lines, "new", c.word(sumOf("none"), sumOf("a#1"), sumOf(plainSchema)))
	default:
		l.Jour += c.word("x", "\n", lineOf(999, "a", "-"), lineOf(0, "a", sumOf("x"))[:40])
	}
	return l
}

// P44: a library that is not ok is answered by nothing, whatever is asked of it.
func TestLibrariesThatAreNotOk(t *testing.T) {
	c := newChance()
	wrong := 0
	for _, l := range someLibs(c) {
		for range 4 {
			bad := c.spoiledLib(l)
			if checkOk(t, bad) {
				continue
			}
			wrong++
			cmd := c.cmd(l)
			if c.Intn(3) == 0 {
				cmd = impl.Cmd{Kind: 5 + c.Intn(2)}
			}
			checkNothing(t, bad, cmd)
		}
	}
	if wrong < 100 {
		t.Errorf("only %d were wrong", wrong)
	}
	checkNothing(t, impl.Lib{}, impl.Cmd{})
	checkNothing(t, impl.Lib{}, impl.Cmd{Kind: 5})
	checkNothing(t, fullLib("dddd"), impl.Cmd{Kind: 6})
}

func checkOk(t *testing.T, l impl.Lib) bool {
	t.Helper()
	right := rightLib(l)
	if got := impl.LibOk(l); got != right {
		t.Fatalf("%v is ok: %v, and wrong is %v", l, got, faultsOf(l))
	}
	return right
}

func checkNothing(t *testing.T, l impl.Lib, cmd impl.Cmd) {
	t.Helper()
	got, code := impl.LibDo(l, cmd)
	left := impl.LibCrash(l, cmd, 5, 500)
	picked, first := impl.LibPick(l, cmd.Name, standingFor(l.Jour, "main"), "n")
	undone, second := impl.LibUndo(l, cmd.Name, standingFor(l.Jour, "main"), "n")
	for _, one := range []impl.Lib{got, left, picked, undone} {
		if !sameLib(one, impl.Lib{}) {
			t.Fatalf("%v is not ok, and %v leaves %v", l, cmd, one)
		}
	}
	if code != 1 || first != 1 || second != 1 || impl.LibOk(l) || impl.LibSee(l) != "" || impl.LibSave(l) != "" {
		t.Fatalf("%v is not ok, and is answered by %d, %d, %d, %q", l, code, first, second, impl.LibSee(l))
	}
}

// What must be so of a library, one thing after the other being not so.
func TestLibrariesThatAreOkJustSo(t *testing.T) {
	many := line(25)
	good, noTree, unfit := past{}, past{}, past{}
	first := good.commit("a#1", "first")
	good.commit("a#1[a#2]", "next", first)
	noTree.commit("no tree", "first")
	noTree.commit("a#1", "next", noTree.keys[0])
	unfit.commit("b#1", "first")
	unfit.commit("a#1", "next", unfit.keys[0])
	next := good.keys[1]
	for name, c := range map[string]struct {
		lib impl.Lib
		ok  bool
	}{
		"a library":               {underNames(plainSchema, good, "a", next), true},
		"no names":                {underNames(plainSchema, good), true},
		"a history of 24":         {underNames(plainSchema, many, "a", many.keys[23]), true},
		"a history of 25":         {underNames(plainSchema, many, "a", many.keys[24]), false},
		"25 of another name":      {underNames(plainSchema, many, "a", many.keys[23], "b", many.keys[24]), false},
		"25 ahead of a drop":      {underNames(plainSchema, many, "a", many.keys[24], "a", "-"), true},
		"no tree behind it":       {underNames(plainSchema, noTree, "a", noTree.keys[1]), false},
		"an unfit tree behind it": {underNames(plainSchema, unfit, "a", unfit.keys[1]), false},
		"unfit, and no name's":    {underNames(plainSchema, unfit), true},
		"a name for a tree":       {underNames(plainSchema, good, "a", sumOf("a#1")), false},
		"a name for nothing":      {underNames(plainSchema, good, "a", sumOf("none")), false},
		"and later for a commit":  {underNames(plainSchema, good, "a", sumOf("none"), "a", next), true},
		"4000 bytes":              {fullLib("ddd"), true},
		"4001 bytes":              {fullLib("dddd"), false},
	} {
		if checkOk(t, c.lib) != c.ok {
			t.Errorf("%s: it is not %v", name, c.ok)
		}
		if c.ok {
			c.lib.Jour += "0"
			checkOk(t, c.lib)
		}
	}
}

// Each command has just what its kind has; its names are names.
func TestCommandsThatAreBad(t *testing.T) {
	l := twoNames()
	for _, c := range []impl.Cmd{
		{}, {Kind: -1}, {Kind: 7}, {Kind: math.MaxInt}, {Kind: 7, Name: "main"}, {Kind: 0, Name: "main", Tree: "a#1"},
		{Kind: 1, Tree: "a#1"}, {Kind: 1, Name: "new", From: "main", Tree: "a#1"}, {Kind: 1, Name: "abcdefghi", Tree: "a#1"}, {Kind: 1, Name: "A", Tree: "a#1"}, {Kind: 1, Name: "a b", Tree: "a#1"}, {Kind: 1, Name: "-", Tree: "no"},
		{Kind: 2, Name: "new"}, {Kind: 2, From: "main"}, {Kind: 2, Name: "new", From: "main", Tree: "a#1"}, {Kind: 2, Name: "new", From: "main", Note: "n"}, {Kind: 2, Name: "new", From: "Main"}, {Kind: 2, Name: "new1", From: "main"}, {Kind: 2, Name: "abcdefghi", From: "main"}, {Kind: 2, Name: "new", From: "abcdefghi"},
		{Kind: 3, Name: "main"}, {Kind: 3, From: "main"}, {Kind: 3, Name: "main", From: "work", Tree: "a#1"}, {Kind: 3, Name: "main", From: "work "}, {Kind: 3, Name: "\xff", From: "work"},
		{Kind: 4}, {Kind: 4, Name: "main", From: "work"}, {Kind: 4, Name: "main", Tree: "a#1"}, {Kind: 4, Name: "main", Note: "n"}, {Kind: 4, Name: "MAIN"}, {Kind: 4, Name: "abcdefghi"},
		{Kind: 5, Name: "main"}, {Kind: 5, From: "main"}, {Kind: 5, Tree: "a#1"}, {Kind: 5, Note: "n"}, {Kind: 6, Name: "main"}, {Kind: 6, From: "main"}, {Kind: 6, Tree: "a#1"}, {Kind: 6, Note: "n"},
	} {
		if _, code := checkCmd(t, l, c); code != 1 {
			t.Errorf("%v is answered by %d", c, code)
		}
	}
	for _, c := range []impl.Cmd{{Kind: 1, Name: "abcdefgh", Tree: "a#1", Note: "twelve bytes"}, {Kind: 1, Name: "z", Tree: "a#1"}, {Kind: 2, Name: "abcdefgh", From: "main"}, {Kind: 3, Name: "main", From: "work"}, {Kind: 4, Name: "main"}, {Kind: 5}, {Kind: 6}} {
		if _, code := checkCmd(t, l, c); code != 0 {
			t.Errorf("%v is answered by %d", c, code)
		}
	}
}

// Each code, and of two that could be given the first.
func TestCodesOfCommands(t *testing.T) {
	long, odd := strings.Repeat("n", 13), "\n"
	l := codeLib()
	full := filledUp(l)
	if !rightLib(full) {
		t.Fatalf("%d bytes: %v", len(full.Jour), faultsOf(full))
	}
	for _, c := range []struct {
		lib  impl.Lib
		cmd  impl.Cmd
		code int
	}{
		{l, impl.Cmd{Kind: 1, Name: "new", Tree: "a#1"}, 0}, {l, impl.Cmd{Kind: 1, Name: "new", Tree: "a"}, 4}, {l, impl.Cmd{Kind: 1, Name: "new"}, 4}, {l, impl.Cmd{Kind: 1, Name: "new", Tree: "a", Note: long}, 4}, {full, impl.Cmd{Kind: 1, Name: "new", Tree: "a#1 "}, 4},
		{l, impl.Cmd{Kind: 1, Name: "new", Tree: "b#1"}, 5}, {l, impl.Cmd{Kind: 1, Name: "main", Tree: "b#1", Note: odd}, 5}, {full, impl.Cmd{Kind: 1, Name: "main", Tree: "b#1"}, 5},
		{l, impl.Cmd{Kind: 1, Name: "main", Tree: `a#1[a#2"x",a#3]`}, 6}, {l, impl.Cmd{Kind: 1, Name: "main", Tree: `a#1[a#2"x",a#3]`, Note: long}, 6}, {full, impl.Cmd{Kind: 1, Name: "main", Tree: `a#1[a#2"x",a#3]`}, 6}, {l, impl.Cmd{Kind: 1, Name: "main", Tree: `a#1[a#2,a#3]`}, 0},
		{l, impl.Cmd{Kind: 1, Name: "work", Tree: `a#1[a#2"x",a#3]`}, 0}, {l, impl.Cmd{Kind: 1, Name: "gone", Tree: "a#1[a#2,a#3]"}, 0},
		{l, impl.Cmd{Kind: 1, Name: "main", Tree: "a#1", Note: long}, 1}, {l, impl.Cmd{Kind: 1, Name: "main", Tree: "a#1", Note: odd}, 1}, {l, impl.Cmd{Kind: 1, Name: "main", Tree: "a#1", Note: "\x7f"}, 1}, {full, impl.Cmd{Kind: 1, Name: "main", Tree: "a#1", Note: long}, 1}, {full, impl.Cmd{Kind: 1, Name: "main", Tree: "a#1"}, 8}, {l, impl.Cmd{Kind: 1, Name: "long", Tree: "a#9", Note: long}, 1}, {l, impl.Cmd{Kind: 1, Name: "long", Tree: "a#9"}, 8},
		{l, impl.Cmd{Kind: 2, Name: "new", From: "main"}, 0}, {l, impl.Cmd{Kind: 2, Name: "new", From: "none"}, 2}, {l, impl.Cmd{Kind: 2, Name: "main", From: "none"}, 2}, {l, impl.Cmd{Kind: 2, Name: "none", From: "none"}, 2}, {l, impl.Cmd{Kind: 2, Name: "new", From: "gone"}, 2}, {full, impl.Cmd{Kind: 2, Name: "new", From: "none"}, 2},
		{l, impl.Cmd{Kind: 2, Name: "main", From: "work"}, 3}, {l, impl.Cmd{Kind: 2, Name: "main", From: "main"}, 3}, {full, impl.Cmd{Kind: 2, Name: "main", From: "work"}, 3}, {full, impl.Cmd{Kind: 2, Name: "new", From: "work"}, 8}, {l, impl.Cmd{Kind: 2, Name: "gone", From: "long"}, 0},
		{l, impl.Cmd{Kind: 3, Name: "main", From: "work", Note: "n"}, 0}, {l, impl.Cmd{Kind: 3, Name: "main", From: "none"}, 2}, {l, impl.Cmd{Kind: 3, Name: "none", From: "main"}, 2}, {l, impl.Cmd{Kind: 3, Name: "none", From: "none"}, 2}, {l, impl.Cmd{Kind: 3, Name: "gone", From: "main", Note: long}, 2}, {full, impl.Cmd{Kind: 3, Name: "none", From: "main"}, 2},
		{l, impl.Cmd{Kind: 3, Name: "main", From: "apart"}, 9}, {l, impl.Cmd{Kind: 3, Name: "apart", From: "main", Note: long}, 9}, {full, impl.Cmd{Kind: 3, Name: "apart", From: "main"}, 9},
		{l, impl.Cmd{Kind: 3, Name: "main", From: "old"}, 6}, {l, impl.Cmd{Kind: 3, Name: "main", From: "main"}, 6}, {l, impl.Cmd{Kind: 3, Name: "main", From: "also"}, 6}, {l, impl.Cmd{Kind: 3, Name: "main", From: "old", Note: long}, 6}, {full, impl.Cmd{Kind: 3, Name: "main", From: "old"}, 6},
		{l, impl.Cmd{Kind: 3, Name: "old", From: "main"}, 0}, {l, impl.Cmd{Kind: 3, Name: "old", From: "main", Note: long}, 0}, {full, impl.Cmd{Kind: 3, Name: "old", From: "main"}, 8},
		{l, impl.Cmd{Kind: 3, Name: "main", From: "unlike"}, 7}, {l, impl.Cmd{Kind: 3, Name: "main", From: "turned"}, 7}, {l, impl.Cmd{Kind: 3, Name: "main", From: "unlike", Note: long}, 7}, {full, impl.Cmd{Kind: 3, Name: "main", From: "unlike"}, 7},
		{l, impl.Cmd{Kind: 3, Name: "work", From: "turned", Note: long}, 7}, {l, impl.Cmd{Kind: 3, Name: "turned", From: "unlike"}, 7},
		{l, impl.Cmd{Kind: 3, Name: "one", From: "two"}, 5}, {l, impl.Cmd{Kind: 3, Name: "two", From: "one", Note: long}, 5}, {full, impl.Cmd{Kind: 3, Name: "one", From: "two"}, 5},
		{l, impl.Cmd{Kind: 3, Name: "main", From: "work", Note: long}, 1}, {l, impl.Cmd{Kind: 3, Name: "main", From: "work", Note: odd}, 1}, {full, impl.Cmd{Kind: 3, Name: "main", From: "work", Note: long}, 1}, {full, impl.Cmd{Kind: 3, Name: "main", From: "work"}, 8},
		{l, impl.Cmd{Kind: 4, Name: "main"}, 0}, {l, impl.Cmd{Kind: 4, Name: "none"}, 2}, {l, impl.Cmd{Kind: 4, Name: "gone"}, 2}, {full, impl.Cmd{Kind: 4, Name: "none"}, 2}, {full, impl.Cmd{Kind: 4, Name: "main"}, 8},
		{full, impl.Cmd{Kind: 5}, 0}, {full, impl.Cmd{Kind: 6}, 0},
	} {
		if _, code := checkCmd(t, c.lib, c.cmd); code != c.code {
			t.Errorf("%v is answered by %d, not by %d", c.cmd, code, c.code)
		}
	}
}

// filledUp is a library whose journal is so full that there is no room for a line more.
func filledUp(l impl.Lib) impl.Lib {
	for _, _, lines := toldBy(l.Jour); ; lines++ {
		key := "-"
		if len(l.Jour) < 3800 {
			key = sumOf("fill")
		}
		line := lineOf(lines, "a", key)
		if len(l.Jour)+len(line) > 4000 {
			return l
		}
		l.Jour += line
	}
}

// codeLib is a library in which each code can come.
func codeLib() impl.Lib {
	var p past
	old := p.commit(`a#1[a#2,a#3]`, "old")
	first := p.commit(`a#1[a#2"x",a#3]`, "main", old)
	second := p.commit(`a#1[a#2,a#3"y"]`, "work", old)
	unlike := p.commit(`a#1[a#2"z",a#3]`, "unlike", old)
	turned := p.commit(`a#1[a#3,a#2]`, "turned", old)
	one, two := p.commit(`a#1[a#4,a#2,a#3]`, "one", old), p.commit(`a#1[a#2,a#3,a#5]`, "two", old)
	apart := p.commit("a#1", "apart")
	long := p.commit("a#1", "0")
	for at := range 21 {
		long = p.commit("a#1", strconv.Itoa(at+1), long)
	}
	return underNames(orderedSchema2, p, "main", first, "also", first, "old", old, "work", second, "unlike", unlike, "turned", turned, "one", one, "two", two, "apart", apart, "long", long, "gone", old, "gone", "-")
}

// orderedSchema2 is a schema by which two trees can fit, and not what they are together.
const orderedSchema2 = "root a\na text: a? a? a?\n"

// What came of both may be as many as 22, and no more; a name may be pointed to one of 24.
func TestHistoriesOfLibrariesAtTheLimit(t *testing.T) {
	for length := 19; length <= 24; length++ {
		p := line(length)
		last := p.keys[length-1]
		l := underNames(plainSchema, p, "main", last, "work", p.keys[0])
		want := 0
		if length >= 22 {
			want = 8
		}
		for _, c := range []impl.Cmd{{Kind: 1, Name: "main", Tree: "a#9"}, {Kind: 1, Name: "main", Tree: "a#1[a#2]", Note: "twelve bytes"}} {
			if _, code := checkCmd(t, l, c); code != want {
				t.Errorf("over %d commits another one is answered by %d", length, code)
			}
		}
		for _, c := range []impl.Cmd{{Kind: 2, Name: "new", From: "main"}, {Kind: 3, Name: "work", From: "main"}, {Kind: 4, Name: "main"}, {Kind: 1, Name: "new", Tree: "a#9"}, {Kind: 1, Name: "work", Tree: "a#9"}} {
			if _, code := checkCmd(t, l, c); code != 0 {
				t.Errorf("beside %d commits %v is answered by %d", length, c, code)
			}
		}
	}
	// Of two that came of one, that one and what it came of counts once.
	for _, c := range []struct{ both, left, right, code int }{{1, 10, 10, 0}, {1, 10, 11, 8}, {1, 11, 10, 8}, {10, 1, 10, 0}, {19, 1, 1, 0}, {20, 1, 1, 8}, {18, 1, 2, 0}, {12, 10, 2, 8}, {2, 22, 22, 8}, {22, 1, 1, 8}, {23, 1, 1, 8}} {
		p := line(c.both)
		left, right := p.keys[c.both-1], p.keys[c.both-1]
		for at := range c.left {
			left = p.commit(fmt.Sprintf(`a#1"%d"`, at), "left", left)
		}
		for at := range c.right {
			right = p.commit(fmt.Sprintf(`a#1[a#2"%d"]`, at), "right", right)
		}
		l := underNames(plainSchema, p, "main", left, "work", right)
		for _, cmd := range []impl.Cmd{{Kind: 3, Name: "main", From: "work"}, {Kind: 3, Name: "work", From: "main", Note: "n"}} {
			if _, code := checkCmd(t, l, cmd); code != c.code {
				t.Errorf("%d, and %d and %d: %v is answered by %d", c.both, c.left, c.right, cmd, code)
			}
		}
	}
}

// The journal may be just full; where it would be more, nothing is done.
func TestJournalsOfLibrariesAtTheLimit(t *testing.T) {
	whole := fullLib("ddd")
	ahead := whole
	lines := strings.SplitAfter(whole.Jour, "\n")
	ahead.Jour = strings.Join(lines[:49], "")
	for _, c := range []struct {
		lib  impl.Lib
		cmd  impl.Cmd
		code int
	}{
		{ahead, impl.Cmd{Kind: 2, Name: "ddd", From: "a"}, 0}, {ahead, impl.Cmd{Kind: 2, Name: "dddd", From: "a"}, 8}, {ahead, impl.Cmd{Kind: 1, Name: "ddd", Tree: "a#5"}, 0}, {ahead, impl.Cmd{Kind: 1, Name: "dddd", Tree: "a#5"}, 8}, {ahead, impl.Cmd{Kind: 1, Name: "ccc", Tree: "a#5"}, 0}, {ahead, impl.Cmd{Kind: 4, Name: "a"}, 0},
		{whole, impl.Cmd{Kind: 4, Name: "a"}, 8}, {whole, impl.Cmd{Kind: 2, Name: "e", From: "a"}, 8}, {whole, impl.Cmd{Kind: 1, Name: "a", Tree: "a#5"}, 8}, {whole, impl.Cmd{Kind: 3, Name: "a", From: "ddd"}, 8}, {whole, impl.Cmd{Kind: 5}, 0}, {whole, impl.Cmd{Kind: 6}, 0}, {whole, impl.Cmd{Kind: 3, Name: "ddd", From: "a"}, 6},
	} {
		got, code := checkCmd(t, c.lib, c.cmd)
		if code != c.code {
			t.Errorf("%v to a journal of %d bytes is answered by %d", c.cmd, len(c.lib.Jour), code)
		}
		if c.cmd.Name == "ddd" && code == 0 && len(got.Jour) != 4000 {
			t.Errorf("%v leaves a journal of %d bytes", c.cmd, len(got.Jour))
		}
	}
	packed, _ := checkCmd(t, whole, impl.Cmd{Kind: 6})
	if _, code := checkCmd(t, packed, impl.Cmd{Kind: 4, Name: "a"}); code != 0 || strings.Count(packed.Jour, "\n") != 4 {
		t.Errorf("a packed journal is full: %d", code)
	}
}

// A merge that would be more than a tree may be is a conflict, though nothing is unlike.
func TestMergesOfLibrariesAtTheLimit(t *testing.T) {
	wide := func(from, things int) []impl.Tree {
		var list []impl.Tree
		for at := range things {
			list = append(list, impl.Tree{Id: from + at, Kind: "a"})
		}
		return list
	}
	a := func(id int, kids ...impl.Tree) impl.Tree { return impl.Tree{Id: id, Kind: "a", Kids: kids} }
	for _, c := range []struct{ left, right, code int }{{9, 8, 0}, {8, 9, 0}, {17, 0, 6}, {16, 1, 0}, {9, 9, 7}, {10, 8, 7}, {17, 1, 7}} {
		var p past
		old := p.commit("a#1[a#2,a#3]", "old")
		left := p.commit(textOfTree(a(1, a(2, wide(100, c.left)...), a(3))), "left", old)
		right := p.commit(textOfTree(a(1, a(2), a(3, wide(200, c.right)...))), "right", old)
		if c.right == 0 {
			right = old
		}
		l := underNames(plainSchema, p, "main", left, "work", right)
		got, code := checkCmd(t, l, impl.Cmd{Kind: 3, Name: "main", From: "work"})
		if tree, _ := treeAt(got.Objs, standingFor(got.Jour, "main")); code != c.code || code == 0 && len(idsOf(tree)) != 20 {
			t.Errorf("%d things and %d: %d, %s", c.left, c.right, code, textOfTree(tree))
		}
	}
}

// P48: to sweep and to pack changes nothing that can be seen.
func TestSweepsAndPacks(t *testing.T) {
	c := newChance()
	swept, packed := 0, 0
	for _, l := range someLibs(c) {
		sweep, pack := impl.Cmd{Kind: impl.CmdSweep}, impl.Cmd{Kind: impl.CmdPack}
		one, _ := checkCmd(t, l, sweep)
		other, _ := checkCmd(t, l, pack)
		both, _ := checkCmd(t, one, pack)
		turned, _ := checkCmd(t, other, sweep)
		again, _ := checkCmd(t, both, sweep)
		shown := impl.LibSee(l)
		for _, behind := range []impl.Lib{one, other, both, turned} {
			if impl.LibSee(behind) != shown || !impl.LibOk(behind) {
				t.Fatalf("%q is shown as %q", shown, impl.LibSee(behind))
			}
		}
		if !sameLib(both, turned) || !sameLib(both, again) || len(outsideOf(both)) != 0 || one.Jour != l.Jour || !slices.Equal(other.Objs, l.Objs) {
			t.Fatalf("swept and packed: %v, and the other way round %v", both, turned)
		}
		swept += len(l.Objs) - len(one.Objs)
		packed += len(l.Jour) - len(other.Jour)
	}
	if swept < 40 || packed < 5000 {
		t.Errorf("only %d objects were swept, and %d bytes packed", swept, packed)
	}
}

// What is in a history stays, and its tree, also if another name was dropped that had it; what only a name had that was dropped goes.
func TestWhatIsSwept(t *testing.T) {
	var p past
	root := p.commit("a#1", "root")
	left := p.commit(`a#1"l"`, "left", root)
	right := p.commit(`a#1"r"`, "right", root)
	both := p.commit(`a#1"l"`, "both", left, right)
	lost := p.commit(`a#1"lost"`, "lost", left)
	alike := p.commit(`a#1"r"`, "alike", lost) // its tree is right's
	free := p.put("a text of no use")
	for _, c := range []struct {
		stands []string
		gone   []string
	}{
		{[]string{"main", both}, []string{lost, sumOf(`a#1"lost"`), alike, free}},
		{[]string{"main", both, "lost", lost, "lost", "-"}, []string{lost, sumOf(`a#1"lost"`), alike, free}},
		{[]string{"main", both, "lost", alike}, []string{free}},
		{[]string{"lost", alike}, []string{right, both, free}},
		{[]string{"main", left}, []string{right, sumOf(`a#1"r"`), both, lost, sumOf(`a#1"lost"`), alike, free}},
		{[]string{"main", both, "main", root}, []string{left, sumOf(`a#1"l"`), right, sumOf(`a#1"r"`), both, lost, sumOf(`a#1"lost"`), alike, free}},
		{nil, []string{root, sumOf("a#1"), left, sumOf(`a#1"l"`), right, sumOf(`a#1"r"`), both, lost, sumOf(`a#1"lost"`), alike, free}},
	} {
		l := underNames(plainSchema, p, c.stands...)
		got, code := checkCmd(t, l, impl.Cmd{Kind: 5})
		if want := p.without(c.gone...); code != 0 || !slices.Equal(got.Objs, want) {
			t.Errorf("%v: %d, there stay %v, not %v", c.stands, code, textsUnder(got.Objs), textsUnder(want))
		}
	}
}

// P49: what a library shows is what a list of trees would.
func TestLibrariesAreListsOfTrees(t *testing.T) {
	c := newChance()
	for range 12 {
		s, _ := schemaOfText(plainSchema)
		l := impl.LibNew(s)
		lists := map[string][]string{} // of each name, trees and notes, the newest first
		for range 70 {
			cmd := c.cmd(l)
			if cmd.Kind == impl.CmdMerge {
				continue
			}
			after, code := impl.LibDo(l, cmd)
			l = after
			if code != 0 {
				continue
			}
			switch cmd.Kind {
			case impl.CmdCommit:
				lists[cmd.Name] = append([]string{cmd.Tree + " " + cmd.Note}, lists[cmd.Name]...)
			case impl.CmdBranch:
				lists[cmd.Name] = lists[cmd.From]
			case impl.CmdDrop:
				delete(lists, cmd.Name)
			}
			if got := shownLists(impl.LibSee(l)); !maps.EqualFunc(got, lists, slices.Equal[[]string]) {
				t.Fatalf("behind %v there are %v, not %v", cmd, got, lists)
			}
		}
	}
}

// shownLists is the trees and notes of each name that LibSee shows.
func shownLists(shown string) map[string][]string {
	lists := map[string][]string{}
	name := ""
	for line := range strings.Lines(strings.TrimPrefix(shown, "library\n")) {
		line = line[:len(line)-1]
		if !strings.HasPrefix(line, "  ") {
			name = line
			continue
		}
		lists[name] = append(lists[name], line[len("  01234567 "):])
	}
	return lists
}

// P49: with merges, LibSee is held against the document's words.
func TestWhatIsSeen(t *testing.T) {
	c := newChance()
	for _, l := range someLibs(c) {
		if got, want := impl.LibSee(l), seenIn(l); got != want {
			t.Fatalf("a library is shown as %q, not %q", got, want)
		}
		bad := c.spoiledLib(l)
		if got, want := impl.LibSee(bad), seenIn(bad); got != want {
			t.Fatalf("%v is shown as %q, not %q", bad, got, want)
		}
	}
	var p past
	key := p.commit("a#1", "")
	next := p.commit(`a#1"x y"`, " a note ", key)
	l := underNames(plainSchema, p, "b", next, "abcdefgh", key, "a", key, "z", next, "z", "-")
	want := "library\na\n  " + key[:8] + " a#1 \nabcdefgh\n  " + key[:8] + " a#1 \nb\n  " + next[:8] + ` a#1"x y"  a note ` + "\n  " + key[:8] + " a#1 \n"
	if got := impl.LibSee(l); got != want {
		t.Errorf("it is shown as %q, not %q", got, want)
	}
}
