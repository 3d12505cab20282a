package tests

import (
	"math"
	"slices"
	"strings"
	"testing"

	"loop.example/codicil/impl"
)

// P58: all that was done can be undone.
func TestStepsAreUndone(t *testing.T) {
	c := newChance()
	seen := map[bool]int{}
	for _, tree := range someTrees() {
		for range 6 {
			list := c.doables(tree, c.Intn(7))
			if c.Intn(3) == 0 {
				list = slices.Insert(list, c.Intn(len(list)+1), c.step(tree))
			}
			seen[checkUndone(t, tree, list)]++
		}
	}
	if seen[true] < 1000 || seen[false] < 200 {
		t.Errorf("too few lists can be undone, or cannot: %v", seen)
	}
}

func checkUndone(t *testing.T, tree impl.Tree, list []impl.Step) bool {
	t.Helper()
	done, can := impl.StepsDo(tree, list)
	back, ok := impl.StepsBack(tree, list)
	if ok != can || !ok && len(back) != 0 {
		t.Fatalf("%v to %s is undone by %v, %v", list, textOfTree(tree), back, ok)
	}
	if !ok {
		return false
	}
	var want []impl.Step
	now := tree
	for _, s := range list {
		want = append([]impl.Step{undoing(now, s)}, want...)
		now, _ = stepped(now, s)
	}
	if !sameSteps(back, want) {
		t.Fatalf("%v to %s is undone by %v, not %v", list, textOfTree(tree), back, want)
	}
	if was, fine := impl.StepsDo(done, back); !fine || !impl.TreeSame(was, tree) {
		t.Fatalf("%v to %s, undone, is %s", list, textOfTree(tree), textOfTree(was))
	}
	return true
}

// P59: what leads there leads back.
func TestDifferencesAreUndone(t *testing.T) {
	for _, pair := range somePairs(1000) {
		list, _ := impl.DiffSteps(pair[0], pair[1])
		back, ok := impl.StepsBack(pair[0], list)
		was, fine := impl.StepsDo(pair[1], back)
		if !ok || !fine || len(back) != len(list) || !impl.TreeSame(was, pair[0]) {
			t.Fatalf("%s to %s, and back, is %s", textOfTree(pair[0]), textOfTree(pair[1]), textOfTree(was))
		}
	}
}

func TestWhatUndoesSteps(t *testing.T) {
	tree := read(t, `a#1[b#2"t"[c#3],d#4]`)
	list := []impl.Step{put(3, 0, leaf(7)), worded(7, "u"), cut(2), kinded(4, "z"), put(1, 0, leaf(2)), worded(4, "v")}
	back, ok := impl.StepsBack(tree, list)
	if got := textOfSteps(back); !ok || got != "text 4 \ncut 2\nkind 4 d\nput 1 0 b#2\"t\"[c#3[n#7\"u\"]]\ntext 7 \ncut 7\n" {
		t.Errorf("undone by\n%s", got)
	}
	if back, ok := impl.StepsBack(tree, nil); !ok || len(back) != 0 {
		t.Errorf("no steps are undone by %v, %v", back, ok)
	}
}

func TestStepsThatCannotBeUndone(t *testing.T) {
	tree := read(t, `a#1[b#2"t"[c#3],d#4]`)
	for _, s := range badSteps() {
		for _, list := range [][]impl.Step{{s}, {worded(3, "x"), s}, {s, worded(3, "x")}} {
			if back, ok := impl.StepsBack(tree, list); ok || len(back) != 0 {
				t.Errorf("%v is undone by %v", list, back)
			}
		}
	}
	for _, bad := range badTrees() {
		for _, list := range [][]impl.Step{nil, {worded(1, "x")}, {cut(2)}} {
			if back, ok := impl.StepsBack(bad, list); ok || len(back) != 0 {
				t.Errorf("%v to %v is undone by %v", list, bad, back)
			}
		}
	}
}

// checkMeeting holds StepsMeet and StepOver against the document's words, and is P60 and P61.
func checkMeeting(t *testing.T, tree impl.Tree, s, u impl.Step) bool {
	t.Helper()
	want := meeting(tree, s, u)
	if impl.StepsMeet(tree, s, u) != want || impl.StepsMeet(tree, u, s) != want {
		t.Fatalf("%v and %v to %s meet: not %v", s, u, textOfTree(tree), want)
	}
	if !impl.StepsMeet(tree, s, s) || !impl.StepsMeet(tree, u, u) {
		t.Fatalf("%v or %v to %s does not meet itself", s, u, textOfTree(tree))
	}
	second, ok := impl.StepOver(tree, s, u)
	first, fine := impl.StepOver(tree, u, s)
	if ok == want || fine == want {
		t.Fatalf("%v and %v to %s meet: %v, over one another: %v, %v", s, u, textOfTree(tree), want, ok, fine)
	}
	if want {
		if !sameStep(first, impl.Step{}) || !sameStep(second, impl.Step{}) {
			t.Fatalf("%v and %v to %s meet, and over one another are %v and %v", s, u, textOfTree(tree), first, second)
		}
		return true
	}
	if !sameStep(second, moved(tree, s, u)) || !sameStep(first, moved(tree, u, s)) {
		t.Fatalf("%v and %v to %s, over one another: %v and %v", s, u, textOfTree(tree), first, second)
	}
	checkEitherOrder(t, tree, []impl.Step{s, second}, []impl.Step{u, first})
	return false
}

// checkEitherOrder is P61, of steps that do not meet: s and u over it, u and s over it.
func checkEitherOrder(t *testing.T, tree impl.Tree, one, other []impl.Step) {
	t.Helper()
	made, can := impl.StepsDo(tree, one)
	same, could := impl.StepsDo(tree, other)
	if can && could && !impl.TreeSame(made, same) {
		t.Fatalf("%v to %s leaves %s, and %v %s", one, textOfTree(tree), textOfTree(made), other, textOfTree(same))
	}
	if one[0].Kind != impl.StepPut && other[0].Kind != impl.StepPut && !(can && could) {
		t.Fatalf("%v and %v to %s: %v, %v", one, other, textOfTree(tree), can, could)
	}
}

// P60, P61: two steps by chance.
func TestStepsThatMeet(t *testing.T) {
	c := newChance()
	seen := map[bool]int{}
	for _, tree := range someTrees() {
		for range 40 {
			s, u := c.doable(tree), c.doable(tree)
			if c.Intn(8) == 0 {
				u = c.step(tree)
			}
			seen[checkMeeting(t, tree, s, u)]++
		}
	}
	if seen[true] < 2000 || seen[false] < 2000 {
		t.Errorf("too few steps meet, or do not: %v", seen)
	}
}

// P60, P61: each two steps to one tree, so that each pair of kinds is there at each place.
func TestAllStepsToATree(t *testing.T) {
	tree := read(t, `a#1[b#2[c#3,d#4[e#5]],f#6,g#7]`)
	var list []impl.Step
	for _, p := range placesOf(tree) {
		id := p.thing.Id
		list = append(list, worded(id, "x"), worded(id, ""), kinded(id, "x"), kinded(id, "y"))
		if id != 1 {
			list = append(list, cut(id))
		}
		for at := range len(p.thing.Kids) + 1 {
			list = append(list, put(id, at, leaf(8)), put(id, at, leaf(9)), put(id, at, read(t, "x#10[y#9]")))
		}
	}
	for _, s := range append(slices.Clone(list), cut(1), cut(90), put(1, 4, leaf(9)), worded(1, `"`), impl.Step{}) {
		for _, u := range list {
			checkMeeting(t, tree, s, u)
		}
	}
}

func TestKnownMeetings(t *testing.T) {
	tree := read(t, "a#1[b#2[c#3],d#4,e#5]")
	for i, c := range []struct {
		s, u impl.Step
		meet bool
		at   int
	}{
		{put(1, 0, leaf(7)), put(1, 2, leaf(8)), false, 3}, {put(1, 1, leaf(7)), put(1, 2, leaf(8)), false, 3}, {put(1, 2, leaf(7)), put(1, 1, leaf(8)), false, 1},
		{put(1, 1, leaf(7)), put(1, 1, leaf(8)), true, 0}, {put(1, 1, leaf(7)), put(2, 1, leaf(8)), false, 1}, {put(1, 0, leaf(7)), put(2, 1, leaf(8)), false, 1},
		{put(1, 0, leaf(7)), put(2, 0, leaf(7)), true, 0}, {put(1, 0, read7(9)), put(2, 0, leaf(9)), true, 0}, {put(1, 0, leaf(9)), put(2, 0, read7(9)), true, 0},
		{cut(2), put(1, 0, leaf(8)), false, 0}, {cut(2), put(1, 1, leaf(8)), false, 0}, {cut(2), put(1, 3, leaf(8)), false, 2}, {cut(5), put(1, 2, leaf(8)), false, 2},
		{cut(5), put(1, 3, leaf(8)), false, 2}, {cut(3), put(1, 1, leaf(8)), false, 1}, {cut(4), put(2, 1, leaf(8)), false, 1},
		{cut(2), put(2, 0, leaf(8)), true, 0}, {cut(2), put(3, 0, leaf(8)), true, 0}, {cut(3), put(2, 0, leaf(8)), false, 0}, {cut(3), put(2, 1, leaf(8)), false, 0},
		{put(1, 0, leaf(8)), cut(2), false, 0}, {put(3, 0, leaf(8)), cut(2), true, 0}, {put(1, 0, leaf(8)), worded(1, "x"), false, 0}, {put(1, 0, leaf(8)), kinded(1, "x"), false, 0},
		{cut(2), cut(4), false, 0}, {cut(2), cut(3), true, 0}, {cut(3), cut(2), true, 0}, {cut(2), cut(2), true, 0},
		{cut(2), worded(2, "x"), true, 0}, {cut(2), kinded(3, "x"), true, 0}, {cut(3), worded(2, "x"), false, 0}, {cut(2), worded(1, "x"), false, 0},
		{worded(2, "x"), worded(2, "x"), true, 0}, {worded(2, "x"), worded(2, "y"), true, 0}, {worded(2, "x"), worded(3, "x"), false, 0},
		{kinded(2, "x"), kinded(2, "y"), true, 0}, {kinded(2, "x"), kinded(3, "y"), false, 0}, {kinded(2, "x"), worded(2, "x"), false, 0},
		{cut(1), worded(3, "x"), true, 0}, {worded(3, "x"), cut(9), true, 0}, {worded(3, "x"), kinded(4, ""), true, 0}, {impl.Step{}, worded(3, "x"), true, 0},
	} {
		over, ok := impl.StepOver(tree, c.s, c.u)
		if impl.StepsMeet(tree, c.s, c.u) != c.meet || ok == c.meet || over.At != c.at {
			t.Errorf("case %d: %v, %v", i, ok, over)
		}
		checkMeeting(t, tree, c.s, c.u)
	}
}

// Two steps may each be done at a limit, and not both; they do not meet for that.
func TestMeetingsAtTheLimits(t *testing.T) {
	for _, c := range []struct {
		tree impl.Tree
		s, u impl.Step
		both bool
	}{
		{row(18), put(1, 0, leaf(900)), put(2, 0, leaf(901)), true}, {row(19), put(1, 0, leaf(900)), put(2, 0, leaf(901)), false},
		{row(20), cut(20), worded(2, "x"), true},
	} {
		if checkMeeting(t, c.tree, c.s, c.u) {
			t.Errorf("%v and %v meet", c.s, c.u)
		}
		over, _ := impl.StepOver(c.tree, c.s, c.u)
		if _, ok := impl.StepsDo(c.tree, []impl.Step{c.s, over}); ok != c.both {
			t.Errorf("%v and %v can both be done: %v", c.s, c.u, ok)
		}
	}
	if !checkMeeting(t, row(20), put(1, 0, leaf(900)), worded(2, "x")) || !checkMeeting(t, chain(6), put(6, 0, leaf(900)), worded(2, "x")) {
		t.Error("what cannot be done does not meet")
	}
}

func TestStepsMeetAtTreesThatAreNotOk(t *testing.T) {
	list := []impl.Step{put(1, 0, leaf(7)), cut(2), worded(1, "x"), kinded(2, "x"), {}}
	for _, bad := range badTrees() {
		for _, s := range list {
			for _, u := range list {
				over, ok := impl.StepOver(bad, s, u)
				if !impl.StepsMeet(bad, s, u) || ok || !sameStep(over, impl.Step{}) {
					t.Errorf("%v and %v to %v: %v", s, u, bad, over)
				}
			}
		}
	}
	tree := read(t, `a#1[b#2"t"[c#3],d#4]`)
	for _, s := range badSteps() {
		checkMeeting(t, tree, s, worded(4, "y"))
		checkMeeting(t, tree, s, s)
		if !impl.StepsMeet(tree, s, worded(4, "y")) || !impl.StepsMeet(tree, worded(4, "y"), s) {
			t.Errorf("%v cannot be done, and does not meet", s)
		}
	}
}

// P63: a line for each, and unlike steps unlike.
func TestStepsAreWritten(t *testing.T) {
	c := newChance()
	lines := map[string]impl.Step{}
	for _, tree := range someTrees() {
		var list []impl.Step
		for range c.Intn(6) {
			list = append(list, c.doable(tree))
		}
		got := impl.StepsText(list)
		if got != textOfSteps(list) || strings.Count(got, "\n") != len(list) {
			t.Fatalf("%v is written %q", list, got)
		}
		if len(list) > 0 {
			list[0].Id++
			if other := impl.StepsText(list); other == got || other != textOfSteps(list) {
				t.Fatalf("%v is written %q, as with another number", list, other)
			}
		}
		for _, s := range list {
			line := impl.StepsText([]impl.Step{s})
			if other, there := lines[line]; there && !sameStep(s, other) {
				t.Fatalf("%v and %v are both written %q", s, other, line)
			}
			lines[line] = s
		}
	}
	if len(lines) < 500 {
		t.Errorf("only %d lines", len(lines))
	}
}

func TestLinesOfSteps(t *testing.T) {
	for _, c := range []struct {
		list []impl.Step
		want string
	}{
		{nil, ""}, {[]impl.Step{cut(4)}, "cut 4\n"}, {[]impl.Step{worded(2, "")}, "text 2 \n"}, {[]impl.Step{worded(2, " x ")}, "text 2  x \n"}, {[]impl.Step{kinded(1, "k")}, "kind 1 k\n"},
		{[]impl.Step{put(3, 0, read(t, `n#7"t"[m#8,o#9]`)), worded(2, "t"), cut(4)}, "put 3 0 n#7\"t\"[m#8,o#9]\ntext 2 t\ncut 4\n"},
		// Whether there is a tree to which it can be done is not asked.
		{[]impl.Step{cut(0), cut(-5), cut(1000)}, "cut 0\ncut -5\ncut 1000\n"}, {[]impl.Step{put(-1, -2, leaf(7))}, "put -1 -2 n#7\n"}, {[]impl.Step{put(1, 999, leaf(7))}, "put 1 999 n#7\n"},
		{[]impl.Step{worded(1, "thirteen text"), worded(1, `"`), worded(1, "\xff")}, "text 1 thirteen text\ntext 1 \"\ntext 1 \xff\n"}, {[]impl.Step{kinded(1, ""), kinded(1, "A b")}, "kind 1 \nkind 1 A b\n"},
		{[]impl.Step{cut(math.MaxInt), cut(math.MinInt)}, "cut 9223372036854775807\ncut -9223372036854775808\n"}, {[]impl.Step{cut(1), cut(1)}, "cut 1\ncut 1\n"},
		{[]impl.Step{put(1, 0, row(20))}, "put 1 0 " + textOfTree(row(20)) + "\n"}, {[]impl.Step{put(1, 0, row(21))}, ""}, {[]impl.Step{put(1, 0, chain(6))}, "put 1 0 " + textOfTree(chain(6)) + "\n"}, {[]impl.Step{put(1, 0, chain(7))}, ""},
	} {
		if got := impl.StepsText(c.list); got != c.want {
			t.Errorf("%v is written %q, not %q", c.list, got, c.want)
		}
	}
}

func TestStepsThatAreNotWritten(t *testing.T) {
	list := spoiled([]impl.Step{put(1, 0, leaf(7)), cut(2), worded(2, "x"), kinded(2, "x"), worded(2, "")})
	for _, kind := range []int{0, -1, 5, math.MaxInt, math.MinInt} {
		list = append(list, impl.Step{Kind: kind}, impl.Step{Kind: kind, Id: 2, Text: "x"})
	}
	for _, bad := range badTrees() {
		list = append(list, put(1, 0, bad))
	}
	for _, s := range list {
		for _, lines := range [][]impl.Step{{s}, {cut(2), s}, {s, cut(2)}} {
			if got := impl.StepsText(lines); got != "" {
				t.Errorf("%v is written %q", lines, got)
			}
		}
	}
}
