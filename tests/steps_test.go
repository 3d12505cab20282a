package tests

import (
	"math"
	"slices"
	"strings"
	"testing"

	"loop.example/codicil/impl"
)

// leaf is a thing with nothing in it.
func leaf(id int) impl.Tree {
	return impl.Tree{Id: id, Kind: "n"}
}

func read(t *testing.T, text string) impl.Tree {
	t.Helper()
	tree, ok := treeOfText(text)
	if !ok {
		t.Fatalf("%s is no tree", text)
	}
	return tree
}

func TestKindsOfSteps(t *testing.T) {
	kinds := []int{impl.StepPut, impl.StepCut, impl.StepText, impl.StepKind}
	if !slices.Equal(kinds, []int{1, 2, 3, 4}) {
		t.Errorf("the kinds of steps are %v", kinds)
	}
}

// checkStep holds StepDo and StepBack against the document's words, and is P9 and P10.
func checkStep(t *testing.T, tree impl.Tree, s impl.Step) bool {
	t.Helper()
	want, can := stepped(tree, s)
	got, ok := impl.StepDo(tree, s)
	if ok != can || !sameTree(got, want) {
		t.Fatalf("%v to %s: %s, %v, not %s, %v", s, textOfTree(tree), textOfTree(got), ok, textOfTree(want), can)
	}
	back, could := impl.StepBack(tree, s)
	if could != can {
		t.Fatalf("%v to %s can be undone: %v", s, textOfTree(tree), could)
	}
	if !can {
		if !sameStep(back, impl.Step{}) {
			t.Fatalf("%v to %s cannot be done, and is undone by %v", s, textOfTree(tree), back)
		}
		return false
	}
	if !sameStep(back, undoing(tree, s)) {
		t.Fatalf("%v to %s is undone by %v", s, textOfTree(tree), back)
	}
	if was, ok := impl.StepDo(got, back); !ok || !impl.TreeSame(was, tree) {
		t.Fatalf("%v to %s, undone, is %s", s, textOfTree(tree), textOfTree(was))
	}
	checkNothingElse(t, tree, got, s)
	return true
}

// checkNothingElse is P10: what a step is not at is as it was, in what it was.
func checkNothingElse(t *testing.T, tree, got impl.Tree, s impl.Step) {
	t.Helper()
	var gone []int
	if s.Kind == impl.StepCut {
		thing, _ := thingOf(tree, s.Id)
		gone = idsOf(thing)
	}
	if !impl.TreeOk(got) {
		t.Fatalf("%v to %s leaves %s", s, textOfTree(tree), textOfTree(got))
	}
	for _, p := range placesOf(tree) {
		id := p.thing.Id
		now, there := thingOf(got, id)
		if there == slices.Contains(gone, id) {
			t.Fatalf("%v to %s: %d is there: %v", s, textOfTree(tree), id, there)
		}
		if there && id != s.Id && (now.Kind != p.thing.Kind || now.Text != p.thing.Text || impl.TreeOver(got, id) != p.over) {
			t.Fatalf("%v to %s changes %d", s, textOfTree(tree), id)
		}
	}
}

// P9, P10: steps by chance, most of which can be done.
func TestStepsAreDoneAndUndone(t *testing.T) {
	c := newChance()
	seen := map[bool]int{}
	for _, tree := range someTrees() {
		for range 40 {
			seen[checkStep(t, tree, c.step(tree))]++
		}
	}
	if seen[true] < 5000 || seen[false] < 1000 {
		t.Errorf("too few steps can be done, or cannot: %v", seen)
	}
}

// P9, P10: each cut, and a thing at each place, also past both ends.
func TestStepsAtEachPlace(t *testing.T) {
	for _, tree := range append(edgeTrees(), read(t, `a#1[b#2"t"[c#3,d#4],e#5,f#6[g#7[h#8]]]`)) {
		for _, p := range placesOf(tree) {
			id := p.thing.Id
			if checkStep(t, tree, cut(id)) != (id != tree.Id) {
				t.Errorf("%d of %s is cut, or not", id, textOfTree(tree))
			}
			for at := -2; at <= len(p.thing.Kids)+2; at++ {
				checkStep(t, tree, put(id, at, leaf(500)))
			}
		}
	}
}

func TestWhatStepsLeave(t *testing.T) {
	tree := read(t, `a#1[b#2"t"[c#3,d#4],e#5]`)
	for _, c := range []struct {
		step impl.Step
		want string
		back impl.Step
	}{
		{put(1, 0, leaf(7)), `a#1[n#7,b#2"t"[c#3,d#4],e#5]`, cut(7)},
		{put(1, 1, leaf(7)), `a#1[b#2"t"[c#3,d#4],n#7,e#5]`, cut(7)},
		{put(1, 2, leaf(7)), `a#1[b#2"t"[c#3,d#4],e#5,n#7]`, cut(7)},
		{put(5, 0, read(t, "x#9[y#8]")), `a#1[b#2"t"[c#3,d#4],e#5[x#9[y#8]]]`, cut(9)},
		{cut(2), `a#1[e#5]`, put(1, 0, read(t, `b#2"t"[c#3,d#4]`))},
		{cut(4), `a#1[b#2"t"[c#3],e#5]`, put(2, 1, impl.Tree{Id: 4, Kind: "d"})},
		{worded(2, ""), `a#1[b#2[c#3,d#4],e#5]`, worded(2, "t")},
		{worded(1, "u"), `a#1"u"[b#2"t"[c#3,d#4],e#5]`, worded(1, "")},
		{worded(2, "t"), `a#1[b#2"t"[c#3,d#4],e#5]`, worded(2, "t")},
		{kinded(2, "z"), `a#1[z#2"t"[c#3,d#4],e#5]`, kinded(2, "b")},
		{kinded(1, "text"), `text#1[b#2"t"[c#3,d#4],e#5]`, kinded(1, "a")},
	} {
		got, ok := impl.StepDo(tree, c.step)
		back, could := impl.StepBack(tree, c.step)
		if !ok || !could || textOfTree(got) != c.want || !sameStep(back, c.back) {
			t.Errorf("%v leaves %s, and is undone by %v", c.step, textOfTree(got), back)
		}
	}
}

// spoiled is steps that are right but for one thing that their kind has not.
func spoiled(list []impl.Step) []impl.Step {
	var bad []impl.Step
	for _, s := range list {
		if s.Kind == impl.StepPut {
			worded := s
			worded.Text = "x"
			bad = append(bad, worded)
			continue
		}
		for _, at := range []int{1, -1, math.MaxInt} {
			placed := s
			placed.At = at
			bad = append(bad, placed)
		}
		for _, node := range []impl.Tree{leaf(7), {Id: 7}, {Id: -1}, {Kind: "n"}, {Text: "x"}, {Kids: []impl.Tree{{}}}} {
			putting := s
			putting.Node = node
			bad = append(bad, putting)
		}
		if s.Kind == impl.StepCut {
			worded := s
			worded.Text = "x"
			bad = append(bad, worded)
		}
	}
	return bad
}

// badSteps are steps that cannot be done to any tree whose numbers are 1 to 4.
func badSteps() []impl.Step {
	list := spoiled([]impl.Step{put(1, 0, leaf(7)), cut(2), worded(2, "x"), kinded(2, "x"), worded(2, ""), worded(1, "x")})
	list = append(list, impl.Step{}, cut(1), put(1, 0, impl.Tree{}))
	for _, kind := range []int{0, -1, 5, 6, math.MaxInt, math.MinInt} {
		list = append(list, impl.Step{Kind: kind}, impl.Step{Kind: kind, Id: 2}, impl.Step{Kind: kind, Id: 2, Text: "x"}, impl.Step{Kind: kind, Id: 1, Node: leaf(7)})
	}
	for _, id := range []int{0, -1, 5, 999, 1000, math.MaxInt, math.MinInt} {
		list = append(list, put(id, 0, leaf(7)), cut(id), worded(id, "x"), kinded(id, "x"))
	}
	for _, at := range []int{-1, 21, math.MaxInt, math.MinInt} {
		list = append(list, put(1, at, leaf(7)))
	}
	for _, bad := range badTrees() {
		list = append(list, put(1, 0, bad))
	}
	for _, thing := range badThings() {
		if thing.Id == 2 && thing.Kind == "b" {
			list = append(list, worded(2, thing.Text))
		} else if thing.Id == 2 {
			list = append(list, kinded(2, thing.Kind))
		}
	}
	return append(list, put(1, 0, leaf(1)), put(1, 0, leaf(3)), put(2, 0, read7(4)))
}

// read7 is a tree with a thing in it that has a number.
func read7(id int) impl.Tree {
	return impl.Tree{Id: 7, Kind: "x", Kids: []impl.Tree{leaf(8), leaf(id)}}
}

func TestStepsThatCannotBeDone(t *testing.T) {
	tree := read(t, `a#1[b#2"t"[c#3],d#4]`)
	for _, s := range badSteps() {
		if checkStep(t, tree, s) {
			t.Errorf("%v is done", s)
		}
		if got, ok := impl.StepsDo(tree, []impl.Step{worded(3, "x"), s}); ok || !sameTree(got, tree) {
			t.Errorf("%v is done behind another one: %s", s, textOfTree(got))
		}
	}
}

func TestStepsToTreesThatAreNotOk(t *testing.T) {
	for _, bad := range badTrees() {
		for _, s := range []impl.Step{put(1, 0, leaf(7)), cut(2), worded(1, "x"), kinded(1, "x"), kinded(2, "b"), worded(2, ""), {}} {
			got, ok := impl.StepDo(bad, s)
			all, done := impl.StepsDo(bad, []impl.Step{s})
			back, could := impl.StepBack(bad, s)
			if ok || done || could || !sameTree(got, impl.Tree{}) || !sameTree(all, impl.Tree{}) || !sameStep(back, impl.Step{}) {
				t.Errorf("%v to %v: %v, %v, %v", s, bad, got, all, back)
			}
		}
		if got, ok := impl.StepsDo(bad, nil); ok || !sameTree(got, impl.Tree{}) {
			t.Errorf("no steps to %v: %v, %v", bad, got, ok)
		}
	}
}

// Each limit is met just so, and then passed by one.
func TestStepsAtTheLimits(t *testing.T) {
	two, deep := read(t, "x#900[y#901]"), chain(6)
	renumber(&deep, 900)
	for i, c := range []struct {
		tree impl.Tree
		step impl.Step
		want bool
	}{
		{row(19), put(1, 18, leaf(900)), true}, {row(20), put(1, 19, leaf(900)), false}, {row(18), put(2, 0, two), true}, {row(19), put(2, 0, two), false},
		{chain(5), put(5, 0, leaf(900)), true}, {chain(6), put(6, 0, leaf(900)), false}, {chain(6), put(5, 1, leaf(900)), true},
		{chain(4), put(4, 0, two), true}, {chain(5), put(5, 0, two), false}, {chain(1), put(1, 0, deep), false}, {chain(1), put(1, 0, deep.Kids[0]), true},
		{row(3), put(1, 2, leaf(900)), true}, {row(3), put(1, 3, leaf(900)), false}, {row(3), put(1, 0, leaf(900)), true}, {row(3), put(1, -1, leaf(900)), false},
		{row(3), put(2, 0, leaf(900)), true}, {row(3), put(2, 1, leaf(900)), false},
		{row(3), put(1, 0, leaf(999)), true}, {row(3), put(1, 0, leaf(1000)), false}, {row(3), put(1, 0, leaf(1)), false}, {row(3), put(1, 0, leaf(0)), false},
		{row(3), worded(2, strings.Repeat("t", 12)), true}, {row(3), worded(2, strings.Repeat("t", 13)), false}, {row(3), worded(2, `"`), false},
		{row(3), worded(2, " "), true}, {row(3), worded(2, "~"), true}, {row(3), worded(2, "\x1f"), false}, {row(3), worded(2, "\x7f"), false},
		{row(3), kinded(2, "abcdefgh"), true}, {row(3), kinded(2, "abcdefghi"), false}, {row(3), kinded(2, ""), false}, {row(3), kinded(2, "z"), true},
		{row(3), cut(2), true}, {row(3), cut(1), false}, {row(1), cut(1), false}, {row(20), cut(20), true},
		{row(3), impl.Step{Kind: impl.StepCut, Id: 2, Node: impl.Tree{Kids: []impl.Tree{}}}, true},
	} {
		if checkStep(t, c.tree, c.step) != c.want {
			t.Errorf("case %d: %v is done: not %v", i, c.step, c.want)
		}
	}
}

// P11: words of unlike things, or a thing's text and its kind, in both orders.
func TestWordsInEitherOrder(t *testing.T) {
	c := newChance()
	done := 0
	for _, tree := range someTrees()[:150] {
		ids := idsOf(tree)
		for range 30 {
			s, u := c.words(ids[c.Intn(len(ids))]), c.words(ids[c.Intn(len(ids))])
			if s.Kind == u.Kind && s.Id == u.Id {
				continue
			}
			one, can := impl.StepsDo(tree, []impl.Step{s, u})
			other, could := impl.StepsDo(tree, []impl.Step{u, s})
			if can != could || !sameTree(one, other) {
				t.Fatalf("%v and %v to %s: %s, or %s", s, u, textOfTree(tree), textOfTree(one), textOfTree(other))
			}
			if can {
				done++
			}
		}
	}
	if done < 1000 {
		t.Errorf("only %d could be done", done)
	}
}

func (c chance) words(id int) impl.Step {
	if c.Intn(2) == 0 {
		return worded(id, c.word("", "x", "y", "thirteen text"))
	}
	return kinded(id, c.word("a", "b", "x", "y", "abcdefghi"))
}

// P12: all, one behind the other, or none.
func TestListsOfSteps(t *testing.T) {
	c := newChance()
	seen := map[bool]int{}
	for _, tree := range someTrees() {
		for range 8 {
			list := c.doables(tree, c.Intn(6))
			if c.Intn(3) == 0 {
				list = slices.Insert(list, c.Intn(len(list)+1), c.step(tree))
			}
			seen[checkList(t, tree, list)]++
		}
	}
	if seen[true] < 1000 || seen[false] < 200 {
		t.Errorf("too few lists can be done, or cannot: %v", seen)
	}
}

func checkList(t *testing.T, tree impl.Tree, list []impl.Step) bool {
	t.Helper()
	want, can := tree, true
	for _, s := range list {
		next, ok := impl.StepDo(want, s)
		want, can = next, can && ok
		if !can {
			want = tree
			break
		}
	}
	got, ok := impl.StepsDo(tree, list)
	if ok != can || !sameTree(got, want) {
		t.Fatalf("%v to %s: %s, %v, not %s, %v", list, textOfTree(tree), textOfTree(got), ok, textOfTree(want), can)
	}
	return ok
}

func TestListsThatGoByWhatTheyLeave(t *testing.T) {
	tree := read(t, "a#1[b#2]")
	for _, c := range []struct {
		list []impl.Step
		want string
		ok   bool
	}{
		{nil, "a#1[b#2]", true},
		{[]impl.Step{put(1, 1, leaf(3)), put(3, 0, leaf(4)), worded(4, "x")}, `a#1[b#2,n#3[n#4"x"]]`, true},
		{[]impl.Step{cut(2), put(1, 0, leaf(2))}, "a#1[n#2]", true},
		{[]impl.Step{put(1, 0, leaf(3)), cut(3), cut(2)}, "a#1", true},
		{[]impl.Step{cut(2), cut(2)}, "a#1[b#2]", false},
		{[]impl.Step{cut(2), worded(2, "x")}, "a#1[b#2]", false},
		{[]impl.Step{put(1, 0, leaf(3)), put(1, 0, leaf(3))}, "a#1[b#2]", false},
		{[]impl.Step{put(1, 2, leaf(3)), put(1, 0, leaf(4))}, "a#1[b#2]", false},
	} {
		got, ok := impl.StepsDo(tree, c.list)
		if ok != c.ok || textOfTree(got) != c.want {
			t.Errorf("%v leaves %s, %v", c.list, textOfTree(got), ok)
		}
	}
}
