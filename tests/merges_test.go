package tests

import (
	"fmt"
	"slices"
	"testing"

	"loop.example/codicil/impl"
)

func TestKindsOfConflicts(t *testing.T) {
	kinds := []int{impl.MergeText, impl.MergeKind, impl.MergeGone, impl.MergeSpot}
	if !slices.Equal(kinds, []int{1, 2, 3, 4}) {
		t.Errorf("the kinds of conflicts are %v", kinds)
	}
}

// checkMerge holds MergeFits and MergeTrees against the document's words, and says what came of it.
func checkMerge(t *testing.T, old, a, b impl.Tree) (impl.Tree, []impl.Conflict, bool) {
	t.Helper()
	fits := going(old, a, b)
	if got := impl.MergeFits(old, a, b); got != fits {
		t.Fatalf("%sfit: %v", textOfTrees(old, a, b), got)
	}
	var want impl.Tree
	var unlike []impl.Conflict
	can := false
	if fits {
		want, unlike = joined(old, a, b)
		can = rightTree(want)
	}
	if !can {
		want, unlike = impl.Tree{}, nil
	}
	got, told, ok := impl.MergeTrees(old, a, b)
	if ok != can || !sameTree(got, want) || !slices.Equal(told, unlike) {
		t.Fatalf("%sgo together as %s, %v, %v, not as %s, %v, %v", textOfTrees(old, a, b), textOfTree(got), told, ok, textOfTree(want), unlike, can)
	}
	return got, told, ok
}

// Trees by chance, held against the document's words; of each kind of what may come of them there are enough.
func TestMergesByChance(t *testing.T) {
	seen := map[string]int{}
	for _, trees := range someTriples() {
		_, told, ok := checkMerge(t, trees[0], trees[1], trees[2])
		seen[fmt.Sprint("merged ", ok)]++
		if ok && len(told) == 0 {
			seen["without conflicts"]++
		}
		if !ok && going(trees[0], trees[1], trees[2]) {
			seen["not ok"]++
		}
		for _, conflict := range told {
			seen[fmt.Sprint("conflict ", conflict.What)]++
		}
		if len(told) > 2 {
			seen["many conflicts"]++
		}
	}
	for what, least := range map[string]int{
		"merged true": 3000, "merged false": 400, "without conflicts": 1000, "not ok": 40,
		"conflict 1": 300, "conflict 2": 300, "conflict 3": 500, "conflict 4": 300, "many conflicts": 100,
	} {
		if seen[what] < least {
			t.Errorf("%s: only %d, of %v", what, seen[what], seen)
		}
	}
}

func TestKnownMerges(t *testing.T) {
	for _, c := range []struct{ old, a, b, want, told string }{
		// Kind and text, each by itself.
		{`a#1"x"`, `b#1"x"`, `a#1"y"`, `b#1"y"`, "[]"},
		{`a#1"x"`, `a#1"y"`, `b#1"x"`, `b#1"y"`, "[]"},
		{`a#1"x"`, `a#1"y"`, `a#1"y"`, `a#1"y"`, "[]"},
		{`a#1"x"`, "a#1", `a#1"x"`, "a#1", "[]"},
		{`a#1"x"`, `a#1"x"`, "a#1", "a#1", "[]"},
		{`a#1"x"`, "a#1", `a#1"y"`, "a#1", "[{1 1}]"},
		{`a#1"x"`, `a#1"y"`, "a#1", `a#1"y"`, "[{1 1}]"},
		{`a#1"x"`, `b#1"y"`, `c#1"z"`, `b#1"y"`, "[{1 2} {1 1}]"},
		{`a#1"x"`, `b#1"y"`, `c#1"y"`, `b#1"y"`, "[{1 2}]"},
		// What old has not: there is nothing by which one could say who changed it, an empty text neither.
		{"a#1", "a#1[n#5]", `a#1[m#5"r"]`, "a#1[n#5]", "[{5 2} {5 1}]"},
		{"a#1", `a#1[n#5"l"]`, "a#1[n#5]", `a#1[n#5"l"]`, "[{5 1}]"},
		{"a#1", "a#1[n#5[m#6]]", "a#1[n#5[k#7]]", "a#1[n#5[m#6,k#7]]", "[{5 4}]"},
		{"a#1", `a#1[n#5[m#6"l"]]`, `a#1[n#5[m#6"r"]]`, `a#1[n#5[m#6"l"]]`, "[{6 1}]"},
		// One cut what the other one changed: the thing, what is in it, what was cut in it, what is new in it.
		{"a#1[b#2]", "a#1", `a#1[b#2"x"]`, `a#1[b#2"x"]`, "[{2 3}]"},
		{"a#1[b#2]", "a#1[c#2]", "a#1", "a#1[c#2]", "[{2 3}]"},
		{"a#1[b#2[c#3,d#4]]", "a#1", "a#1[b#2[d#4]]", "a#1[b#2[d#4]]", "[{2 3}]"},
		{"a#1[b#2[c#3,d#4]]", "a#1[b#2[c#3]]", "a#1", "a#1[b#2[c#3]]", "[{2 3}]"},
		{"a#1[b#2]", "a#1", "a#1[b#2[n#9]]", "a#1[b#2[n#9]]", "[{2 3}]"},
		{"a#1[b#2[c#3[d#4]]]", "a#1", `a#1[b#2[c#3[d#4"x"]]]`, `a#1[b#2[c#3[d#4"x"]]]`, "[{2 3}]"},
		{"a#1[b#2[c#3[d#4]]]", "a#1[b#2]", `a#1[b#2[c#3[d#4"x"]]]`, `a#1[b#2[c#3[d#4"x"]]]`, "[{3 3}]"},
		{"a#1[b#2[c#3]]", "a#1[b#2]", `a#1[b#2"x"[c#3]]`, `a#1[b#2"x"]`, "[]"},
		// It was not changed: it goes, with all in it.
		{"a#1[b#2[c#3,d#4],e#5]", "a#1[e#5]", "a#1[b#2[c#3,d#4]]", "a#1", "[]"},
		{`a#1[b#2"t"]`, `a#1[b#2"t"]`, "a#1", "a#1", "[]"},
		{"a#1[b#2,c#3]", "a#1[n#7]", "a#1[b#2,c#3]", "a#1[n#7]", "[]"},
		// Both left something at one place: new, or cut and changed; once for each thing, and for what is in it again.
		{"a#1[b#2]", "a#1[b#2,x#5]", "a#1[b#2,y#6]", "a#1[b#2,x#5,y#6]", "[{1 4}]"},
		{"a#1", "a#1[x#5,z#7]", "a#1[y#6,w#8]", "a#1[x#5,z#7,y#6,w#8]", "[{1 4}]"},
		{"a#1[b#2,c#3]", `a#1[b#2"x"]`, `a#1[c#3"y"]`, `a#1[b#2"x",c#3"y"]`, "[{2 3} {3 3} {1 4}]"},
		{"a#1[b#2,c#3]", `a#1[c#3"y"]`, `a#1[b#2"x"]`, `a#1[c#3"y",b#2"x"]`, "[{3 3} {2 3} {1 4}]"},
		{"a#1[b#2,c#3]", `a#1[b#2"x"]`, "a#1[c#3,n#9]", `a#1[b#2"x",n#9]`, "[{2 3} {1 4}]"},
		{"a#1[b#2,c#3]", "a#1[b#2]", "a#1[c#3,n#9]", "a#1[n#9]", "[]"},
		{"a#1[b#2,c#3]", "a#1[x#5,b#2,c#3]", "a#1[b#2,y#6,c#3]", "a#1[x#5,b#2,y#6,c#3]", "[]"},
		{"a#1[b#2,c#3]", "a#1[b#2,x#5]", "a#1[y#6,c#3]", "a#1[x#5,y#6]", "[{1 4}]"},
		{"a#1[b#2]", "a#1[p#3,b#2[x#5],q#4]", "a#1[r#6,b#2[y#7],s#8]", "a#1[p#3,r#6,b#2[x#5,y#7],q#4,s#8]", "[{1 4} {2 4}]"},
		{"a#1[b#2]", "a#1[b#2[x#5],q#4]", "a#1[b#2[y#7],s#8]", "a#1[b#2[x#5,y#7],q#4,s#8]", "[{2 4} {1 4}]"},
		{"a#1[b#2,c#3]", "a#1[b#2[x#5],c#3[u#6]]", "a#1[b#2[y#7],c#3[v#8]]", "a#1[b#2[x#5,y#7],c#3[u#6,v#8]]", "[{2 4} {3 4}]"},
		// Conflicts in the order in which this comes to them.
		{`a#1"o"[b#2"o",c#3"o",d#4"o"]`, `a#1"l"[p#10,b#2"x",d#4"l"[g#12]]`, `z#1"r"[q#11,c#3"y",d#4"r"[h#13]]`,
			`z#1"l"[p#10,b#2"x",q#11,c#3"y",d#4"l"[g#12,h#13]]`, "[{1 1} {2 3} {3 3} {1 4} {4 1} {4 4}]"},
		{"a#1[b#2[c#3],d#4[e#5]]", `k#1[b#2[c#3"l"],d#4]`, `m#1[b#2[c#3"r"],d#4[e#5"r"]]`, `k#1[b#2[c#3"l"],d#4[e#5"r"]]`, "[{1 2} {3 1} {5 3}]"},
	} {
		old, a, b := read(t, c.old), read(t, c.a), read(t, c.b)
		got, told, ok := checkMerge(t, old, a, b)
		if !ok || textOfTree(got) != c.want || fmt.Sprint(told) != c.told {
			t.Errorf("%sgo together as %s, %v", textOfTrees(old, a, b), textOfTree(got), told)
		}
	}
}

// P20: what only one changed is as it left it.
func TestOneThatChanged(t *testing.T) {
	trees := slices.Clone(someTriples())
	for _, tree := range edgeTrees() {
		only := impl.Tree{Id: tree.Id, Kind: "q"}
		trees = append(trees, [3]impl.Tree{tree, tree, tree}, [3]impl.Tree{tree, only, only}, [3]impl.Tree{only, tree, tree})
	}
	changed := 0
	for _, three := range trees {
		old, a := three[0], three[1]
		fits := going(old, a, old)
		if impl.MergeFits(old, a, old) != fits || impl.MergeFits(old, old, a) != fits {
			t.Fatalf("%sfit, or not: %v", textOfTrees(old, a), fits)
		}
		for _, pair := range [][2]impl.Tree{{a, old}, {old, a}} {
			got, told, ok := impl.MergeTrees(old, pair[0], pair[1])
			if ok != fits || fits && !impl.TreeSame(got, a) || len(told) != 0 {
				t.Fatalf("%sgo together as %s, %v, %v", textOfTrees(old, pair[0], pair[1]), textOfTree(got), told, ok)
			}
		}
		if fits && !sameTree(old, a) {
			changed++
		}
	}
	if changed < 500 {
		t.Errorf("only %d were changed", changed)
	}
}

// P21: where both changed alike nothing is unlike.
func TestBothThatChangedAlike(t *testing.T) {
	fitting := 0
	for _, three := range someTriples() {
		old, a := three[0], three[1]
		got, told, ok := impl.MergeTrees(old, a, a)
		if fits := going(old, a, a); ok != fits || impl.MergeFits(old, a, a) != fits || fits && !impl.TreeSame(got, a) || len(told) != 0 {
			t.Fatalf("%sgoes with itself as %s, %v, %v", textOfTrees(old, a), textOfTree(got), told, ok)
		}
		if ok && !sameTree(old, a) {
			fitting++
		}
	}
	if fitting < 500 {
		t.Errorf("only %d fit", fitting)
	}
}

// sorted is conflicts by numbers: who comes first says which of two that were cut is told first.
func sorted(list []impl.Conflict) []impl.Conflict {
	return slices.SortedFunc(slices.Values(list), func(a, b impl.Conflict) int {
		return slices.Compare([]int{a.Id, a.What}, []int{b.Id, b.What})
	})
}

// P22: it can be, and has the same conflicts, both ways; without any the tree is the same.
func TestMergesBothWays(t *testing.T) {
	for _, trees := range someTriples() {
		old, a, b := trees[0], trees[1], trees[2]
		one, told, ok := impl.MergeTrees(old, a, b)
		other, back, can := impl.MergeTrees(old, b, a)
		if ok != can || !slices.Equal(sorted(told), sorted(back)) {
			t.Fatalf("%sboth ways: %v, %v, and %v, %v", textOfTrees(old, a, b), told, ok, back, can)
		}
		if len(told) == 0 && !sameTree(one, other) {
			t.Fatalf("%sboth ways: %s, and %s", textOfTrees(old, a, b), textOfTree(one), textOfTree(other))
		}
	}
}

// P23: what only one changed of a thing is as that one left it.
func TestWordsOfMerges(t *testing.T) {
	words := func(old, a, b, got string, told bool) bool {
		return (a != old || got == b) && (b != old || got == a) && told == (a != old && b != old && a != b) && (!told || got == a)
	}
	unlike := 0
	for _, trees := range goingTriples() {
		got, told, ok := impl.MergeTrees(trees[0], trees[1], trees[2])
		for _, p := range placesOf(trees[0]) {
			old, id := p.thing, p.thing.Id
			a, inA := thingOf(trees[1], id)
			b, inB := thingOf(trees[2], id)
			if !ok || !inA || !inB {
				continue
			}
			made, _ := thingOf(got, id)
			texts, kinds := slices.Contains(told, impl.Conflict{Id: id, What: impl.MergeText}), slices.Contains(told, impl.Conflict{Id: id, What: impl.MergeKind})
			if !words(old.Text, a.Text, b.Text, made.Text, texts) || !words(old.Kind, a.Kind, b.Kind, made.Kind, kinds) {
				t.Fatalf("%sgo together as %s, %v", textOfTrees(trees[:]...), textOfTree(got), told)
			}
			if texts || kinds {
				unlike++
			}
		}
	}
	if unlike < 300 {
		t.Errorf("only %d were unlike", unlike)
	}
}

// P24, P25: what is new is there, what both cut is not; what one cut goes, unless the other one changed it, which is told.
func TestWhatMergesHave(t *testing.T) {
	cutAndKept := map[bool]int{}
	for _, trees := range goingTriples() {
		old, a, b := trees[0], trees[1], trees[2]
		got, told, ok := impl.MergeTrees(old, a, b)
		if !ok {
			continue
		}
		for _, id := range slices.Concat(idsOf(old), idsOf(a), idsOf(b), idsOf(got)) {
			was, inOld := thingOf(old, id)
			left, inA := thingOf(a, id)
			right, inB := thingOf(b, id)
			_, there := thingOf(got, id)
			want := inA && inB || (inA || inB) && !inOld
			gone := slices.Contains(told, impl.Conflict{Id: id, What: impl.MergeGone})
			if inOld && inA != inB {
				here, other, one := a, b, left
				if inB {
					here, other, one = b, a, right
				}
				over, _ := spotOf(here, id)
				if _, shared := thingOf(other, over); !shared { // what that is in is asked for, and this goes with it
					continue
				}
				want = !sameTree(was, one)
				cutAndKept[want]++
				if gone != want {
					t.Fatalf("%sgo together as %s, %v: %d", textOfTrees(old, a, b), textOfTree(got), told, id)
				}
			} else if gone {
				t.Fatalf("%sgo together with %v: %d", textOfTrees(old, a, b), told, id)
			}
			if there != want {
				t.Fatalf("%sgo together as %s: %d is there: %v", textOfTrees(old, a, b), textOfTree(got), id, there)
			}
		}
	}
	if cutAndKept[true] < 200 || cutAndKept[false] < 500 {
		t.Errorf("too few were cut and kept, or not: %v", cutAndKept)
	}
}

// P26: what stood ahead stands ahead, and what was in a thing is in it.
func TestOrderOfMerges(t *testing.T) {
	ahead := 0
	for _, trees := range goingTriples() {
		got, _, ok := impl.MergeTrees(trees[0], trees[1], trees[2])
		for _, side := range trees[1:] {
			if ok && !agreeing(side, got) {
				t.Fatalf("%sgo together as %s", textOfTrees(trees[:]...), textOfTree(got))
			}
			ahead += len(side.Kids)
		}
	}
	if ahead < 3000 {
		t.Errorf("only %d stood ahead", ahead)
	}
}

// P27: two texts of unlike things, one on each side, are both set.
func TestTextsOfUnlikeThings(t *testing.T) {
	for _, tree := range someTrees()[:120] {
		ids := idsOf(tree)
		for _, one := range ids {
			for _, other := range ids {
				if one == other {
					continue
				}
				a, _ := stepped(tree, worded(one, "left"))
				b, _ := stepped(tree, worded(other, "right"))
				want, _ := stepped(a, worded(other, "right"))
				got, told, ok := impl.MergeTrees(tree, a, b)
				if !ok || len(told) != 0 || !sameTree(got, want) {
					t.Fatalf("%sgo together as %s, %v, %v", textOfTrees(tree, a, b), textOfTree(got), told, ok)
				}
			}
		}
	}
}

// freshSteps are steps that can be done one behind the other; what they put has numbers from one on.
func (c chance) freshSteps(t impl.Tree, count, from int) []impl.Step {
	var list []impl.Step
	for range count {
		s := c.doable(t)
		if s.Kind == impl.StepPut {
			node := copied(s.Node)
			from = renumber(&node, from) + 1
			s.Node = node
		}
		if next, can := stepped(t, s); can {
			list, t = append(list, s), next
		}
	}
	return list
}

func copied(t impl.Tree) impl.Tree {
	made, _ := rebuilt(t, func(now impl.Tree) (impl.Tree, bool) { return now, true })
	return made
}

// P28: what came of one tree by steps goes together, if no number is given twice.
func TestWhatCameOfOneTreeFits(t *testing.T) {
	c := newChance()
	for range 1500 {
		old := c.pruned(20)
		renumber(&old, 1)
		a := steppedAll(old, c.freshSteps(old, c.Intn(9), 100))
		b := steppedAll(old, c.freshSteps(old, c.Intn(9), 200))
		if !impl.MergeFits(old, a, b) || !impl.MergeFits(old, b, a) {
			t.Fatalf("%sdo not fit", textOfTrees(old, a, b))
		}
		checkMerge(t, old, a, b)
	}
}

// checkTwoSteps is P28 and P62, of two steps to a tree: whether they fit, and were put together.
func checkTwoSteps(t *testing.T, tree impl.Tree, s, u impl.Step) (bool, bool) {
	t.Helper()
	a, first := stepped(tree, s)
	b, second := stepped(tree, u)
	if !first || !second {
		return false, false
	}
	fits := impl.MergeFits(tree, a, b)
	if !fits && (s.Kind != impl.StepPut || u.Kind != impl.StepPut) {
		t.Fatalf("%v and %v to %s do not fit", s, u, textOfTree(tree))
	}
	if meeting(tree, s, u) {
		return fits, false
	}
	got, told, ok := impl.MergeTrees(tree, a, b)
	want, can := stepped(a, moved(tree, s, u))
	if !fits || len(told) != 0 || ok != can || ok && !sameTree(got, want) {
		t.Fatalf("%v and %v to %s: %s, %v, %v, not %s, %v", s, u, textOfTree(tree), textOfTree(got), told, ok, textOfTree(want), can)
	}
	over, _ := impl.StepOver(tree, s, u)
	if done, fine := impl.StepsDo(tree, []impl.Step{s, over}); fine != ok || fine && !impl.TreeSame(done, got) {
		t.Fatalf("%v and %v to %s: %s, and together %s", s, over, textOfTree(tree), textOfTree(done), textOfTree(got))
	}
	return fits, ok
}

// P28, P62: two steps by chance.
func TestTwoStepsArePutTogether(t *testing.T) {
	c := newChance()
	together := 0
	for _, tree := range someTrees() {
		for range 30 {
			if _, ok := checkTwoSteps(t, tree, c.doable(tree), c.doable(tree)); ok {
				together++
			}
		}
	}
	if together < 3000 {
		t.Errorf("only %d were put together", together)
	}
}

// P28, P62: each two steps to one tree, so that each pair of kinds is there at each place.
func TestAllTwoStepsToATree(t *testing.T) {
	tree := read(t, `a#1[b#2[c#3,d#4[e#5]],f#6,g#7]`)
	var list []impl.Step
	for _, p := range placesOf(tree) {
		id := p.thing.Id
		list = append(list, cut(id), worded(id, "x"), worded(id, "y"), kinded(id, "x"), kinded(id, "y"))
		for at := range len(p.thing.Kids) + 1 {
			list = append(list, put(id, at, leaf(8)), put(id, at, leaf(9)), put(id, at, read(t, "x#10[y#9]")))
		}
	}
	for _, s := range list {
		for _, u := range list {
			checkTwoSteps(t, tree, s, u)
			if a, can := stepped(tree, s); can {
				b, _ := stepped(tree, u)
				checkMerge(t, tree, a, b)
			}
		}
	}
}

// Two steps that put one number fit just if it is at one place, in one thing.
func TestTwoThatPutOneNumber(t *testing.T) {
	tree := read(t, "a#1[b#2,c#3]")
	for _, c := range []struct {
		s, u impl.Step
		want bool
	}{
		{put(1, 0, leaf(9)), put(1, 0, leaf(9)), true}, {put(1, 0, leaf(9)), put(1, 1, leaf(9)), false}, {put(1, 1, leaf(9)), put(1, 2, leaf(9)), false},
		{put(1, 0, leaf(9)), put(2, 0, leaf(9)), false}, {put(2, 0, leaf(9)), put(3, 0, leaf(9)), false}, {put(3, 0, leaf(9)), put(3, 0, read(t, "k#9[m#8]")), true},
		{put(1, 0, leaf(9)), put(1, 0, read(t, "x#10[y#9]")), false}, {put(1, 0, leaf(9)), put(1, 1, leaf(8)), true},
	} {
		if fits, _ := checkTwoSteps(t, tree, c.s, c.u); fits != c.want {
			t.Errorf("%v and %v fit: %v", c.s, c.u, fits)
		}
	}
}

// Each limit is met just so, and then passed by one.
func TestMergesAtTheLimits(t *testing.T) {
	many := func(tree impl.Tree, over, things, from int) impl.Tree {
		for i := range things {
			tree, _ = stepped(tree, put(over, i, leaf(from+i)))
		}
		return tree
	}
	ten, twenty, deep := row(10), row(20), chain(6)
	for i, c := range []struct {
		old, a, b impl.Tree
		want      bool
	}{
		{ten, many(ten, 1, 5, 100), many(ten, 2, 5, 200), true}, {ten, many(ten, 1, 5, 100), many(ten, 2, 6, 200), false}, {ten, many(ten, 1, 6, 100), many(ten, 1, 5, 200), false},
		{ten, many(ten, 1, 10, 100), ten, true}, {ten, many(ten, 1, 10, 100), many(ten, 1, 10, 100), true}, {ten, many(ten, 1, 10, 100), many(ten, 1, 1, 200), false},
		{row(1), row(11), many(row(1), 1, 9, 100), true}, {row(1), row(11), many(row(1), 1, 10, 100), false},
		// What one cut makes room for what the other one put; what one cut and the other one changed makes none.
		{twenty, row(10), many(row(1), 1, 10, 100), true}, {twenty, steppedAll(twenty, []impl.Step{cut(20), put(1, 0, leaf(100))}), twenty, true},
		{twenty, steppedAll(twenty, []impl.Step{cut(20), put(1, 0, leaf(100))}), steppedAll(twenty, []impl.Step{cut(19), put(2, 0, leaf(200))}), true},
		{twenty, steppedAll(twenty, []impl.Step{cut(20), put(1, 0, leaf(100))}), steppedAll(twenty, []impl.Step{worded(20, "x")}), false},
		{twenty, steppedAll(twenty, []impl.Step{cut(20), put(1, 0, leaf(100))}), steppedAll(twenty, []impl.Step{cut(20), put(1, 0, leaf(100))}), true},
		{twenty, steppedAll(twenty, []impl.Step{cut(20), put(1, 0, leaf(100))}), steppedAll(twenty, []impl.Step{cut(20), put(2, 0, leaf(200))}), false},
		{deep, deep, row(1), true}, {row(1), deep, row(1), true}, {chain(5), deep, many(chain(5), 5, 1, 100), true}, {deep, steppedAll(deep, []impl.Step{worded(6, "x")}), row(1), true},
		{row(1), impl.Tree{Id: 1, Kind: "abcdefgh", Text: "twelve bytes"}, row(1), true}, {inside(leaf(999)), row(1), inside(impl.Tree{Id: 999, Kind: "n", Text: "twelve bytes"}), true},
	} {
		got, told, ok := checkMerge(t, c.old, c.a, c.b)
		if ok != c.want || !impl.MergeFits(c.old, c.a, c.b) {
			t.Errorf("case %d: %s, %v, %v", i, textOfTree(got), told, ok)
		}
		if !ok && (len(told) != 0 || !sameTree(got, impl.Tree{})) {
			t.Errorf("case %d: %s, %v beside a false", i, textOfTree(got), told)
		}
	}
}

// refused says whether three trees do not go together, with nothing beside the false.
func refused(old, a, b impl.Tree) bool {
	got, told, ok := impl.MergeTrees(old, a, b)
	return !ok && len(told) == 0 && sameTree(got, impl.Tree{}) && !impl.MergeFits(old, a, b)
}

func TestTreesThatDoNotFit(t *testing.T) {
	for _, c := range [][3]string{
		{"a#2", "a#1", "a#1"}, {"a#1", "a#2", "a#1"}, {"a#1", "a#1", "a#2"}, {"a#1", "a#2", "a#2"}, {"a#1[a#2]", "a#2[a#1]", "a#2[a#1]"},
		// In another thing than in another tree; also if just two of the three have it.
		{"a#1[b#2,c#3]", "a#1[b#2[c#3]]", "a#1[b#2,c#3]"}, {"a#1[b#2,c#3]", "a#1[b#2,c#3]", "a#1[b#2[c#3]]"}, {"a#1[b#2[c#3]]", "a#1[b#2,c#3]", "a#1[b#2,c#3]"},
		{"a#1[b#2,c#3]", "a#1[b#2[c#3]]", "a#1[b#2]"}, {"a#1[b#2,c#3]", "a#1[b#2]", "a#1[b#2[c#3]]"}, {"a#1[b#2]", "a#1[b#2,c#3]", "a#1[b#2[c#3]]"},
		{"a#1[b#2[c#3]]", "a#1[c#3]", "a#1"}, {"a#1[b#2[c#3]]", "a#1", "a#1[c#3]"}, {"a#1", "a#1[b#2[c#3]]", "a#1[c#3]"},
		{"a#1[b#2[c#3],d#4]", "a#1[b#2,d#4[c#3]]", "a#1"}, {"a#1[b#2[c#3]]", "a#1[c#3[b#2]]", "a#1"},
		{"a#1[b#2[c#3]]", "a#1[d#4[c#3]]", "a#1[b#2]"}, {"a#1", "a#1[b#2[c#3]]", "a#1[d#4[c#3]]"},
		// In another order; also if just two of the three have it, and deeper.
		{"a#1[b#2,c#3]", "a#1[c#3,b#2]", "a#1[c#3,b#2]"}, {"a#1[b#2,c#3]", "a#1[c#3,b#2]", "a#1"}, {"a#1[b#2,c#3]", "a#1", "a#1[c#3,b#2]"}, {"a#1", "a#1[b#2,c#3]", "a#1[c#3,b#2]"},
		{"a#1[b#2]", "a#1[b#2,c#3]", "a#1[c#3,b#2]"}, {"a#1[b#2,c#3,d#4]", "a#1[b#2,c#3]", "a#1[d#4,b#2]"}, {"a#1[b#2[c#3,d#4]]", "a#1[b#2[d#4,c#3]]", "a#1"},
		{"a#1[b#2,c#3,d#4]", "a#1[b#2,d#4]", "a#1[c#3,b#2]"}, {"a#1[x#9[b#2,c#3]]", "a#1[x#9]", "a#1[x#9[c#3,k#4,b#2]]"},
	} {
		old, a, b := read(t, c[0]), read(t, c[1]), read(t, c[2])
		if checkMerge(t, old, a, b); !refused(old, a, b) || !refused(old, b, a) {
			t.Errorf("%sfit", textOfTrees(old, a, b))
		}
	}
	// Of these each two agree in what both have.
	for _, c := range [][3]string{
		{"a#1[b#2,c#3]", "a#1[c#3,d#4]", "a#1[d#4,b#2]"}, {"a#1[b#2]", "z#1[y#2]", `x#1"t"[w#2]`}, {"a#1", "a#1[b#2]", "a#1[c#3]"}, {"a#1[b#2,c#3]", "a#1[b#2]", "a#1[c#3]"},
	} {
		if _, _, ok := checkMerge(t, read(t, c[0]), read(t, c[1]), read(t, c[2])); !ok {
			t.Errorf("%v do not fit", c)
		}
	}
}

func TestMergesOfTreesThatAreNotOk(t *testing.T) {
	for _, bad := range badTrees() {
		good := impl.Tree{Id: bad.Id, Kind: "a"}
		for _, c := range [][3]impl.Tree{{bad, good, good}, {good, bad, good}, {good, good, bad}, {good, bad, bad}, {bad, good, bad}, {bad, bad, good}, {bad, bad, bad}, {bad, row(3), row(3)}, {row(3), bad, row(3)}, {row(3), row(3), bad}} {
			if !refused(c[0], c[1], c[2]) {
				t.Errorf("%v, %v and %v fit", c[0], c[1], c[2])
			}
		}
	}
}
