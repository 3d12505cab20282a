package tests

import (
	"slices"
	"strings"
	"testing"

	"loop.example/codicil/impl"
)

// somePairs are trees that are ok, each two with one outermost number.
func somePairs(count int) [][2]impl.Tree {
	c := newChance()
	var list [][2]impl.Tree
	for range count {
		a, b := c.pair()
		list = append(list, [2]impl.Tree{a, b})
	}
	for _, tree := range edgeTrees() {
		only := impl.Tree{Id: tree.Id, Kind: "q"}
		list = append(list, [2]impl.Tree{tree, tree}, [2]impl.Tree{tree, only}, [2]impl.Tree{only, tree})
	}
	full := row(20)
	slices.Reverse(full.Kids)
	return append(list, [2]impl.Tree{full, row(20)}, [2]impl.Tree{row(20), full}, [2]impl.Tree{row(20), chain(6)}, [2]impl.Tree{chain(6), row(20)})
}

// P13, P14: the steps, held against the document's words, and done one by one.
func TestStepsThatMakeATreeAnother(t *testing.T) {
	for _, pair := range somePairs(2500) {
		a, b := pair[0], pair[1]
		list, ok := impl.DiffSteps(a, b)
		if want := differing(a, b); !ok || !sameSteps(list, want) {
			t.Fatalf("%s to %s:\n%snot\n%s", textOfTree(a), textOfTree(b), textOfSteps(list), textOfSteps(want))
		}
		now := a
		for _, s := range list {
			next, can := impl.StepDo(now, s)
			if !can {
				t.Fatalf("%s to %s: %v cannot be done to %s", textOfTree(a), textOfTree(b), s, textOfTree(now))
			}
			now = next
		}
		if all, can := impl.StepsDo(a, list); !can || !impl.TreeSame(all, b) || !impl.TreeSame(now, b) {
			t.Fatalf("%s to %s: %s", textOfTree(a), textOfTree(b), textOfTree(all))
		}
		if (len(list) == 0) != impl.TreeSame(a, b) {
			t.Fatalf("%s to %s: %d steps", textOfTree(a), textOfTree(b), len(list))
		}
	}
}

func TestWhichStepsMakeATreeAnother(t *testing.T) {
	for _, c := range []struct{ a, b, want string }{
		{"a#1", "a#1", ""},
		{`a#1"x"`, `b#1"y"`, "kind 1 b\ntext 1 y\n"},
		{`a#1"x"`, "a#1", "text 1 \n"},
		// Of two lists of one length: what stands first in the first tree goes.
		{"a#1[b#2,c#3]", "a#1[c#3,b#2]", "cut 2\nput 1 1 b#2\n"},
		{"a#1[b#2,c#3,d#4,e#5]", "a#1[d#4,e#5,b#2,c#3]", "cut 2\ncut 3\nput 1 2 b#2\nput 1 3 c#3\n"},
		{"a#1[b#2,c#3,d#4]", "a#1[d#4,c#3,b#2]", "cut 2\ncut 3\nput 1 1 c#3\nput 1 2 b#2\n"},
		{"a#1[b#2,c#3,d#4,e#5]", "a#1[c#3,b#2,e#5,d#4]", "cut 2\ncut 4\nput 1 1 b#2\nput 1 3 d#4\n"},
		// A longer list stays, whichever stands first.
		{"a#1[b#2,c#3,d#4]", "a#1[d#4,b#2,c#3]", "cut 4\nput 1 0 d#4\n"},
		{"a#1[b#2,c#3,d#4]", "a#1[c#3,d#4,b#2]", "cut 2\nput 1 2 b#2\n"},
		// What is in another thing now is not kept, nor what is in that.
		{"a#1[b#2[c#3[d#4]],e#5]", "a#1[b#2,e#5[c#3[d#4]]]", "cut 3\nput 5 0 c#3[d#4]\n"},
		{"a#1[b#2[c#3]]", "a#1[c#3[b#2]]", "cut 2\nput 1 0 c#3[b#2]\n"},
		{"a#1[b#2[c#3[d#4]]]", "a#1[c#3[d#4]]", "cut 2\nput 1 0 c#3[d#4]\n"},
		// All cuts stand ahead of all words, and these ahead of all puts; the second tree's order holds.
		{"a#1[b#2[c#3],d#4[e#5]]", "a#1[d#4[g#7],b#2[f#6]]", "cut 2\ncut 5\nput 4 0 g#7\nput 1 1 b#2[f#6]\n"},
		{`a#1[x#9,b#2"s"[c#3],d#4"t"[e#5]]`, `z#1[b#2"u"[f#6],y#8,k#4"v"[g#7],h#10]`,
			"cut 9\ncut 3\ncut 5\nkind 1 z\ntext 2 u\nkind 4 k\ntext 4 v\nput 2 0 f#6\nput 1 1 y#8\nput 4 0 g#7\nput 1 3 h#10\n"},
		{"a#1[b#2,c#3,d#4,e#5]", "a#1[d#4]", "cut 2\ncut 3\ncut 5\n"},
		{"a#1", "a#1[b#2[c#3],d#4]", "put 1 0 b#2[c#3]\nput 1 1 d#4\n"},
	} {
		list, ok := impl.DiffSteps(read(t, c.a), read(t, c.b))
		if !ok || textOfSteps(list) != c.want {
			t.Errorf("%s to %s:\n%snot\n%s", c.a, c.b, textOfSteps(list), c.want)
		}
	}
}

// P15: what is alone in one and the same thing in both is in no put and no cut.
func TestWhatCanStayStays(t *testing.T) {
	alone := 0
	for _, pair := range append(somePairs(1500), lonelyPairs()...) {
		a, b := pair[0], pair[1]
		list, _ := impl.DiffSteps(a, b)
		for _, id := range stayingOf(a, b) {
			alone++
			for _, s := range list {
				if s.Kind == impl.StepCut && s.Id == id || s.Kind == impl.StepPut && slices.Contains(idsOf(s.Node), id) {
					t.Fatalf("%s to %s: %v, but %d can stay", textOfTree(a), textOfTree(b), s, id)
				}
			}
		}
	}
	if alone < 3000 {
		t.Errorf("only %d could stay", alone)
	}
}

// stayingOf is the outermost number, and each that is alone in one that stays.
func stayingOf(a, b impl.Tree) []int {
	ids := []int{a.Id}
	for len(a.Kids) == 1 && len(b.Kids) == 1 && a.Kids[0].Id == b.Kids[0].Id {
		a, b = a.Kids[0], b.Kids[0]
		ids = append(ids, a.Id)
	}
	return ids
}

func lonelyPairs() [][2]impl.Tree {
	c := newChance()
	var list [][2]impl.Tree
	for range 200 {
		a, b := chain(6), chain(6)
		for _, id := range []int{2, 3, 4, 5, 6} {
			if c.Intn(3) == 0 {
				a, _ = stepped(a, c.words(id))
				b, _ = stepped(b, c.words(id))
			}
		}
		list = append(list, [2]impl.Tree{a, b})
	}
	return list
}

func TestTreesWithoutSteps(t *testing.T) {
	good := row(3)
	for _, bad := range badTrees() {
		for _, pair := range [][2]impl.Tree{{bad, bad}, {bad, good}, {good, bad}} {
			list, ok := impl.DiffSteps(pair[0], pair[1])
			if ok || len(list) != 0 || impl.DiffCost(pair[0], pair[1]) != -1 {
				t.Errorf("%v to %v: %v, %d", pair[0], pair[1], list, impl.DiffCost(pair[0], pair[1]))
			}
		}
	}
	for _, c := range [][2]string{{"a#1", "a#2"}, {"a#1[b#2]", "b#2[a#1]"}, {"a#1[b#2]", "a#999[b#2]"}} {
		if list, ok := impl.DiffSteps(read(t, c[0]), read(t, c[1])); ok || len(list) != 0 {
			t.Errorf("%s to %s: %v", c[0], c[1], list)
		}
	}
}

func TestKnownCosts(t *testing.T) {
	for _, c := range []struct {
		a, b string
		want int
	}{
		{"a#1", "a#2", 0}, {"a#1", "b#1", 1}, {"a#1", `a#1"x"`, 1}, {"a#1", `b#1"x"`, 1}, {`a#1"x"`, `a#1"y"`, 1},
		{"a#1[b#2]", "a#5[b#9]", 0}, {"a#1[b#2,c#3]", "a#1[c#3,b#2]", 2}, {"a#1[b#2,c#2]", "a#1", -1},
		// What is in what is cut comes to be in its place, in order.
		{"a#1[b#2[c#3,d#4]]", "a#1[c#3,d#4]", 1}, {"a#1[x#9,b#2[c#3,d#4],y#8]", "a#1[x#9,c#3,d#4,y#8]", 1}, {"a#1[b#2[c#3,d#4]]", "a#1[d#4,c#3]", 3},
		{"a#1[x#9,b#2[c#3,d#4],y#8]", "a#1[x#9,c#3,y#8,d#4]", 3}, {"a#1[b#2]", "b#1", 1}, {"a#1[b#2[c#3[d#4]]]", "c#1[d#2]", 2},
		// What is in another thing is not beside it.
		{"a#1[b#2[c#3]]", "a#1[b#2,c#3]", 2}, {"a#1[b#2,c#3]", "a#1[c#3[b#2]]", 2},
		{"f#1[d#2[a#3,c#4[b#5]],e#6]", "f#1[c#4[d#2[a#3,b#5]],e#6]", 2},
	} {
		a, _ := looseTree(c.a)
		b, _ := looseTree(c.b)
		if impl.DiffCost(a, b) != c.want || impl.DiffCost(b, a) != c.want {
			t.Errorf("%s to %s costs %d, and back %d", c.a, c.b, impl.DiffCost(a, b), impl.DiffCost(b, a))
		}
	}
}

// pruned is a tree of at most so many things, of few kinds and texts.
func (c chance) pruned(most int) impl.Tree {
	ids, room := c.Perm(999), 1+c.Intn(most)
	tree, _ := rebuilt(c.grown(&ids, &room, 1), func(now impl.Tree) (impl.Tree, bool) {
		now.Kind, now.Text = c.word("a", "a", "b"), c.word("", "", "", "x")
		return now, true
	})
	return tree
}

// P16: held against each of Tai's mappings, of small trees.
func TestCostsOfSmallTrees(t *testing.T) {
	c := newChance()
	for range 1500 {
		a, b := c.pruned(7), c.pruned(7)
		if got, want := impl.DiffCost(a, b), costOf(a, b); got != want {
			t.Fatalf("%s to %s costs %d, not %d", textOfTree(a), textOfTree(b), got, want)
		}
	}
}

// Of any trees, held against the cost of what becomes of the last thing.
func TestCostsOfTrees(t *testing.T) {
	for _, pair := range somePairs(120) {
		a, b := pair[0], pair[1]
		if got, want := impl.DiffCost(a, b), (forests{}).cost([]impl.Tree{a}, []impl.Tree{b}); got != want {
			t.Fatalf("%s to %s costs %d, not %d", textOfTree(a), textOfTree(b), got, want)
		}
	}
}

// unnumbered is a tree's text with no numbers.
func unnumbered(t impl.Tree) string {
	made, _ := rebuilt(t, func(now impl.Tree) (impl.Tree, bool) {
		now.Id = 0
		return now, true
	})
	return textOfTree(made)
}

// P16, P18: what a cost is back, when it is 0, and between what it is.
func TestBoundsOfCosts(t *testing.T) {
	for _, pair := range somePairs(1500) {
		a, b := pair[0], pair[1]
		cost, sizeA, sizeB := impl.DiffCost(a, b), len(idsOf(a)), len(idsOf(b))
		if back := impl.DiffCost(b, a); back != cost {
			t.Fatalf("%s to %s costs %d, and back %d", textOfTree(a), textOfTree(b), cost, back)
		}
		if (cost == 0) != (unnumbered(a) == unnumbered(b)) {
			t.Fatalf("%s to %s costs %d", textOfTree(a), textOfTree(b), cost)
		}
		if cost > sizeA+sizeB-1 || cost < max(sizeA-sizeB, sizeB-sizeA) {
			t.Fatalf("%s to %s costs %d", textOfTree(a), textOfTree(b), cost)
		}
		if again := impl.TreeFresh(a); impl.DiffCost(a, again) != 0 || impl.DiffCost(again, b) != cost {
			t.Fatalf("%s to %s: numbers count", textOfTree(a), textOfTree(b))
		}
	}
}

// P17: by way of a third tree it costs no less.
func TestCostsByWayOfAThird(t *testing.T) {
	c := newChance()
	for range 1500 {
		a, b := c.pair()
		third := c.pruned(20)
		if c.Intn(2) == 0 {
			third = steppedAll(a, c.doables(a, c.Intn(5)))
		}
		if impl.DiffCost(a, b) > impl.DiffCost(a, third)+impl.DiffCost(third, b) {
			t.Fatalf("%s to %s, by %s", textOfTree(a), textOfTree(b), textOfTree(third))
		}
	}
}

// P19: what a step costs at most.
func TestCostsOfSteps(t *testing.T) {
	c := newChance()
	for _, tree := range someTrees() {
		for range 10 {
			s := c.doable(tree)
			most := 1
			switch thing, _ := thingOf(tree, s.Id); s.Kind {
			case impl.StepPut:
				most = len(idsOf(s.Node))
			case impl.StepCut:
				most = len(idsOf(thing))
			}
			done, _ := impl.StepDo(tree, s)
			if cost := impl.DiffCost(tree, done); cost > most {
				t.Fatalf("%s to %s costs %d", textOfTree(tree), textOfTree(done), cost)
			}
		}
	}
}

// The largest trees, which need most room in tables.
func TestCostsAtTheLimits(t *testing.T) {
	broad := impl.Tree{Id: 1, Kind: "a"}
	for i, word := range strings.Split("b c d e f g h i j k l m n o p q r s t", " ") {
		broad.Kids = append(broad.Kids, impl.Tree{Id: 2 + i, Kind: word})
	}
	turned := broad
	turned.Kids = slices.Clone(broad.Kids)
	slices.Reverse(turned.Kids)
	for _, c := range []struct {
		a, b impl.Tree
		want int
	}{
		{row(20), row(20), 0}, {row(20), row(1), 19}, {chain(6), chain(1), 5}, {broad, turned, 18}, {broad, row(1), 19},
		{row(21), row(20), -1}, {chain(6), chain(7), -1}, {row(20), chain(6), 18 + 1 + 4}, {broad, row(20), 18},
	} {
		if got := impl.DiffCost(c.a, c.b); got != c.want {
			t.Errorf("%s to %s costs %d, not %d", textOfTree(c.a), textOfTree(c.b), got, c.want)
		}
	}
}
