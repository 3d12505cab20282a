package tests

import (
	"slices"
	"strings"
	"testing"

	"loop.example/codicil/impl"
)

// P52: how many things are of a kind, and of one more, or less.
func TestThingsAreCounted(t *testing.T) {
	c := newChance()
	for _, tree := range someTrees() {
		for _, kind := range []string{"a", "b", "z", "doc", "text", "abcdefgh", "n", "", "ab", "A"} {
			want := 0
			for _, p := range placesOf(tree) {
				if p.thing.Kind == kind {
					want++
				}
			}
			if got := impl.TreeCount(tree, kind); got != want {
				t.Fatalf("%s has %d of the kind %q, not %d", textOfTree(tree), got, kind, want)
			}
		}
		checkCountBehind(t, tree, c.doable(tree))
	}
}

func checkCountBehind(t *testing.T, tree impl.Tree, s impl.Step) {
	t.Helper()
	done, _ := stepped(tree, s)
	thing, _ := thingOf(tree, s.Id)
	for _, kind := range []string{"a", "b", "z", "doc", "n"} {
		change := 0
		switch s.Kind {
		case impl.StepPut:
			change = impl.TreeCount(s.Node, kind)
		case impl.StepCut:
			change = -impl.TreeCount(thing, kind)
		case impl.StepKind:
			if thing.Kind == kind {
				change--
			}
			if s.Text == kind {
				change++
			}
		}
		if got := impl.TreeCount(done, kind); got != impl.TreeCount(tree, kind)+change {
			t.Fatalf("behind %v %s has %d of the kind %s", s, textOfTree(done), got, kind)
		}
	}
}

func TestOneMoreIsCountedOnce(t *testing.T) {
	tree := read(t, "a#1[n#2[n#3],b#4]")
	more, ok := impl.StepDo(tree, put(3, 0, leaf(5)))
	less, fine := impl.StepDo(more, cut(2))
	if !ok || !fine || impl.TreeCount(tree, "n") != 2 || impl.TreeCount(more, "n") != 3 || impl.TreeCount(less, "n") != 0 || impl.TreeCount(less, "b") != 1 {
		t.Errorf("%d, %d, %d", impl.TreeCount(tree, "n"), impl.TreeCount(more, "n"), impl.TreeCount(less, "n"))
	}
	if full := row(20); impl.TreeCount(full, "b") != 19 || impl.TreeCount(full, "a") != 1 || impl.TreeCount(row(21), "b") != 0 {
		t.Error("things at the limit")
	}
}

// P53: all texts, in order, but empty ones.
func TestTextsAreTold(t *testing.T) {
	for _, tree := range someTrees() {
		var want []string
		for _, id := range impl.TreeIds(tree) {
			if thing, _ := thingOf(tree, id); thing.Text != "" {
				want = append(want, thing.Text)
			}
		}
		if got := impl.TreeTexts(tree); !slices.Equal(got, want) {
			t.Fatalf("%s has the texts %q, not %q", textOfTree(tree), got, want)
		}
	}
	tree := read(t, `a#1"u"[b#9"x"[c#2" ",d#3],e#8[f#5"x"],g#4"a"]`)
	if got := impl.TreeTexts(tree); !slices.Equal(got, []string{"u", "x", " ", "x", "a"}) {
		t.Errorf("%s has the texts %q", textOfTree(tree), got)
	}
}

// P54: one deeper than that in which it is.
func TestLevels(t *testing.T) {
	for _, tree := range someTrees() {
		levels := map[int]int{}
		for _, p := range placesOf(tree) {
			levels[p.thing.Id] = p.level
		}
		for id := -2; id <= 1001; id++ {
			if got := impl.TreeLevel(tree, id); got != levels[id] {
				t.Fatalf("%d of %s is at %d, not %d", id, textOfTree(tree), got, levels[id])
			}
		}
		for _, id := range impl.TreeIds(tree)[1:] {
			if impl.TreeLevel(tree, id) != 1+impl.TreeLevel(tree, impl.TreeOver(tree, id)) {
				t.Fatalf("%d of %s is not one deeper", id, textOfTree(tree))
			}
		}
	}
	if impl.TreeLevel(chain(6), 6) != 6 || impl.TreeLevel(chain(6), 1) != 1 || impl.TreeLevel(chain(7), 1) != 0 {
		t.Error("levels at the limit")
	}
}

// P55: each thing has a way of its own, and is found by it.
func TestWays(t *testing.T) {
	for _, tree := range someTrees() {
		ids := idsOf(tree)
		seen := map[string]bool{}
		for id := -2; id <= 1001; id++ {
			way := impl.PathOf(tree, id)
			if want := wayOf(tree, id); way != want || (way == "") == slices.Contains(ids, id) {
				t.Fatalf("the way to %d of %s is %q, not %q", id, textOfTree(tree), way, want)
			}
			if way != "" && (impl.PathFind(tree, way) != id || seen[way]) {
				t.Fatalf("the way %q of %s leads to %d, not %d", way, textOfTree(tree), impl.PathFind(tree, way), id)
			}
			seen[way] = true
		}
	}
}

// P55: nothing is found by any other way.
func TestOtherWaysLeadNowhere(t *testing.T) {
	c := newChance()
	words := []string{"a", "b", "z", "0", "1", "9", "/", ".", "-", "+", " ", "/b.0", "/a.0", ".0", "/", "\x00", "\xff", "A"}
	found := 0
	for _, tree := range someTrees()[:80] {
		for _, id := range idsOf(tree) {
			for _, way := range c.changes(wayOf(tree, id), words...) {
				got, want := impl.PathFind(tree, way), walked(tree, way)
				if got != want || got != 0 && impl.PathOf(tree, got) != way {
					t.Fatalf("the way %q of %s leads to %d, not %d", way, textOfTree(tree), got, want)
				}
				if got != 0 {
					found++
				}
			}
		}
	}
	if found < 300 {
		t.Errorf("only %d were found", found)
	}
}

func TestWaysAtTheEdges(t *testing.T) {
	tree := read(t, "a#1[b#7[c#3],d#4,b#9[c#5,b#6,c#2]]")
	for way, want := range map[string]int{
		"a": 1, "a/b.0": 7, "a/d.0": 4, "a/b.1": 9, "a/b.0/c.0": 3, "a/b.1/c.0": 5, "a/b.1/c.1": 2, "a/b.1/b.0": 6,
		"": 0, "b": 0, "/": 0, "a/": 0, "/a": 0, "a.0": 0, "a/b": 0, "a/b.": 0, "a/b.2": 0, "a/b.-1": 0, "a/b.00": 0, "a/b.01": 0, "a/b.+0": 0, "a/b.0/": 0,
		"a/b. 0": 0, "a/d.1": 0, "a/a.0": 0, "a/b.0/c.1": 0, "a//b.0": 0, "a/b.0c.0": 0, "a/b.18446744073709551616": 0, "a/.0": 0, "A": 0, "a\n": 0, " a": 0, "a/b.0.0": 0,
	} {
		if got := impl.PathFind(tree, way); got != want || want != 0 && impl.PathOf(tree, want) != way {
			t.Errorf("the way %q leads to %d, not %d", way, got, want)
		}
	}
	if way := impl.PathOf(row(20), 20); way != "a/b.18" || impl.PathFind(row(20), "a/b.18") != 20 || impl.PathFind(row(20), "a/b.19") != 0 {
		t.Errorf("the way to the last of a row is %q", way)
	}
	if way := impl.PathOf(chain(6), 6); way != "a/a.0/a.0/a.0/a.0/a.0" || impl.PathFind(chain(6), way) != 6 || impl.PathFind(chain(6), way+"/a.0") != 0 {
		t.Errorf("the way to the deepest is %q", way)
	}
}

// P56, P57: new numbers, and nothing else new.
func TestFreshNumbers(t *testing.T) {
	for _, tree := range someTrees() {
		fresh := impl.TreeFresh(tree)
		ids, now := idsOf(tree), idsOf(fresh)
		if !impl.TreeOk(fresh) || unnumbered(fresh) != unnumbered(tree) || impl.DiffCost(tree, fresh) != 0 {
			t.Fatalf("%s with new numbers is %s", textOfTree(tree), textOfTree(fresh))
		}
		for at := range ids {
			if now[at] != at+1 || impl.PathOf(tree, ids[at]) != impl.PathOf(fresh, now[at]) {
				t.Fatalf("%s with new numbers is %s", textOfTree(tree), textOfTree(fresh))
			}
		}
		if !slices.Equal(impl.TreeTexts(tree), impl.TreeTexts(fresh)) || !impl.TreeSame(impl.TreeFresh(fresh), fresh) {
			t.Fatalf("%s with new numbers is %s", textOfTree(tree), textOfTree(fresh))
		}
	}
	if got := textOfTree(impl.TreeFresh(read(t, `a#9"t"[b#7[c#1],d#3"x",b#2[c#999]]`))); got != `a#1"t"[b#2[c#3],d#4"x",b#5[c#6]]` {
		t.Errorf("with new numbers it is %s", got)
	}
}

// P56: a way hangs on kinds and places alone.
func TestWaysDoNotHangOnTextsAndNumbers(t *testing.T) {
	for _, tree := range someTrees() {
		id := 500
		other, _ := rebuilt(tree, func(now impl.Tree) (impl.Tree, bool) {
			id--
			now.Id, now.Text = id, strings.Repeat("w", id%13)
			return now, true
		})
		ids, others := idsOf(tree), idsOf(other)
		for at := range ids {
			if way := impl.PathOf(other, others[at]); way != impl.PathOf(tree, ids[at]) {
				t.Fatalf("the way to %d of %s is %q", others[at], textOfTree(other), way)
			}
		}
	}
}

// Of a tree that is not ok each function has its fixed answer.
func TestLookingAtTreesThatAreNotOk(t *testing.T) {
	for _, bad := range badTrees() {
		if impl.TreeCount(bad, bad.Kind) != 0 || impl.TreeCount(bad, "b") != 0 || len(impl.TreeTexts(bad)) != 0 || !sameTree(impl.TreeFresh(bad), impl.Tree{}) {
			t.Errorf("%v is counted, told, or made fresh", bad)
		}
		for _, id := range append(idsOf(bad), 0, -1, 7) {
			if impl.TreeLevel(bad, id) != 0 || impl.PathOf(bad, id) != "" {
				t.Errorf("%d of %v is at %d, by %q", id, bad, impl.TreeLevel(bad, id), impl.PathOf(bad, id))
			}
		}
		for _, way := range []string{bad.Kind, "", "a", "a/b.0"} {
			if got := impl.PathFind(bad, way); got != 0 {
				t.Errorf("the way %q of %v leads to %d", way, bad, got)
			}
		}
	}
}
