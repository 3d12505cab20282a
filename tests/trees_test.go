package tests

import (
	"slices"
	"strings"
	"testing"

	"loop.example/codicil/impl"
)

// inside is an outermost thing with things in it.
func inside(kids ...impl.Tree) impl.Tree {
	return impl.Tree{Id: 1, Kind: "a", Kids: kids}
}

// chain is a tree of so many levels.
func chain(levels int) impl.Tree {
	t := impl.Tree{Id: levels, Kind: "a"}
	for id := levels - 1; id >= 1; id-- {
		t = impl.Tree{Id: id, Kind: "a", Kids: []impl.Tree{t}}
	}
	return t
}

// row is a tree of so many things, all but one in the outermost.
func row(things int) impl.Tree {
	t := inside()
	for id := 2; id <= things; id++ {
		t.Kids = append(t.Kids, impl.Tree{Id: id, Kind: "b"})
	}
	return t
}

// edgeTrees are ok, but just so.
func edgeTrees() []impl.Tree {
	list := []impl.Tree{chain(1), chain(5), chain(6), row(2), row(19), row(20)}
	for _, thing := range []impl.Tree{
		{Id: 999, Kind: "a"}, {Id: 2, Kind: "abcdefgh"}, {Id: 2, Kind: "z"}, {Id: 2, Kind: "text"},
		{Id: 10, Kind: "b"}, {Id: 100, Kind: "b"}, {Id: 2, Kind: "b", Kids: []impl.Tree{}},
		{Id: 2, Kind: "b", Text: "abcdefghijkl"}, {Id: 2, Kind: "b", Text: " !#[],~"}, {Id: 2, Kind: "b", Text: " "},
	} {
		list = append(list, thing, inside(thing))
	}
	full := row(15)
	full.Kids[13].Kids = []impl.Tree{chain(4)}
	renumber(&full.Kids[13], 900)
	return append(list, full)
}

func renumber(t *impl.Tree, id int) int {
	t.Id = id
	for i := range t.Kids {
		id = renumber(&t.Kids[i], id+1)
	}
	return id
}

// badThings are not ok of themselves.
func badThings() []impl.Tree {
	list := []impl.Tree{{}, {Id: 2}}
	for _, id := range []int{0, -1, -999, 1000, 1001, 1 << 62, -1 << 63} {
		list = append(list, impl.Tree{Id: id, Kind: "b"})
	}
	for _, kind := range []string{"abcdefghi", "A", "bA", "`", "{", "b1", "b ", " b", "b#", "é", "b\x00", "\xff", "b\n", "-"} {
		list = append(list, impl.Tree{Id: 2, Kind: kind})
	}
	for _, text := range []string{"abcdefghijklm", `"`, `a"b`, "\x1f", "\x7f", "\n", "\x00", "\x80", "\xff", "é", strings.Repeat("t", 5000)} {
		list = append(list, impl.Tree{Id: 2, Kind: "b", Text: text})
	}
	return list
}

// badTrees are not ok.
func badTrees() []impl.Tree {
	list := []impl.Tree{chain(7), chain(8), chain(30), row(21), row(22), row(40)}
	for _, bad := range badThings() {
		list = append(list, bad, inside(bad), inside(impl.Tree{Id: 5, Kind: "c", Kids: []impl.Tree{{Id: 6, Kind: "d"}, bad}}))
	}
	two, three := impl.Tree{Id: 2, Kind: "b"}, impl.Tree{Id: 3, Kind: "c"}
	list = append(list, inside(two, two), inside(two, three, two), inside(inside()))
	list = append(list, inside(impl.Tree{Id: 4, Kind: "d", Kids: []impl.Tree{two}}, three, two))
	full := row(16)
	full.Kids[14].Kids = []impl.Tree{chain(5)}
	renumber(&full.Kids[14], 900)
	return append(list, full)
}

// someTrees are ok: those of the edges, and many by chance.
func someTrees() []impl.Tree {
	c := newChance()
	list := edgeTrees()
	for range 400 {
		list = append(list, c.tree())
	}
	return list
}

// P2: what is ok is written, and read again.
func TestTreesAreWrittenAndRead(t *testing.T) {
	for _, tree := range someTrees() {
		text := impl.TreeWrite(tree)
		if !impl.TreeOk(tree) || text != textOfTree(tree) {
			t.Fatalf("%v is written %q, ok %v", tree, text, impl.TreeOk(tree))
		}
		if got, ok := impl.TreeRead(text); !ok || !sameTree(got, tree) {
			t.Fatalf("%q is read as %v, %v", text, got, ok)
		}
	}
}

// P2: of any other text nothing is read.
func TestNothingElseIsReadAsTree(t *testing.T) {
	c := newChance()
	words := []string{"a", "z", "A", "#", "0", "1", "9", `"`, "[", "]", ",", " ", "~", "\x7f", "\x1f", "\n", "\xff", `""`, "[]", ",b#7", `"t"`, "-", "+"}
	trees := edgeTrees()
	for range 60 {
		trees = append(trees, c.tree())
	}
	for _, tree := range trees {
		for _, text := range c.changes(textOfTree(tree), words...) {
			checkTreeRead(t, text)
		}
	}
}

func checkTreeRead(t *testing.T, text string) {
	t.Helper()
	want, right := treeOfText(text)
	got, ok := impl.TreeRead(text)
	if ok != right || !sameTree(got, want) {
		t.Fatalf("%q is read as %v, %v, not %v, %v", text, got, ok, want, right)
	}
	if ok && impl.TreeWrite(got) != text {
		t.Fatalf("%q is read, and written %q", text, impl.TreeWrite(got))
	}
}

func TestTreeTextsAtTheEdges(t *testing.T) {
	for _, text := range []string{
		"doc#1", "doc#0", "doc#999", "doc#1000", "doc#01", "doc#001", "doc#-1", "doc#+1", "doc#", "doc", "#1", "doc#1x", "doc#99999999999999999999",
		`a#1"t"`, `a#1""`, `a#1"t`, `a#1"abcdefghijkl"`, `a#1"abcdefghijklm"`, `a#1"t"b`, `a#1"t""t"`, `a#1[b#2]"t"`, `a#1"["[b#2"]"]`,
		"a#1[b#2]", "a#1[]", "a#1[", "a#1]", "a#1[b#2", "a#1[b#2]]", "a#1[b#2,]", "a#1[,b#2]", "a#1[b#2,,c#3]", "a#1[b#2 ,c#3]", "a#1[b#2][c#3]", "a#1,b#2",
		"a#1[b#1]", "a#1[b#2,b#2]", "a#1[b#2[c#3],d#3]", "A#1", "abcdefgh#1", "abcdefghi#1", " a#1", "a#1 ", "a#1\n", "a #1", "",
	} {
		checkTreeRead(t, text)
	}
	for _, tree := range badTrees() {
		checkTreeRead(t, textOfTree(tree))
	}
}

// Of a tree that is not ok each function has its fixed answer.
func TestTreesThatAreNotOk(t *testing.T) {
	good := row(3)
	for _, bad := range badTrees() {
		if rightTree(bad) || impl.TreeOk(bad) {
			t.Errorf("%v is ok", bad)
		}
		if text := impl.TreeWrite(bad); text != "" {
			t.Errorf("%v is written %q", bad, text)
		}
		if ids := impl.TreeIds(bad); len(ids) != 0 {
			t.Errorf("%v has the numbers %v", bad, ids)
		}
		for _, id := range append(idsOf(bad), 0, -1, 7) {
			found, ok := impl.TreeFind(bad, id)
			if ok || !sameTree(found, impl.Tree{}) || impl.TreeOver(bad, id) != -1 {
				t.Errorf("%v has %d: %v, %v in %d", bad, id, found, ok, impl.TreeOver(bad, id))
			}
		}
		if impl.TreeSame(bad, bad) || impl.TreeSame(bad, good) || impl.TreeSame(good, bad) {
			t.Errorf("%v is the same as a tree", bad)
		}
	}
}

// P3: what is among the numbers is found, and nothing else.
func TestThingsAreFound(t *testing.T) {
	for _, tree := range someTrees() {
		ids := impl.TreeIds(tree)
		if !slices.Equal(ids, idsOf(tree)) {
			t.Fatalf("%v has the numbers %v", tree, ids)
		}
		for id := -2; id <= 1001; id++ {
			found, ok := impl.TreeFind(tree, id)
			if ok != slices.Contains(ids, id) || !ok && !sameTree(found, impl.Tree{}) {
				t.Fatalf("%v has %d: %v, %v", tree, id, found, ok)
			}
		}
		for _, p := range placesOf(tree) {
			found, _ := impl.TreeFind(tree, p.thing.Id)
			if !impl.TreeOk(found) || !sameTree(found, p.thing) {
				t.Fatalf("%v has at %d %v", tree, p.thing.Id, found)
			}
			for _, id := range impl.TreeIds(found) {
				if !slices.Contains(ids, id) {
					t.Fatalf("%d is in %v, but not in %v", id, found, tree)
				}
			}
		}
	}
}

// P4: each thing but the outermost is in one other, once.
func TestThingsAreInOneOther(t *testing.T) {
	for _, tree := range someTrees() {
		ids := idsOf(tree)
		for _, p := range placesOf(tree) {
			over := impl.TreeOver(tree, p.thing.Id)
			if over != p.over {
				t.Fatalf("%d of %v is in %d", p.thing.Id, tree, over)
			}
			if over > 0 {
				holder, _ := impl.TreeFind(tree, over)
				checkHoldsOnce(t, holder, p.thing.Id)
			}
		}
		for id := -2; id <= 1001; id++ {
			over := impl.TreeOver(tree, id)
			if !slices.Contains(ids, id) && over != -1 || (over == 0) != (id == tree.Id) {
				t.Fatalf("%d of %v is in %d", id, tree, over)
			}
		}
	}
}

func checkHoldsOnce(t *testing.T, holder impl.Tree, id int) {
	t.Helper()
	times := 0
	for _, kid := range holder.Kids {
		if kid.Id == id {
			times++
		}
	}
	if times != 1 {
		t.Fatalf("%v has %d %d times", holder, id, times)
	}
}

// P5: trees are the same just if they are written alike.
func TestTreesAreTheSame(t *testing.T) {
	c := newChance()
	for _, tree := range someTrees()[:100] {
		again, _ := treeOfText(textOfTree(tree))
		if !impl.TreeSame(tree, tree) || !impl.TreeSame(tree, again) {
			t.Fatalf("%v is not the same as itself", tree)
		}
		for _, text := range c.changes(textOfTree(tree), "a", "1", "x") {
			other, right := treeOfText(text)
			same := right && text == textOfTree(tree)
			if impl.TreeSame(tree, other) != same || impl.TreeSame(other, tree) != same {
				t.Fatalf("%v and %v are the same, or not", tree, other)
			}
		}
	}
}

func TestTreesAreNotTheSame(t *testing.T) {
	base := `a#1"t"[b#2"u"[c#3],d#4]`
	tree, _ := treeOfText(base)
	for _, text := range []string{
		`b#1"t"[b#2"u"[c#3],d#4]`, `a#5"t"[b#2"u"[c#3],d#4]`, `a#1"x"[b#2"u"[c#3],d#4]`, `a#1[b#2"u"[c#3],d#4]`,
		`a#1"t"[d#4,b#2"u"[c#3]]`, `a#1"t"[b#2"u",c#3,d#4]`, `a#1"t"[b#2"u"[c#3]]`, `a#1"t"[b#2"u"[c#3,d#4]]`,
		`a#1"t"[b#2"u"[e#3],d#4]`, `a#1"t"[b#2"u"[c#5],d#4]`, `a#1"t"[b#2"u"[c#3"v"],d#4]`, `a#1"t"[b#2"u"[c#3],d#4,e#5]`,
	} {
		other, right := treeOfText(text)
		if !right || impl.TreeSame(tree, other) || impl.TreeSame(other, tree) {
			t.Errorf("%s and %s are the same", base, text)
		}
	}
	if !impl.TreeSame(impl.Tree{Id: 1, Kind: "a"}, impl.Tree{Id: 1, Kind: "a", Kids: []impl.Tree{}}) {
		t.Error("the empty list is another one than the nil list")
	}
}
