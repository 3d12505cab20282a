package tests

import (
	"slices"
	"sync"

	"loop.example/codicil/impl"
)

// What this file has says anew, in the plainest way, what the document says of merges:
// each thing and each conflict has a key, and the keys alone say what stands ahead of what.

// standing is where each thing of a tree is: in what, and at which place there.
func standing(t impl.Tree) map[int][2]int {
	spots := map[int][2]int{t.Id: {}}
	for _, p := range placesOf(t) {
		for at, kid := range p.thing.Kids {
			spots[kid.Id] = [2]int{p.thing.Id, at}
		}
	}
	return spots
}

// agreeing says of two trees that are right whether what both have is in the same things, in one order.
func agreeing(a, b impl.Tree) bool {
	inA, inB := standing(a), standing(b)
	for x, oneA := range inA {
		oneB, both := inB[x]
		if both && oneA[0] != oneB[0] {
			return false
		}
		for y, otherA := range inA {
			otherB, too := inB[y]
			if both && too && oneA[0] == otherA[0] && oneB[0] == otherB[0] && (oneA[1] < otherA[1]) != (oneB[1] < otherB[1]) {
				return false
			}
		}
	}
	return true
}

// going says whether three trees go together.
func going(old, a, b impl.Tree) bool {
	if !rightTree(old) || !rightTree(a) || !rightTree(b) {
		return false
	}
	return old.Id == a.Id && a.Id == b.Id && agreeing(old, a) && agreeing(old, b) && agreeing(a, b)
}

// keyed is something and where it stands: lesser keys first.
type keyed[T any] struct {
	key   []int
	value T
}

func inOrder[T any](list []keyed[T]) []T {
	slices.SortFunc(list, func(a, b keyed[T]) int { return slices.Compare(a.key, b.key) })
	var values []T
	for _, k := range list {
		values = append(values, k.value)
	}
	return values
}

// joining is three trees that go together, and what was told of them so far.
type joining struct {
	old, a, b impl.Tree
	told      []keyed[impl.Conflict]
}

func (j *joining) tell(id, what int, key ...int) {
	j.told = append(j.told, keyed[impl.Conflict]{key, impl.Conflict{Id: id, What: what}})
}

// joined is what comes of three trees that go together, be it right or not, and the conflicts.
func joined(old, a, b impl.Tree) (impl.Tree, []impl.Conflict) {
	j := &joining{old: old, a: a, b: b}
	made := j.thing(a.Id, nil)
	return made, inOrder(j.told)
}

// word is which of three words counts, and whether two changed it unlike.
func word(old string, was bool, a, b string) (string, bool) {
	changedA, changedB := !was || a != old, !was || b != old
	if changedB && !changedA {
		return b, false
	}
	return a, changedA && changedB && a != b
}

// thing is what comes of a number that both have; key is where it stands.
func (j *joining) thing(id int, key []int) impl.Tree {
	old, was := thingOf(j.old, id)
	a, _ := thingOf(j.a, id)
	b, _ := thingOf(j.b, id)
	kind, kinds := word(old.Kind, was, a.Kind, b.Kind)
	text, texts := word(old.Text, was, a.Text, b.Text)
	if kinds {
		j.tell(id, 2, slices.Concat(key, []int{-2})...)
	}
	if texts {
		j.tell(id, 1, slices.Concat(key, []int{-1})...)
	}
	kids := append(j.kids(a, b, 0, key), j.kids(b, a, 1, key)...)
	j.spot(id, kids, key)
	return impl.Tree{Id: id, Kind: kind, Text: text, Kids: inOrder(kids)}
}

// kids is what comes of what is in a thing on one side, 0 or 1; what both have counts for the side 0.
// A key is 2 for each thing ahead that both have, and one more at such a thing itself; then the side, and the place there.
func (j *joining) kids(mine, other impl.Tree, side int, key []int) []keyed[impl.Tree] {
	var list []keyed[impl.Tree]
	ahead := 0
	for at, kid := range mine.Kids {
		if _, both := thingOf(other, kid.Id); both {
			spot := slices.Concat(key, []int{ahead + 1, 0, 0})
			if side == 0 {
				list = append(list, keyed[impl.Tree]{spot, j.thing(kid.Id, spot)})
			}
			ahead += 2
			continue
		}
		spot := slices.Concat(key, []int{ahead, side, at})
		was, had := thingOf(j.old, kid.Id)
		if had && sameTree(was, kid) {
			continue
		}
		if had {
			j.tell(kid.Id, 3, spot...)
		}
		list = append(list, keyed[impl.Tree]{spot, kid})
	}
	return list
}

// spot tells of the first place at which both sides leave something.
func (j *joining) spot(id int, kids []keyed[impl.Tree], key []int) {
	level := len(key)
	sides := map[int]map[int]bool{}
	least := -1
	for _, kid := range kids {
		gap := kid.key[level]
		if sides[gap] == nil {
			sides[gap] = map[int]bool{}
		}
		sides[gap][kid.key[level+1]] = true
		if len(sides[gap]) == 2 && (least < 0 || gap < least) {
			least = gap
		}
	}
	if least >= 0 {
		j.tell(id, 4, slices.Concat(key, []int{least, 2})...)
	}
}

// bushy is a tree of at most so many things, of few kinds and texts, numbered from 1 on.
func (c chance) bushy(most int) impl.Tree {
	t := impl.Tree{Id: 1, Kind: "a"}
	things := 1 + c.Intn(most)
	for id := 2; id <= things; id++ {
		over := 1 + c.Intn(id-1)/(1+c.Intn(3))
		holder, _ := thingOf(t, over)
		t, _ = stepped(t, put(over, c.Intn(len(holder.Kids)+1), impl.Tree{Id: id, Kind: c.word("a", "b"), Text: c.word("", "", "x")}))
	}
	return t
}

// changed is a tree behind some steps by chance.
func (c chance) changed(t impl.Tree, most int) impl.Tree {
	return steppedAll(t, c.doables(t, c.Intn(most+1)))
}

// triple is three trees of one outermost number, which go together mostly: one, and two that came of it.
func (c chance) triple() (old, a, b impl.Tree) {
	old = c.bushy(20)
	if c.Intn(8) == 0 {
		old = c.tree()
	}
	base := old
	if c.Intn(2) == 0 {
		base = c.changed(old, 3) // what both changed alike
	}
	a, b = c.changed(base, 7), c.changed(base, 7)
	switch c.Intn(16) {
	case 0:
		b = c.shuffled(b)
	case 1:
		a = c.shuffled(a)
	case 2:
		old = c.shuffled(old)
	case 3:
		old = impl.Tree{Id: old.Id, Kind: old.Kind} // all is new
	}
	return old, a, b
}

// someTriples are trees by chance, three each. They are made once, and not written into.
var someTriples = sync.OnceValue(func() [][3]impl.Tree {
	c := newChance()
	var list [][3]impl.Tree
	for range 4000 {
		old, a, b := c.triple()
		list = append(list, [3]impl.Tree{old, a, b})
	}
	return list
})

// goingTriples are those of them that go together.
var goingTriples = sync.OnceValue(func() [][3]impl.Tree {
	return slices.DeleteFunc(slices.Clone(someTriples()), func(trees [3]impl.Tree) bool { return !going(trees[0], trees[1], trees[2]) })
})

func textOfTrees(list ...impl.Tree) string {
	out := ""
	for _, t := range list {
		out += textOfTree(t) + "\n"
	}
	return out
}
