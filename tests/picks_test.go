package tests

import (
	"runtime"
	"slices"
	"testing"
	"time"

	"loop.example/codicil/impl"
)

// checkPicked holds MergePick against the document's words, and says how many picks were asked for, -1 if none could be.
func checkPicked(t *testing.T, old, a, b impl.Tree, picks []bool) (impl.Tree, int) {
	t.Helper()
	var want impl.Tree
	asked := -1
	if going(old, a, b) {
		if made, count := chosen(old, a, b, picks); rightTree(made) {
			want, asked = made, count
		}
	}
	got, ok := impl.MergePick(old, a, b, picks)
	if ok != (asked >= 0) || !sameTree(got, want) {
		t.Fatalf("%sby %v are %s, %v, not %s", textOfTrees(old, a, b), picks, textOfTree(got), ok, textOfTree(want))
	}
	return got, asked
}

func (c chance) picks(count int) []bool {
	var picks []bool
	for range count {
		picks = append(picks, c.Intn(2) == 0)
	}
	return picks
}

func TestPicksByChance(t *testing.T) {
	c := newChance()
	asked := map[int]int{}
	for _, trees := range someTriples() {
		for _, picks := range [][]bool{nil, {false}, c.picks(2), c.picks(c.Intn(12)), c.picks(200)} {
			_, count := checkPicked(t, trees[0], trees[1], trees[2], picks)
			asked[min(count, 5)]++
		}
	}
	for count, least := range map[int]int{-1: 1000, 0: 3000, 1: 1000, 2: 800, 3: 300, 4: 80, 5: 30} {
		if asked[count] < least {
			t.Errorf("%d picks were asked for only %d times, of %v", count, asked[count], asked)
		}
	}
}

// P74: where nothing is unlike picks do not matter; and where all picks are true, nothing but what is cut differs.
func TestPicksWithoutConflicts(t *testing.T) {
	c := newChance()
	alike := 0
	for _, trees := range someTriples() {
		old, a, b := trees[0], trees[1], trees[2]
		merged, told, ok := impl.MergeTrees(old, a, b)
		if !ok || len(told) > 0 {
			continue
		}
		alike++
		for _, picks := range [][]bool{nil, {true}, {false}, make([]bool, 100), c.picks(20)} {
			if got, can := impl.MergePick(old, a, b, picks); !can || !sameTree(got, merged) {
				t.Fatalf("%sby %v are %s, and without picks %s", textOfTrees(old, a, b), picks, textOfTree(got), textOfTree(merged))
			}
		}
	}
	if alike < 1000 {
		t.Errorf("only %d had no conflict", alike)
	}
}

// all is so many picks alike.
func all(pick bool) []bool {
	return slices.Repeat([]bool{pick}, 200)
}

// P75: who always counts loses no word.
func TestWhoAlwaysCounts(t *testing.T) {
	words := 0
	for _, trees := range goingTriples() {
		for _, first := range []bool{true, false} {
			got, ok := impl.MergePick(trees[0], trees[1], trees[2], all(first))
			mine, other := trees[1], trees[2]
			if !first {
				mine, other = other, mine
			}
			for _, p := range placesOf(got) {
				if ok {
					words += checkWords(t, trees[0], mine, other, p.thing)
				}
			}
			if ok && !hasAll(got, trees[0], mine, other) {
				t.Fatalf("%sby picks that are all %v, are %s", textOfTrees(trees[:]...), first, textOfTree(got))
			}
		}
	}
	if words < 5000 {
		t.Errorf("only %d words were changed", words)
	}
}

// checkWords asks of a thing whether it has the words that one changed, and how many these are.
func checkWords(t *testing.T, old, mine, other, thing impl.Tree) int {
	t.Helper()
	has, is := thingOf(mine, thing.Id)
	was, had := thingOf(old, thing.Id)
	_, both := thingOf(other, thing.Id)
	if !is {
		return 0
	}
	count := 0
	if alone := !both || !had; alone || has.Kind != was.Kind {
		count++
		if thing.Kind != has.Kind {
			t.Fatalf("%sthe kind of %d is %s", textOfTrees(old, mine, other), thing.Id, thing.Kind)
		}
	}
	if alone := !both || !had; alone || has.Text != was.Text {
		count++
		if thing.Text != has.Text {
			t.Fatalf("%sthe text of %d is %s", textOfTrees(old, mine, other), thing.Id, thing.Text)
		}
	}
	return count
}

// hasAll says whether all is there that one changed or put, and nothing that it cut.
func hasAll(got, old, mine, other impl.Tree) bool {
	for _, p := range placesOf(mine) {
		was, had := thingOf(old, p.thing.Id)
		_, there := thingOf(got, p.thing.Id)
		_, both := thingOf(other, p.thing.Id)
		_, over := thingOf(other, p.over)
		if (!had || both || over && !sameTree(was, p.thing)) && !there {
			return false
		}
	}
	for _, p := range placesOf(old) {
		_, cut := thingOf(mine, p.thing.Id)
		_, there := thingOf(got, p.thing.Id)
		if !cut && there {
			return false
		}
	}
	return true
}

// P76: with all picks turned, and both turned, it is the same.
func TestPicksTurned(t *testing.T) {
	unlike := 0
	for _, trees := range someTriples() {
		old, a, b := trees[0], trees[1], trees[2]
		one, ok := impl.MergePick(old, a, b, all(true))
		other, too := impl.MergePick(old, b, a, all(false))
		none, three := impl.MergePick(old, a, b, nil)
		if ok != too || three != ok || !sameTree(one, other) || !sameTree(one, none) {
			t.Fatalf("%sare %s, %v, and turned %s, %v", textOfTrees(old, a, b), textOfTree(one), ok, textOfTree(other), too)
		}
		back, _ := impl.MergePick(old, a, b, all(false))
		turned, _ := impl.MergePick(old, b, a, all(true))
		if !sameTree(back, turned) {
			t.Fatalf("%sare %s by the second, and turned %s", textOfTrees(old, a, b), textOfTree(back), textOfTree(turned))
		}
		if ok && !sameTree(one, back) {
			unlike++
		}
	}
	if unlike < 1000 {
		t.Errorf("only %d hang on picks", unlike)
	}
}

func TestKnownPicks(t *testing.T) {
	for _, c := range []struct {
		old, a, b, picks string // t and f
		want             string
		asked            int
	}{
		// Kind, then text, each by a pick of its own.
		{`a#1"x"`, `b#1"y"`, `c#1"z"`, "", `b#1"y"`, 2}, {`a#1"x"`, `b#1"y"`, `c#1"z"`, "f", `c#1"y"`, 2}, {`a#1"x"`, `b#1"y"`, `c#1"z"`, "tf", `b#1"z"`, 2}, {`a#1"x"`, `b#1"y"`, `c#1"z"`, "ff", `c#1"z"`, 2},
		{`a#1"x"`, `a#1"y"`, `a#1"z"`, "ft", `a#1"z"`, 1}, {`a#1"x"`, `b#1"x"`, `a#1"z"`, "ff", `b#1"z"`, 0}, {`a#1"x"`, "a#1", `a#1"z"`, "t", "a#1", 1}, {"a#1", `a#1[n#5"l"]`, "a#1[n#5]", "f", "a#1[n#5]", 1},
		// What one cut, and the other one changed: it stays by the pick of who has it.
		{"a#1[b#2]", "a#1", `a#1[b#2"x"]`, "t", "a#1", 1}, {"a#1[b#2]", "a#1", `a#1[b#2"x"]`, "f", `a#1[b#2"x"]`, 1}, {"a#1[b#2]", `a#1[b#2"x"]`, "a#1", "t", `a#1[b#2"x"]`, 1}, {"a#1[b#2]", `a#1[b#2"x"]`, "a#1", "f", "a#1", 1}, {"a#1[b#2]", "a#1[b#2]", "a#1", "t", "a#1", 0},
		{"a#1[b#2[c#3]]", "a#1", "a#1[b#2[c#3,d#4]]", "", "a#1", 1}, {"a#1[b#2[c#3]]", "a#1[b#2]", `a#1[b#2[c#3"x"]]`, "", "a#1[b#2]", 1},
		// Of several in one place, first all that only a has, then all that only b has.
		{"a#1[b#2,c#3,d#4]", `a#1[b#2"l",c#3"l"]`, `a#1[d#4"r"]`, "ftf", `a#1[c#3"l",d#4"r"]`, 4}, {"a#1[b#2,c#3,d#4]", `a#1[b#2"l",c#3"l"]`, `a#1[d#4"r"]`, "ftff", `a#1[d#4"r",c#3"l"]`, 4}, {"a#1[b#2,c#3,d#4]", `a#1[d#4"l"]`, `a#1[b#2"r",c#3"r"]`, "ttf", `a#1[d#4"l",c#3"r"]`, 4},
		{"a#1[b#2,c#3,d#4]", `a#1[b#2"l",c#3"l"]`, `a#1[d#4"r"]`, "fff", `a#1[d#4"r"]`, 3}, {"a#1[b#2,c#3,d#4]", `a#1[b#2"l",c#3"l"]`, `a#1[d#4"r"]`, "ttt", `a#1[b#2"l",c#3"l"]`, 3},
		// What goes stands at no place: then there is nothing to stand ahead of.
		{"a#1[b#2]", `a#1[b#2"x"]`, "a#1[n#9]", "f", "a#1[n#9]", 1}, {"a#1[b#2]", `a#1[b#2"x"]`, "a#1[n#9]", "tf", `a#1[n#9,b#2"x"]`, 2}, {"a#1[b#2]", "a#1[n#9]", `a#1[b#2"x"]`, "tf", "a#1[n#9]", 1}, {"a#1[b#2]", "a#1[n#9]", `a#1[b#2"x"]`, "ff", `a#1[b#2"x",n#9]`, 2},
		// Each place anew, and the thing that both have between them: its kind, its text, and what is in it.
		{"a#1[b#2]", "a#1[p#3,b#2,q#4]", "a#1[r#5,b#2,s#6]", "ft", "a#1[r#5,p#3,b#2,q#4,s#6]", 2}, {"a#1[b#2]", "a#1[p#3,b#2,q#4]", "a#1[r#5,b#2,s#6]", "tf", "a#1[p#3,r#5,b#2,s#6,q#4]", 2}, {"a#1", "a#1[x#5,z#7]", "a#1[y#6,w#8]", "f", "a#1[y#6,w#8,x#5,z#7]", 1},
		{"a#1[b#2]", `a#1[p#3,b#2"l"[x#7],q#4]`, `a#1[r#5,b#2"r"[y#8],s#6]`, "tftf", `a#1[p#3,r#5,b#2"r"[x#7,y#8],s#6,q#4]`, 4}, {"a#1[b#2]", `a#1[p#3,b#2"l"[x#7],q#4]`, `a#1[r#5,b#2"r"[y#8],s#6]`, "ftft", `a#1[r#5,p#3,b#2"l"[y#8,x#7],q#4,s#6]`, 4},
		{"a#1[b#2,c#3]", `k#1"l"[b#2"l"]`, `m#1"r"[c#3"r"]`, "fffff", `m#1"r"[c#3"r"]`, 4}, {"a#1[b#2,c#3]", `k#1"l"[b#2"l"]`, `m#1"r"[c#3"r"]`, "tttff", `k#1"l"[c#3"r",b#2"l"]`, 5},
	} {
		var picks []bool
		for _, pick := range c.picks {
			picks = append(picks, pick == 't')
		}
		got, asked := checkPicked(t, read(t, c.old), read(t, c.a), read(t, c.b), picks)
		if textOfTree(got) != c.want || asked != c.asked {
			t.Errorf("%s, %s, %s by %q are %s by %d picks, not %s by %d", c.old, c.a, c.b, c.picks, textOfTree(got), asked, c.want, c.asked)
		}
	}
}

// What comes of picks may have just as many things as a tree may; what goes by a pick makes room.
func TestPicksAtTheLimits(t *testing.T) {
	wide := func(from, things int) []impl.Tree {
		var list []impl.Tree
		for at := range things {
			list = append(list, leaf(from+at))
		}
		return list
	}
	old := inside(leaf(2))
	changed := inside(append([]impl.Tree{{Id: 2, Kind: "n", Text: "x"}}, wide(100, 9)...)...)
	for _, c := range []struct {
		b     int
		picks []bool
		ok    bool
	}{{9, nil, true}, {10, nil, false}, {10, []bool{false}, true}, {10, []bool{true, false}, false}, {11, []bool{false}, false}, {9, []bool{true, false}, true}} {
		b := inside(wide(200, c.b)...)
		got, _ := checkPicked(t, old, changed, b, c.picks)
		_, ok := impl.MergePick(old, changed, b, c.picks)
		_, turned := impl.MergePick(old, b, changed, turnedPicks(c.picks))
		if ok != c.ok || turned != c.ok || ok && c.b > 8 && len(idsOf(got)) < 20 {
			t.Errorf("%d more, by %v: %v, %v", c.b, c.picks, ok, turned)
		}
	}
	many := make([]bool, 5_000_000)
	if got, ok := impl.MergePick(old, changed, inside(wide(200, 9)...), many); !ok || len(idsOf(got)) != 19 {
		t.Errorf("by many picks: %s, %v", textOfTree(got), ok)
	}
	if got, ok := impl.MergePick(old, old, old, many); !ok || !sameTree(got, old) {
		t.Errorf("by many picks that are not asked for: %s, %v", textOfTree(got), ok)
	}
}

// What sends picks has come to its end when the answer is there, also if not all were asked for.
func TestPicksAreNotSentForEver(t *testing.T) {
	before := runtime.NumGoroutine()
	old, a, b := read(t, `a#1"x"`), read(t, `a#1"y"`), read(t, `a#1"z"`)
	for range 200 {
		impl.MergePick(old, a, b, make([]bool, 10))
		impl.MergePick(old, a, a, make([]bool, 10))
		impl.MergePick(old, impl.Tree{}, b, make([]bool, 10))
	}
	for range 1000 { // it may be about to end
		if runtime.NumGoroutine() <= before {
			return
		}
		time.Sleep(time.Millisecond)
	}
	t.Errorf("%d goroutines have no end", runtime.NumGoroutine()-before)
}

// turnedPicks is picks turned, and false where there are no more.
func turnedPicks(picks []bool) []bool {
	turned := make([]bool, 200)
	for at, pick := range picks {
		turned[at] = !pick
	}
	return turned
}

func TestPicksOfTreesThatDoNotFit(t *testing.T) {
	for _, picks := range [][]bool{nil, {true, false}, all(false)} {
		for _, c := range [][3]string{{"a#2", "a#1", "a#1"}, {"a#1", "a#2", "a#1"}, {"a#1", "a#1", "a#2"}, {"a#1[b#2,c#3]", "a#1[c#3,b#2]", "a#1"}, {"a#1[b#2[c#3]]", "a#1[c#3]", "a#1"}, {"a#1", "a#1[b#2[c#3]]", "a#1[c#3]"}} {
			if _, asked := checkPicked(t, read(t, c[0]), read(t, c[1]), read(t, c[2]), picks); asked >= 0 {
				t.Errorf("%v are put together", c)
			}
		}
		for _, bad := range badTrees() {
			good := impl.Tree{Id: bad.Id, Kind: "a"}
			for _, c := range [][3]impl.Tree{{bad, good, good}, {good, bad, good}, {good, good, bad}, {bad, bad, bad}} {
				if got, ok := impl.MergePick(c[0], c[1], c[2], picks); ok || !sameTree(got, impl.Tree{}) {
					t.Errorf("%v is put together as %v", bad, got)
				}
			}
		}
	}
}
