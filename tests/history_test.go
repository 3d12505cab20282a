package tests

import (
	"slices"
	"strconv"
	"strings"
	"testing"

	"loop.example/codicil/impl"
)

// someCommits are commits that are right, each limit being met.
func someCommits() []impl.Commit {
	x, y := sumOf("x"), sumOf("y")
	list := []impl.Commit{
		{Tree: x}, {Over: []string{}, Tree: x, Note: "n"}, {Over: []string{x}, Tree: x, Note: "n"}, {Over: []string{x, y}, Tree: y, Note: "n"}, {Over: []string{y, x}, Tree: y},
		{Tree: x, Note: "twelve bytes"}, {Tree: x, Note: " "}, {Tree: x, Note: "            "}, {Tree: x, Note: ` !"#$%&'()*+`}, {Tree: x, Note: "}~"}, {Tree: x, Note: "note "},
		{Over: []string{strings.Repeat("0", 64), strings.Repeat("f", 64)}, Tree: strings.Repeat("9", 64), Note: "over"},
	}
	c := newChance()
	for at := range 60 {
		commit := impl.Commit{Tree: sumOf(strconv.Itoa(at)), Note: c.word("", "a", "a b", "tree ", `"`, "-", "~")}
		for over := range c.Intn(3) {
			commit.Over = append(commit.Over, sumOf(strconv.Itoa(100*at+over)))
		}
		list = append(list, commit)
	}
	return list
}

// badCommits are commits that are not right, each by one fault alone.
func badCommits() []impl.Commit {
	x, y, z := sumOf("x"), sumOf("y"), sumOf("z")
	list := []impl.Commit{
		{}, {Note: "n"}, {Over: []string{x}}, {Over: []string{x, y, z}, Tree: x}, {Over: []string{x, x}, Tree: y}, {Over: []string{x, y, x}, Tree: y},
		{Over: []string{x, ""}, Tree: x}, {Over: []string{"", ""}, Tree: x}, {Over: make([]string, 1000), Tree: x},
		{Tree: x, Note: "thirteen byte"}, {Tree: x, Note: strings.Repeat("n", 1000)},
	}
	for _, sum := range []string{"", "-", x[:63], x + "0", x[:8], strings.ToUpper(x), x[:63] + "g", x[:63] + "/", x[:63] + ":", x[:63] + "`", x[:63] + "\n", " " + x[:63], x + "\n", x + " "} {
		list = append(list, impl.Commit{Tree: sum}, impl.Commit{Over: []string{sum}, Tree: x}, impl.Commit{Over: []string{sum, x}, Tree: x}, impl.Commit{Over: []string{x, sum}, Tree: x})
	}
	for _, note := range []string{"\n", "\x1f", "\x7f", "\x80", "\xff", "\x00", "\t", "é", "a\nb", "n\n", "\r"} {
		list = append(list, impl.Commit{Tree: x, Note: note})
	}
	return list
}

// P37: a commit can be written and read again without a change.
func TestCommitsAreWrittenAndRead(t *testing.T) {
	for _, commit := range someCommits() {
		text := impl.CommitWrite(commit)
		if text != textOfCommit(commit) {
			t.Fatalf("%v is written as %q", commit, text)
		}
		if got, ok := impl.CommitRead(text); !ok || !sameCommit(got, commit) {
			t.Fatalf("%q is read as %v, %v", text, got, ok)
		}
	}
	for _, commit := range badCommits() {
		if got := impl.CommitWrite(commit); got != "" {
			t.Errorf("%v is written as %q", commit, got)
		}
		checkCommitRead(t, textOfCommit(commit))
	}
}

func checkCommitRead(t *testing.T, text string) {
	t.Helper()
	want, right := commitOfText(text)
	got, ok := impl.CommitRead(text)
	if ok != right || !sameCommit(got, want) {
		t.Fatalf("%q is read as %v, %v", text, got, ok)
	}
	if ok && impl.CommitWrite(got) != text {
		t.Fatalf("%q is read, and written as %q", text, impl.CommitWrite(got))
	}
}

func TestNothingElseIsReadAsCommit(t *testing.T) {
	x, y := sumOf("x"), sumOf("y")
	over, tree := "over "+x+"\n", "tree "+x+"\n"
	for _, text := range []string{
		"", "\n", "commit", "commit\n", "commit\n" + tree, "commit\nnote n\n", tree + "note n\n", "commit\nnote n\n" + tree, "commit\n" + tree + over + "note n\n", over + "commit\n" + tree + "note n\n",
		"commit\n" + tree + tree + "note n\n", "commit\n" + tree + "note n\nnote n\n", "commit\n" + over + over + tree + "note n\n", "commit\n" + over + "over " + y + "\nover " + sumOf("z") + "\n" + tree + "note n\n",
		"commit\n" + tree + "note n", "commit\n" + tree + "note\n", "commit\n" + tree + "note", "commit\n" + tree + "note n\n\n", "commit\n" + tree + "note n\n ", "commit\n\n" + tree + "note n\n",
		"commit\r\n" + tree + "note n\n", "commit \n" + tree + "note n\n", "commit\ntree  " + x + "\nnote n\n", "commit\ntree " + x + " \nnote n\n", "commit\nover  " + x + "\n" + tree + "note n\n",
		"commit\nover " + x + " " + y + "\n" + tree + "note n\n", "commit\nOver " + x + "\n" + tree + "note n\n", "Commit\n" + tree + "note n\n", " commit\n" + tree + "note n\n", "commit\n" + tree + "note \n",
	} {
		if _, ok := impl.CommitRead(text); ok != (text == "commit\n"+tree+"note \n") {
			t.Errorf("%q is read: %v", text, ok)
		}
		checkCommitRead(t, text)
	}
	c := newChance()
	for _, commit := range someCommits()[:12] {
		for _, text := range c.changes(textOfCommit(commit), " ", "\n", "0", "a", "g", "A", "\x00", "\xff", "\x7f", "over ", "é") {
			checkCommitRead(t, text)
		}
	}
}

// asked is sums to ask of a past: its commits, and some that are none.
func (c chance) asked(p past) []string {
	last := p.keys[len(p.keys)-1]
	list := []string{last, last, "", "-", "none", sumOf("none"), strings.ToUpper(last), last[:8], sumOf(p.texts[0])}
	return append(list, p.keys...)
}

// P38: a history has each commit once, and none ahead of one that came of it.
func TestHistories(t *testing.T) {
	c := newChance()
	whole, broken := 0, 0
	for _, p := range somePasts() {
		list := p.objs()
		for _, key := range c.asked(p) {
			checkHistory(t, list, key)
		}
		for range 3 {
			list := c.spoiledPast(p)
			for range 6 {
				if checkHistory(t, list, c.word(c.asked(p)...)) {
					whole++
				} else {
					broken++
				}
			}
		}
	}
	if whole < 300 || broken < 300 {
		t.Errorf("%d are there, %d are not", whole, broken)
	}
}

func checkHistory(t *testing.T, list []impl.Object, key string) bool {
	t.Helper()
	want, there := historyOf(list, key)
	got, ok := impl.HistAll(list, key)
	if ok != there || !slices.Equal(got, want) {
		t.Fatalf("the history of %s is %v, %v, not %v, %v", key, got, ok, want, there)
	}
	if !ok {
		return false
	}
	if got[0] != key {
		t.Fatalf("the history of %s begins with %s", key, got[0])
	}
	for at, one := range got {
		commit, _ := commitAt(list, one)
		for _, over := range commit.Over {
			if slices.Index(got, over) <= at {
				t.Fatalf("%s is not behind %s in %v", over, one, got)
			}
		}
		if slices.Contains(got[:at], one) {
			t.Fatalf("%s is twice in %v", one, got)
		}
	}
	return true
}

// line is so many commits, each but the first over the one ahead of it.
func line(length int) past {
	var p past
	for at := range length {
		p.commit("a#1", strconv.Itoa(at), p.keys[max(0, at-1):]...)
	}
	return p
}

// ladder is so many commits, each over the two ahead of it: its ways back are as many as may be.
func ladder(length int) past {
	var p past
	for at := range length {
		over := slices.Clone(p.keys[max(0, at-2):])
		slices.Reverse(over)
		p.commit("a#1", strconv.Itoa(at), over...)
	}
	return p
}

func TestHistoriesAtTheLimit(t *testing.T) {
	for name, made := range map[string]func(int) past{"line": line, "ladder": ladder} {
		for _, length := range []int{1, 2, 23, 24, 25, 26, 400} {
			p := made(length)
			list, first, last := p.objs(), p.keys[0], p.keys[length-1]
			fits := length <= 24
			all, whole := impl.HistAll(list, last)
			base, has := impl.HistBase(list, last, first)
			back, too := impl.HistBase(list, first, last)
			blames := impl.HistBlame(list, last)
			if whole != fits || has != fits || too != fits || base != back || (base == first) != fits || fits && len(all) != length || !fits && len(all) != 0 {
				t.Errorf("%s of %d: %v, beginning %s, %s", name, length, all, base, back)
			}
			if fits != slices.Equal(blames, []impl.Blame{{Id: 1, Key: first}}) || !fits && len(blames) != 0 {
				t.Errorf("%s of %d: makers %v", name, length, blames)
			}
			if tree, ok := impl.HistTree(list, last); !ok || textOfTree(tree) != "a#1" {
				t.Errorf("%s of %d: there is no tree, but %v", name, length, tree)
			}
			checkHistory(t, list, p.keys[min(23, length-1)])
		}
	}
}

// Two by two commits come together: no way back is long, but all together may be more than 24.
func TestHistoriesOfManyShortWays(t *testing.T) {
	var p past
	var open []string
	for at := range 12 {
		open = append(open, p.commit("a#1", "x"+strconv.Itoa(at)))
	}
	for len(open) > 1 {
		open = append(open[2:], p.commit("a#1", "y"+strconv.Itoa(len(p.keys)), open[0], open[1]))
	}
	if all, ok := impl.HistAll(p.objs(), open[0]); !ok || len(all) != 23 {
		t.Errorf("23 of short ways: %d, %v", len(all), ok)
	}
	full := p.commit("a#1", "z", open[0])
	if all, ok := impl.HistAll(p.objs(), full); !ok || len(all) != 24 {
		t.Errorf("24 of short ways: %d, %v", len(all), ok)
	}
	more := p.commit("a#1", "z", open[0], p.commit("a#1", "w"))
	if all, ok := impl.HistAll(p.objs(), more); ok || len(all) != 0 {
		t.Errorf("25 of short ways: %d, %v", len(all), ok)
	}
}

// Each commit and each tree missing, one at a time, and each that is no commit or tree.
func TestHistoriesOfWhichOneIsMissing(t *testing.T) {
	p := ladder(6)
	last := p.keys[5]
	for _, gone := range p.keys {
		list := p.without(gone)
		all, ok := impl.HistAll(list, last)
		base, has := impl.HistBase(list, last, last)
		if ok || has || len(all) != 0 || base != "" || len(impl.HistBlame(list, last)) != 0 {
			t.Errorf("without %s: %v, %v", gone, all, base)
		}
		for _, key := range p.keys {
			checkHistory(t, list, key)
		}
	}
	list := p.without(sumOf("a#1"))
	if _, ok := impl.HistTree(list, last); ok || len(impl.HistBlame(list, last)) != 0 {
		t.Error("without the tree: it is there")
	}
	if all, ok := impl.HistAll(list, last); !ok || len(all) != 6 {
		t.Errorf("without the tree: %v, %v", all, ok)
	}
	over := p.commit("a#1", "over", last, sumOf("a#1"))
	if all, ok := impl.HistAll(p.objs(), over); ok || len(all) != 0 {
		t.Errorf("over what is no commit: %v", all)
	}
	if tree, ok := impl.HistTree(p.objs(), over); !ok || textOfTree(tree) != "a#1" {
		t.Errorf("over what is no commit: there is no tree, but %v", tree)
	}
	if blames := impl.HistBlame(p.objs(), over); len(blames) != 0 {
		t.Errorf("over what is no commit: makers %v", blames)
	}
}

// All that is asked of objects that are not ok is answered by nothing.
func TestHistoriesOfObjectsThatAreNotOk(t *testing.T) {
	p := line(3)
	key := p.keys[2]
	changes := map[string]func([]impl.Object) []impl.Object{
		"one twice":     func(l []impl.Object) []impl.Object { return append(l, l[len(l)-1]) },
		"another order": func(l []impl.Object) []impl.Object { l[0], l[1] = l[1], l[0]; return l },
		"another text":  func(l []impl.Object) []impl.Object { return append(l, impl.Object{Key: "g", Text: "x"}) },
		"nothing":       func(l []impl.Object) []impl.Object { return append([]impl.Object{{}}, l...) },
		"from the last": func(l []impl.Object) []impl.Object { slices.Reverse(l); return l },
		"a tree's text": func(l []impl.Object) []impl.Object { return retexted(l, sumOf("a#1"), "a#2") },
		"a commit's own": func(l []impl.Object) []impl.Object {
			return retexted(l, key, textOfCommit(impl.Commit{Tree: sumOf("a#1")}))
		},
	}
	for name, change := range changes {
		list := change(p.objs())
		all, whole := impl.HistAll(list, key)
		base, has := impl.HistBase(list, key, p.keys[1])
		tree, there := impl.HistTree(list, key)
		if whole || has || there || len(all) != 0 || base != "" || !sameTree(tree, impl.Tree{}) || len(impl.HistBlame(list, key)) != 0 {
			t.Errorf("%s: %v, %v, %v", name, all, base, tree)
		}
	}
}

func retexted(list []impl.Object, key, text string) []impl.Object {
	for at := range list {
		if list[at].Key == key {
			list[at].Text = text
		}
	}
	return list
}

// P39: the beginning of two histories is in both, and of the others that are in both none came of more.
func TestBeginnings(t *testing.T) {
	c := newChance()
	found, none := 0, 0
	for _, p := range somePasts() {
		for at := range 16 {
			list := p.objs()
			if at%4 == 3 {
				list = c.spoiledPast(p)
			}
			if checkBase(t, list, c.word(c.asked(p)...), c.word(c.asked(p)...)) {
				found++
			} else {
				none++
			}
		}
	}
	if found < 500 || none < 500 {
		t.Errorf("%d are found, %d are not", found, none)
	}
}

func checkBase(t *testing.T, list []impl.Object, a, b string) bool {
	t.Helper()
	want, there := baseOf(list, a, b)
	got, ok := impl.HistBase(list, a, b)
	back, same := impl.HistBase(list, b, a)
	if got != want || ok != there || back != got || same != ok {
		t.Fatalf("the beginning of %s and %s is %s, %v, and of the other two ways %s, %v, not %s, %v", a, b, got, ok, back, same, want, there)
	}
	return ok
}

// Both came of two that came of as many: the least is their beginning, whichever came first.
func TestBeginningsOfWhichSeveralAre(t *testing.T) {
	turned := map[bool]int{}
	for at := range 20 {
		note := strconv.Itoa(at)
		var p past
		first := p.commit("a#1", "first"+note)
		left, right := p.commit("a#1", "left"+note, first), p.commit("a#1", "right"+note, first)
		one, other := p.commit("a#1", "one"+note, left, right), p.commit("a#1", "other"+note, right, left)
		if got, ok := impl.HistBase(p.objs(), one, other); !ok || got != min(left, right) {
			t.Errorf("the beginning of two is %s, %v, not %s", got, ok, min(left, right))
		}
		turned[left < right]++
		checkBase(t, p.objs(), one, other)
		longer := p.commit("a#1", "more"+note, max(left, right))
		one, other = p.commit("a#1", "p"+note, min(left, right), longer), p.commit("a#1", "q"+note, longer, min(left, right))
		if got, ok := impl.HistBase(p.objs(), one, other); !ok || got != longer {
			t.Errorf("of two, one of which came of more, it is %s, %v, not %s", got, ok, longer)
		}
	}
	if turned[true] < 3 || turned[false] < 3 {
		t.Errorf("the first is the least: %v", turned)
	}
}

func TestKnownBeginnings(t *testing.T) {
	var p past
	root := p.commit("a#1", "root")
	left, right := p.commit("a#1", "left", root), p.commit("a#1", "right", root)
	deep := p.commit("a#1", "deep", right)
	both := p.commit("a#1", "both", left, deep)
	apart := p.commit("a#1", "apart")
	joint := p.commit("a#1", "joint", apart, root)
	list := p.objs()
	for _, c := range []struct {
		a, b, want string
		ok         bool
	}{
		{root, root, root, true}, {both, both, both, true}, {left, right, root, true}, {left, deep, root, true}, {both, left, left, true}, {both, right, right, true}, {both, deep, deep, true},
		{both, root, root, true}, {apart, root, "", false}, {apart, both, "", false}, {apart, apart, apart, true}, {joint, both, root, true}, {joint, apart, apart, true}, {joint, left, root, true},
		{both, "", "", false}, {"", "", "", false}, {both, "none", "", false}, {both, sumOf("none"), "", false}, {sumOf("a#1"), sumOf("a#1"), "", false}, {strings.ToUpper(root), root, "", false},
	} {
		if got, ok := impl.HistBase(list, c.a, c.b); got != c.want || ok != c.ok {
			t.Errorf("the beginning of %s and %s is %q, %v, not %q", c.a, c.b, got, ok, c.want)
		}
		checkBase(t, list, c.a, c.b)
	}
}

// P41: a commit's tree is what stands under the tree's sum.
func TestTreesOfCommits(t *testing.T) {
	c := newChance()
	found, none := 0, 0
	for _, p := range somePasts() {
		for at := range 2 {
			list := p.objs()
			if at == 1 {
				list = c.spoiledPast(p)
			}
			for _, key := range c.asked(p) {
				want, there := treeAt(list, key)
				got, ok := impl.HistTree(list, key)
				if ok != there || !sameTree(got, want) {
					t.Fatalf("the tree of %s is %v, %v", key, got, ok)
				}
				if !ok {
					none++
					continue
				}
				found++
				commit, _ := commitAt(list, key)
				if impl.HashSum(impl.TreeWrite(got)) != commit.Tree {
					t.Fatalf("the tree of %s is %v, and %s stands under %s", key, got, impl.TreeWrite(got), commit.Tree)
				}
			}
		}
	}
	if found < 1000 || none < 1000 {
		t.Errorf("%d are there, %d are not", found, none)
	}
}

func TestTreesThatAreNotThere(t *testing.T) {
	var p past
	commit := func(tree string) string {
		return p.put(textOfCommit(impl.Commit{Tree: tree, Note: "n"}))
	}
	tree, none := p.put(`a#1[b#2"x"]`), p.put("a#1[b#1]")
	good, missing, no := commit(tree), commit(sumOf("b#7")), commit(none)
	own := commit(good) // a commit is no tree
	long := p.put(textOfCommit(impl.Commit{Tree: tree, Note: "thirteen byte"}))
	for _, c := range []struct {
		key string
		ok  bool
	}{{good, true}, {missing, false}, {no, false}, {own, false}, {long, false}, {tree, false}, {none, false}, {"", false}, {"none", false}} {
		got, ok := impl.HistTree(p.objs(), c.key)
		if ok != c.ok || ok && textOfTree(got) != `a#1[b#2"x"]` || !ok && !sameTree(got, impl.Tree{}) {
			t.Errorf("the tree of %s is %v, %v", c.key, got, ok)
		}
		if blames := impl.HistBlame(p.objs(), c.key); (len(blames) == 2) != c.ok || !c.ok && len(blames) != 0 {
			t.Errorf("the makers of %s are %v", c.key, blames)
		}
	}
}

// P40: who made a thing as it is made it so.
func TestMakers(t *testing.T) {
	c := newChance()
	seen := map[string]int{}
	for _, p := range somePasts() {
		for at := range 8 {
			list := p.objs()
			if at%4 == 3 {
				list = c.spoiledPast(p)
			}
			checkMakers(t, list, c.word(c.asked(p)...), seen)
		}
	}
	for what, least := range map[string]int{"none": 80, "own": 300, "the first's": 300, "the second's": 60, "far": 300} {
		if seen[what] < least {
			t.Errorf("%s: only %d of %v", what, seen[what], seen)
		}
	}
}

func checkMakers(t *testing.T, list []impl.Object, key string, seen map[string]int) {
	t.Helper()
	want := blameOf(list, key)
	got := impl.HistBlame(list, key)
	if !slices.Equal(got, want) {
		t.Fatalf("the makers of %s are %v, not %v", key, got, want)
	}
	if len(got) == 0 {
		seen["none"]++
		return
	}
	tree, _ := treeAt(list, key)
	history, _ := historyOf(list, key)
	commit, _ := commitAt(list, key)
	for at, p := range placesOf(tree) {
		if got[at].Id != p.thing.Id {
			t.Fatalf("the makers of %s are %v, and the things %v", textOfTree(tree), got, idsOf(tree))
		}
		checkMaker(t, list, history, got[at].Key, p.thing)
		switch over := slices.IndexFunc(commit.Over, func(over string) bool { return hasSo(list, over, p.thing) }); over {
		case -1:
			seen["own"]++
		case 0:
			seen["the first's"]++
		default:
			seen["the second's"]++
		}
		if got[at].Key != key && !slices.Contains(commit.Over, got[at].Key) {
			seen["far"]++
		}
	}
}

func checkMaker(t *testing.T, list []impl.Object, history []string, maker string, thing impl.Tree) {
	t.Helper()
	if !slices.Contains(history, maker) || !hasSo(list, maker, thing) {
		t.Fatalf("the maker of %d is %s, which is not in the history, or has it otherwise", thing.Id, maker)
	}
	commit, _ := commitAt(list, maker)
	for _, over := range commit.Over {
		if hasSo(list, over, thing) {
			t.Fatalf("the maker of %d is %s, and %s had it", thing.Id, maker, over)
		}
	}
}

func TestKnownMakers(t *testing.T) {
	var p past
	root := p.commit(`a#1[b#2"x",c#3]`, "root")
	left := p.commit(`a#1[b#2"y",c#3]`, "left", root)
	right := p.commit(`a#1[b#2"x",d#3,e#4]`, "right", root)
	alike := p.commit(`a#1[b#2"y",c#3]`, "alike", root)
	for _, c := range []struct {
		tree string
		over []string
		want []string // of each thing; "" for the commit itself
	}{
		{`a#1[b#2"y",d#3,e#4]`, []string{left, right}, []string{root, left, right, right}},    // what came by a merge
		{`a#1[b#2"y",d#3,e#4]`, []string{right, left}, []string{root, left, right, right}},    // by the other one
		{`a#1[b#2"x",c#3]`, []string{left, right}, []string{root, root, root}},                // what the second, or the first alone had
		{`a#1[b#2"y",c#3]`, []string{left, alike}, []string{root, left, root}},                // both made it so: the first
		{`a#1[b#2"y",c#3]`, []string{alike, left}, []string{root, alike, root}},               // and so the other one
		{`a#1[b#2"z",c#3"t",e#4]`, []string{left, right}, []string{root, "", "", right}},      // what neither had so
		{`a#1[c#2"x",b#3,e#5]`, []string{left, right}, []string{root, "", "", ""}},            // another kind, another number
		{`b#1[b#2"x"]`, []string{left}, []string{"", ""}},                                     // what left had made otherwise
		{`a#1[c#3[b#2"y"],f#7]`, []string{left}, []string{root, root, left, ""}},              // where it is does not matter
		{`a#1[b#2"y"]`, []string{root, left}, []string{root, left}},                           // of one and what came of it
		{`a#1[b#2"x",c#3]`, nil, []string{"", "", ""}},                                        // over nothing
		{`a#1[b#2"y",d#3[e#4]]`, []string{alike, right}, []string{root, alike, right, right}}, // in order, whatever is in what
	} {
		q := past{texts: slices.Clone(p.texts)}
		key := q.commit(c.tree, "asked", c.over...)
		got := impl.HistBlame(q.objs(), key)
		ids := idsOf(read(t, c.tree))
		for at, maker := range c.want {
			if maker == "" {
				maker = key
			}
			if len(got) != len(c.want) || got[at] != (impl.Blame{Id: ids[at], Key: maker}) {
				t.Errorf("%s over %v: the makers are %v; of %d it is not %s", c.tree, c.over, got, ids[at], maker)
				break
			}
		}
	}
}

// What was made so, changed, and made so again was made by the latter; a commit without a tree has made nothing.
func TestMakersOfWhatCameAgain(t *testing.T) {
	var p past
	first := p.commit(`a#1"x"`, "first")
	other := p.commit(`a#1"y"`, "other", first)
	again := p.commit(`a#1"x"`, "again", other)
	last := p.commit(`a#1"x"`, "last", again)
	if got := impl.HistBlame(p.objs(), last); !slices.Equal(got, []impl.Blame{{Id: 1, Key: again}}) {
		t.Errorf("made so again: %v", got)
	}
	none := p.commit("no tree", "none", last)
	behind := p.commit(`a#1"x"`, "behind", none)
	if got := impl.HistBlame(p.objs(), behind); !slices.Equal(got, []impl.Blame{{Id: 1, Key: behind}}) {
		t.Errorf("over one without a tree: %v", got)
	}
	merged := p.commit(`a#1"x"`, "merged", none, again)
	if got := impl.HistBlame(p.objs(), merged); !slices.Equal(got, []impl.Blame{{Id: 1, Key: again}}) {
		t.Errorf("over one without a tree and one with: %v", got)
	}
	if got := impl.HistBlame(p.objs(), none); len(got) != 0 {
		t.Errorf("of one without a tree: %v", got)
	}
}

// Trees as large as may be, over as many commits as may be: the makers stand in the order of the things, in each run.
func TestMakersAtTheLimits(t *testing.T) {
	var p past
	tree, want := row(20), make([]string, 20)
	for at := range 24 {
		one := 1 + at%19
		tree.Kids[one-1].Text = strconv.Itoa(at)
		key := p.commit(textOfTree(tree), "n", p.keys[max(0, at-1):]...)
		want[one] = key
		want[0] = p.keys[0]
	}
	for one := range want {
		if want[one] == "" {
			want[one] = p.keys[0]
		}
	}
	for range 50 {
		got := impl.HistBlame(p.objs(), p.keys[23])
		for at, id := range idsOf(tree) {
			if len(got) != 20 || got[at] != (impl.Blame{Id: id, Key: want[at]}) {
				t.Fatalf("the makers are %v; the thing %d's is not %s", got, id, want[at])
			}
		}
	}
}
