package tests

import (
	"fmt"
	"reflect"
	"strings"
	"testing"

	"loop.example/codicil/impl"
)

// span is the memory of a list, spare room included.
type span struct{ from, to uintptr }

// lists calls do with each list that a value has, those of its parts first.
// Parts in spare room count too: what stands behind an end is memory like any other.
func lists(v reflect.Value, do func(reflect.Value)) {
	switch v.Kind() {
	case reflect.Interface:
		lists(v.Elem(), do)
	case reflect.Struct:
		for i := range v.NumField() {
			lists(v.Field(i), do)
		}
	case reflect.Slice:
		whole := v.Slice(0, v.Cap())
		for i := range whole.Len() {
			lists(whole.Index(i), do)
		}
		do(whole)
	}
}

func spansOf(value any) []span {
	var list []span
	lists(reflect.ValueOf(value), func(v reflect.Value) {
		if size := uintptr(v.Len()) * v.Type().Elem().Size(); size > 0 {
			list = append(list, span{v.Pointer(), v.Pointer() + size})
		}
	})
	return list
}

// shownWithRoom is all that a value's lists have, in spare room too.
func shownWithRoom(value any) string {
	var out strings.Builder
	lists(reflect.ValueOf(value), func(v reflect.Value) {
		fmt.Fprintf(&out, "%v;", v.Interface())
	})
	return out.String()
}

// spoilAll overwrites all that a value's lists have.
func spoilAll(value any) {
	lists(reflect.ValueOf(value), func(v reflect.Value) {
		for i := range v.Len() {
			v.Index(i).SetZero()
		}
	})
}

// checkMemory says whether a call writes nothing into its arguments or behind their ends,
// answers in memory that is new in all its parts, and keeps nothing for the next call.
func checkMemory(t *testing.T, name string, args any, call func() []any) {
	t.Helper()
	before := shownWithRoom(args)
	first, second := call(), call()
	answer := fmt.Sprint(first)
	if shownWithRoom(args) != before {
		t.Errorf("%s writes into an argument or behind its end", name)
	}
	checkApart(t, name, append(append(spansOf(args), spansOf(first)...), spansOf(second)...))
	spoilAll(first)
	if shownWithRoom(args) != before {
		t.Errorf("%s: what is written into the answer is in an argument", name)
	}
	if got := fmt.Sprint(call()); got != answer {
		t.Errorf("%s answers %s, and later %s", name, answer, got)
	}
}

func checkApart(t *testing.T, name string, spans []span) {
	t.Helper()
	for i, a := range spans {
		for _, b := range spans[:i] {
			if a.from < b.to && b.from < a.to {
				t.Errorf("%s: two lists share memory", name)
			}
		}
	}
}

// roomyTree is a tree each list of which has spare room, with something in it.
func roomyTree(t impl.Tree) impl.Tree {
	kids := []impl.Tree{}
	for _, kid := range t.Kids {
		kids = append(kids, roomyTree(kid))
	}
	behind := []impl.Tree{{Id: 77, Kind: "spare", Kids: []impl.Tree{{Id: 78}}}, {Id: 79, Kind: "more"}}
	t.Kids = append(kids, behind...)[:len(kids)]
	return t
}

func roomySchema(s impl.Schema) impl.Schema {
	rules := []impl.Rule{}
	for _, rule := range s.Rules {
		items := append([]impl.Item{}, rule.Kids...)
		rule.Kids = append(items, impl.Item{Kind: "spare"}, impl.Item{Kind: "more", Many: true})[:len(items)]
		rules = append(rules, rule)
	}
	s.Rules = append(rules, impl.Rule{Kind: "spare", Kids: []impl.Item{{Kind: "x"}}})[:len(rules)]
	return s
}

func TestMemoryOfTrees(t *testing.T) {
	c := newChance()
	trees := append(edgeTrees(), badTrees()...)
	for range 30 {
		trees = append(trees, c.tree())
	}
	for _, plain := range trees {
		tree, other := roomyTree(plain), roomyTree(plain)
		checkMemory(t, "TreeOk", tree, func() []any { return []any{impl.TreeOk(tree)} })
		checkMemory(t, "TreeWrite", tree, func() []any { return []any{impl.TreeWrite(tree)} })
		checkMemory(t, "TreeIds", tree, func() []any { return []any{impl.TreeIds(tree)} })
		checkMemory(t, "TreeSame", []impl.Tree{tree, other}, func() []any { return []any{impl.TreeSame(tree, other)} })
		checkMemory(t, "TreeRead", nil, func() []any { return answers(impl.TreeRead(textOfTree(plain))) })
		for _, id := range []int{tree.Id, idsOf(plain)[len(idsOf(plain))/2], idsOf(plain)[len(idsOf(plain))-1], 77, 0} {
			checkMemory(t, "TreeFind", tree, func() []any { return answers(impl.TreeFind(tree, id)) })
			checkMemory(t, "TreeOver", tree, func() []any { return []any{impl.TreeOver(tree, id)} })
		}
	}
}

func TestMemoryOfSchemas(t *testing.T) {
	c := newChance()
	schemas := append(edgeSchemas(), badSchemas()...)
	for range 40 {
		schemas = append(schemas, c.schema())
	}
	for _, plain := range schemas {
		s, tree := roomySchema(plain), roomyTree(c.tree())
		kinds := append([]string{"b", "c"}, "spare", "more")[:2]
		checkMemory(t, "SchemaOk", s, func() []any { return []any{impl.SchemaOk(s)} })
		checkMemory(t, "SchemaWrite", s, func() []any { return []any{impl.SchemaWrite(s)} })
		checkMemory(t, "SchemaRead", nil, func() []any { return answers(impl.SchemaRead(textOfSchema(plain))) })
		checkMemory(t, "SchemaKids", []any{s, kinds}, func() []any { return []any{impl.SchemaKids(s, plain.Root, kinds)} })
		checkMemory(t, "SchemaFits", []any{s, tree}, func() []any { return []any{impl.SchemaFits(s, tree)} })
	}
}

func answers[T any](value T, ok bool) []any {
	return []any{value, ok}
}

// What stands behind the end of a list is none of it.
func TestSpareRoomIsNotRead(t *testing.T) {
	for _, tree := range someTrees() {
		if got := impl.TreeWrite(roomyTree(tree)); got != textOfTree(tree) || !impl.TreeSame(roomyTree(tree), tree) {
			t.Fatalf("%s with spare room is %s", textOfTree(tree), got)
		}
	}
	for _, s := range someSchemas() {
		if got := impl.SchemaWrite(roomySchema(s)); got != textOfSchema(s) {
			t.Fatalf("%s with spare room is %s", textOfSchema(s), got)
		}
	}
}

// roomySteps is steps each list of which has spare room, with something in it.
func roomySteps(list []impl.Step) []impl.Step {
	steps := []impl.Step{}
	for _, s := range list {
		s.Node = roomyTree(s.Node)
		steps = append(steps, s)
	}
	return append(steps, put(1, 0, inside(leaf(88))), cut(2))[:len(steps)]
}

// stepsAndMore is steps that can be done one behind the other, others, and some that never can.
func stepsAndMore(c chance, tree impl.Tree) []impl.Step {
	list := append(c.doables(tree, 4), c.step(tree), c.step(tree))
	return roomySteps(append(list, impl.Step{Kind: 9}, cut(1000), put(tree.Id, 0, leaf(1000)), worded(tree.Id, `"`)))
}

func TestMemoryOfSteps(t *testing.T) {
	c := newChance()
	trees := append(edgeTrees(), badTrees()[:8]...)
	for range 40 {
		trees = append(trees, c.tree())
	}
	for _, plain := range trees {
		tree, list := roomyTree(plain), stepsAndMore(c, inside(leaf(2)))
		if rightTree(plain) {
			list = stepsAndMore(c, plain)
		}
		for _, s := range list {
			args := []any{tree, list} // s is one of the list
			checkMemory(t, "StepDo", args, func() []any { return answers(impl.StepDo(tree, s)) })
			checkMemory(t, "StepBack", args, func() []any { return answers(impl.StepBack(tree, s)) })
			checkMemory(t, "StepsMeet", args, func() []any { return []any{impl.StepsMeet(tree, list[0], s)} })
			checkMemory(t, "StepOver", args, func() []any { return answers(impl.StepOver(tree, list[0], s)) })
		}
		for size := range len(list) + 1 {
			some := list[:size]
			checkMemory(t, "StepsDo", []any{tree, some}, func() []any { return answers(impl.StepsDo(tree, some)) })
			checkMemory(t, "StepsBack", []any{tree, some}, func() []any { return answers(impl.StepsBack(tree, some)) })
			checkMemory(t, "StepsText", some, func() []any { return []any{impl.StepsText(some)} })
		}
	}
}

func TestMemoryOfDifferences(t *testing.T) {
	for _, pair := range append(somePairs(150), [2]impl.Tree{row(3), row(21)}, [2]impl.Tree{chain(1), {Id: 2, Kind: "a"}}) {
		a, b := roomyTree(pair[0]), roomyTree(pair[1])
		checkMemory(t, "DiffSteps", []any{a, b}, func() []any { return answers(impl.DiffSteps(a, b)) })
		checkMemory(t, "DiffCost", []any{a, b}, func() []any { return []any{impl.DiffCost(a, b)} })
	}
}

func TestMemoryOfLooking(t *testing.T) {
	c := newChance()
	trees := append(edgeTrees(), badTrees()...)
	for range 30 {
		trees = append(trees, c.tree())
	}
	for _, plain := range trees {
		tree, ids := roomyTree(plain), idsOf(plain)
		id := ids[len(ids)/2]
		way := wayOf(plain, id)
		checkMemory(t, "TreeTexts", tree, func() []any { return []any{impl.TreeTexts(tree)} })
		checkMemory(t, "TreeFresh", tree, func() []any { return []any{impl.TreeFresh(tree)} })
		checkMemory(t, "TreeCount and others", tree, func() []any {
			return []any{impl.TreeCount(tree, "b"), impl.TreeLevel(tree, id), impl.PathOf(tree, id), impl.PathFind(tree, way)}
		})
	}
}

// What stands behind the end of a list is none of it, in steps too.
func TestSpareRoomIsNotReadInSteps(t *testing.T) {
	c := newChance()
	for _, pair := range somePairs(200) {
		a, b := pair[0], pair[1]
		list := c.doables(a, 3)
		list = append(list, c.step(a))
		plain := fmt.Sprint(seenOf(a, b, list))
		if roomy := fmt.Sprint(seenOf(roomyTree(a), roomyTree(b), roomySteps(list))); roomy != plain {
			t.Fatalf("%s, %s and %v: %s, and with spare room %s", textOfTree(a), textOfTree(b), list, plain, roomy)
		}
	}
}

// seenOf is what all functions about steps answer.
func seenOf(a, b impl.Tree, list []impl.Step) []any {
	s, u := list[0], list[len(list)-1]
	var seen []any
	seen = append(seen, answers(impl.StepDo(a, s))...)
	seen = append(seen, answers(impl.StepBack(a, s))...)
	seen = append(seen, answers(impl.StepsDo(a, list))...)
	seen = append(seen, answers(impl.StepsBack(a, list))...)
	seen = append(seen, answers(impl.StepOver(a, s, u))...)
	seen = append(seen, answers(impl.DiffSteps(a, b))...)
	seen = append(seen, impl.StepsMeet(a, s, u), impl.StepsText(list), impl.DiffCost(a, b), impl.TreeTexts(b), impl.TreeFresh(b))
	return append(seen, impl.TreeCount(b, "b"), impl.PathOf(b, b.Id), impl.PathFind(b, b.Kind), impl.TreeLevel(b, b.Id))
}

func TestMemoryOfMerges(t *testing.T) {
	triples := append(someTriples()[:400:400], [3]impl.Tree{row(20), row(11), row(20)}, [3]impl.Tree{row(3), row(21), row(3)}, [3]impl.Tree{row(1), row(20), inside(chain(7))})
	for _, trees := range triples {
		for _, sides := range [][3]impl.Tree{trees, {trees[0], trees[1], trees[0]}, {trees[1], trees[0], trees[1]}} {
			old, a, b := roomyTree(sides[0]), roomyTree(sides[1]), roomyTree(sides[2])
			args := []any{old, a, b}
			checkMemory(t, "MergeFits", args, func() []any { return []any{impl.MergeFits(old, a, b)} })
			checkMemory(t, "MergeTrees", args, func() []any { return mergeAnswers(old, a, b) })
		}
	}
	for _, same := range []impl.Tree{roomyTree(row(20)), roomyTree(chain(6))} { // one and the same memory in all three
		checkMemory(t, "MergeTrees", same, func() []any { return mergeAnswers(same, same, same) })
	}
}

func mergeAnswers(old, a, b impl.Tree) []any {
	merged, told, ok := impl.MergeTrees(old, a, b)
	return []any{merged, told, ok}
}

// What stands behind the end of a list is none of it, in merges too.
func TestSpareRoomIsNotReadInMerges(t *testing.T) {
	for _, trees := range someTriples()[:1000] {
		old, a, b := trees[0], trees[1], trees[2]
		plain := fmt.Sprint(mergeAnswers(old, a, b), impl.MergeFits(old, a, b))
		old, a, b = roomyTree(old), roomyTree(a), roomyTree(b)
		if roomy := fmt.Sprint(mergeAnswers(old, a, b), impl.MergeFits(old, a, b)); roomy != plain {
			t.Fatalf("%s: %s, and with spare room %s", textOfTrees(trees[:]...), plain, roomy)
		}
	}
}

// roomy is a list with spare room, and something in it.
func roomy[T any](list []T, behind ...T) []T {
	return append(append([]T{}, list...), behind...)[:len(list)]
}

func roomyObjs(list []impl.Object) []impl.Object {
	return roomy(list, impl.Object{Key: sumOf("spare"), Text: "spare"}, impl.Object{Key: "z", Text: "more"})
}

func roomyCommit(c impl.Commit) impl.Commit {
	c.Over = roomy(c.Over, sumOf("spare"), sumOf("more"))
	return c
}

func TestMemoryOfObjects(t *testing.T) {
	for _, plain := range append(someObjs()[:30], allBadObjs()...) {
		list := roomyObjs(plain)
		keys := roomy([]string{sumOf("x"), "none", sumOf("a"), sumOf("x")}, sumOf("y"), sumOf("spare"))
		for _, text := range []string{"a", "x", "", "new", "spare"} {
			checkMemory(t, "ObjPut", list, func() []any { return putAnswers(list, text) })
			checkMemory(t, "ObjGet", list, func() []any { return answers(impl.ObjGet(list, sumOf(text))) })
		}
		checkMemory(t, "ObjOk", list, func() []any { return []any{impl.ObjOk(list)} })
		checkMemory(t, "ObjKeep", []any{list, keys}, func() []any { return []any{impl.ObjKeep(list, keys)} })
	}
	all := roomyObjs(underSums("a", "b", "c"))
	keys := roomy([]string{all[0].Key, all[1].Key, all[2].Key}, "z")
	checkMemory(t, "ObjKeep of all", []any{all, keys}, func() []any { return []any{impl.ObjKeep(all, keys)} })
	checkMemory(t, "ObjPut of what is there", all, func() []any { return putAnswers(all, all[2].Text) })
}

func putAnswers(list []impl.Object, text string) []any {
	got, key := impl.ObjPut(list, text)
	return []any{got, key}
}

func TestMemoryOfJournals(t *testing.T) {
	c := newChance()
	for range 60 {
		text := c.jour(c.Intn(40))
		checkMemory(t, "JourRead", nil, func() []any {
			refs, size := impl.JourRead(text)
			return []any{refs, size}
		})
		checkMemory(t, "JourAdd and others", nil, func() []any {
			added, ok := impl.JourAdd(text, "new", "", sumOf("n"))
			return []any{added, ok, impl.JourOk(text), impl.JourOf(text, "a"), impl.JourPack(text)}
		})
	}
}

func TestMemoryOfHistory(t *testing.T) {
	for _, plain := range append(someCommits()[:20], badCommits()...) {
		commit := roomyCommit(plain)
		checkMemory(t, "CommitWrite", commit, func() []any { return []any{impl.CommitWrite(commit)} })
		checkMemory(t, "CommitRead", nil, func() []any { return answers(impl.CommitRead(textOfCommit(plain))) })
	}
	c := newChance()
	for _, p := range somePasts()[:40] {
		for _, plain := range [][]impl.Object{p.objs(), c.spoiledPast(p)} {
			list, asked := roomyObjs(plain), c.asked(p)
			one, other := c.word(asked...), c.word(asked...)
			checkMemory(t, "HistAll", list, func() []any { return answers(impl.HistAll(list, one)) })
			checkMemory(t, "HistBase", list, func() []any { return answers(impl.HistBase(list, one, other)) })
			checkMemory(t, "HistTree", list, func() []any { return answers(impl.HistTree(list, one)) })
			checkMemory(t, "HistBlame", list, func() []any { return []any{impl.HistBlame(list, one)} })
		}
	}
}

func TestMemoryOfPacks(t *testing.T) {
	for _, plain := range append(somePacked()[:60], allBadObjs()...) {
		list := roomyObjs(plain)
		text, _ := packOf(plain)
		checkMemory(t, "PackWrite", list, func() []any { return []any{impl.PackWrite(list)} })
		checkMemory(t, "PackRead", nil, func() []any { return answers(impl.PackRead(text)) })
		checkMemory(t, "PackChain", list, func() []any { return []any{impl.PackChain(list, len(list)-1), impl.PackChain(list, len(list))} })
	}
}

// What stands behind the end of a list is none of it, in objects and commits too.
func TestSpareRoomIsNotReadInObjects(t *testing.T) {
	for _, commit := range append(someCommits(), badCommits()...) {
		if got := impl.CommitWrite(roomyCommit(commit)); got != impl.CommitWrite(commit) {
			t.Fatalf("%v with spare room is %q", commit, got)
		}
	}
	c := newChance()
	for _, p := range somePasts()[:60] {
		list, asked := c.spoiledPast(p), c.asked(p)
		for range 4 {
			one, other := c.word(asked...), c.word(asked...)
			plain := fmt.Sprint(seenOfObjs(list, one, other))
			if got := fmt.Sprint(seenOfObjs(roomyObjs(list), one, other)); got != plain {
				t.Fatalf("%v: %s, and with spare room %s", list, plain, got)
			}
		}
	}
}

// seenOfObjs is what all functions about objects answer.
func seenOfObjs(list []impl.Object, one, other string) []any {
	keys := roomy([]string{one, other}, sumOf("spare"), "z")
	seen := []any{impl.ObjOk(list), impl.ObjKeep(list, keys), impl.HistBlame(list, one), impl.PackWrite(list), impl.PackChain(list, len(list))}
	seen = append(seen, putAnswers(list, "spare")...)
	seen = append(seen, answers(impl.ObjGet(list, sumOf("spare")))...)
	seen = append(seen, answers(impl.HistAll(list, one))...)
	seen = append(seen, answers(impl.HistBase(list, one, other))...)
	return append(seen, answers(impl.HistTree(list, one))...)
}

// roomyLib is a library each list of which has spare room, with something in it.
func roomyLib(l impl.Lib) impl.Lib {
	return impl.Lib{Schema: roomySchema(l.Schema), Objs: roomyObjs(l.Objs), Jour: l.Jour}
}

// somePlainLibs are libraries that are ok, and as many that mostly are not.
func somePlainLibs(c chance) []impl.Lib {
	list := someLibs(c)[:30]
	for _, l := range list {
		list = append(list, c.spoiledLib(l))
	}
	return list
}

func TestMemoryOfLibraries(t *testing.T) {
	c := newChance()
	for at, plain := range somePlainLibs(c) {
		l := roomyLib(plain)
		cmds := []impl.Cmd{c.cmd(someLibs(c)[at%5]), {Kind: 1, Name: "new", Tree: "a#1"}, {Kind: 1, Name: "new", Tree: "b#1"}, {Kind: 2, Name: "new", From: "main"}, {Kind: 3, Name: "main", From: "work"}, {Kind: 4, Name: "main"}, {Kind: 5}, {Kind: 6}, {}}
		for _, cmd := range cmds {
			checkMemory(t, "LibDo", l, func() []any { return libAnswers(impl.LibDo(l, cmd)) })
			for objs := range 3 {
				checkMemory(t, "LibCrash", l, func() []any { return []any{impl.LibCrash(l, cmd, objs, 50)} })
			}
		}
		checkMemory(t, "LibOk, LibSee and LibSave", l, func() []any { return []any{impl.LibOk(l), impl.LibSee(l), impl.LibSave(l)} })
		checkMemory(t, "LibOpen", l, func() []any { return answers(impl.LibOpen(l)) })
		checkMemory(t, "LibFaults", l, func() []any { return []any{impl.LibFaults(l)} })
		checkMemory(t, "LibLoad", nil, func() []any { return answers(impl.LibLoad(saved(plain))) })
		key := standingFor(l.Jour, "work")
		checkMemory(t, "LibPick", l, func() []any { return libAnswers(impl.LibPick(l, "main", key, "n")) })
		checkMemory(t, "LibUndo", l, func() []any { return libAnswers(impl.LibUndo(l, "work", key, "n")) })
	}
	for _, plain := range append(someSchemas()[:40], badSchemas()...) {
		s := roomySchema(plain)
		checkMemory(t, "LibNew", s, func() []any { return []any{impl.LibNew(s)} })
	}
	lines := roomy([]string{"commit main n a#1", "see", "what", "pack"}, "see", "sweep")
	checkMemory(t, "LibSession", lines, func() []any { return []any{impl.LibSession(plainSchema, lines)} })
}

func libAnswers(l impl.Lib, code int) []any {
	return []any{l, code}
}

func TestMemoryOfHistoriesAndPicks(t *testing.T) {
	c := newChance()
	for _, p := range somePasts()[:40] {
		list, asked := roomyObjs(p.objs()), c.asked(p)
		one, other := c.word(asked...), c.word(asked...)
		checkMemory(t, "HistSince", list, func() []any { return answers(impl.HistSince(list, one, other)) })
		checkMemory(t, "HistPart", list, func() []any { return answers(impl.HistPart(list, one)) })
	}
	for _, trees := range someTriples()[:400] {
		old, a, b, picks := roomyTree(trees[0]), roomyTree(trees[1]), roomyTree(trees[2]), roomy(c.picks(c.Intn(4)), false, true, false)
		checkMemory(t, "MergePick", []any{old, a, b, picks}, func() []any { return answers(impl.MergePick(old, a, b, picks)) })
	}
}

// What stands behind the end of a list is none of it, in libraries too.
func TestSpareRoomIsNotReadInLibraries(t *testing.T) {
	c := newChance()
	for _, l := range somePlainLibs(c) {
		cmd, key := c.cmd(someLibs(c)[0]), standingFor(l.Jour, "work")
		plain := fmt.Sprint(seenOfLib(l, cmd, key))
		if got := fmt.Sprint(seenOfLib(roomyLib(l), cmd, key)); got != plain {
			t.Fatalf("%v: %s, and with spare room %s", l, plain, got)
		}
	}
	lines := []string{"commit main n a#1", "see"}
	if got := impl.LibSession(plainSchema, roomy(lines, "see", "pack")); got != impl.LibSession(plainSchema, lines) {
		t.Errorf("lines behind the end are done: %q", got)
	}
	for _, trees := range someTriples()[:1000] {
		picks := c.picks(c.Intn(3))
		plain := fmt.Sprint(answers(impl.MergePick(trees[0], trees[1], trees[2], picks)))
		if got := fmt.Sprint(answers(impl.MergePick(roomyTree(trees[0]), roomyTree(trees[1]), roomyTree(trees[2]), roomy(picks, false, false, false)))); got != plain {
			t.Fatalf("%sby %v: %s, and with spare room %s", textOfTrees(trees[:]...), picks, plain, got)
		}
	}
}

// seenOfLib is what all functions about libraries answer.
func seenOfLib(l impl.Lib, cmd impl.Cmd, key string) []any {
	seen := []any{impl.LibNew(l.Schema), impl.LibOk(l), impl.LibSee(l), impl.LibSave(l), impl.LibFaults(l), impl.LibCrash(l, cmd, 1, 20)}
	seen = append(seen, libAnswers(impl.LibDo(l, cmd))...)
	seen = append(seen, libAnswers(impl.LibDo(l, impl.Cmd{Kind: 5}))...)
	seen = append(seen, libAnswers(impl.LibPick(l, "main", key, "n"))...)
	seen = append(seen, libAnswers(impl.LibUndo(l, "work", key, "n"))...)
	seen = append(seen, answers(impl.HistSince(l.Objs, key, key))...)
	seen = append(seen, answers(impl.HistPart(l.Objs, key))...)
	return append(seen, answers(impl.LibOpen(l))...)
}
