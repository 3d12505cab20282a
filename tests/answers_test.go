package tests

import (
	"slices"
	"strconv"
	"strings"
	"testing"

	"loop.example/codicil/impl"
)

func TestLimits(t *testing.T) {
	for _, c := range []struct {
		name       string
		value, doc int
	}{
		{"TreeMaxNodes", impl.TreeMaxNodes, 20}, {"TreeMaxDepth", impl.TreeMaxDepth, 6}, {"TreeMaxId", impl.TreeMaxId, 999},
		{"TreeMaxText", impl.TreeMaxText, 12}, {"NameMax", impl.NameMax, 8}, {"SchemaMaxRules", impl.SchemaMaxRules, 6},
		{"SchemaMaxItems", impl.SchemaMaxItems, 4}, {"JourMaxText", impl.JourMaxText, 4000}, {"HistMaxNote", impl.HistMaxNote, 12},
		{"HistMaxLength", impl.HistMaxLength, 24}, {"DeltaLeast", impl.DeltaLeast, 6}, {"DeltaMaxText", impl.DeltaMaxText, 6000},
		{"PackMaxChain", impl.PackMaxChain, 3}, {"PackMaxObjs", impl.PackMaxObjs, 60},
	} {
		if c.value != c.doc {
			t.Errorf("%s is %d, and %d in the document", c.name, c.value, c.doc)
		}
	}
}

// vastTrees are far behind the limits; the last has itself in it, and so no end.
func vastTrees() []impl.Tree {
	deep := impl.Tree{Id: 1, Kind: "a"}
	for range 100_000 {
		deep = impl.Tree{Id: 1, Kind: "a", Kids: []impl.Tree{deep}}
	}
	wide := impl.Tree{Id: 1, Kind: "a", Kids: make([]impl.Tree, 1_000_000)}
	own := []impl.Tree{{Id: 1, Kind: "a"}, {Id: 2, Kind: "a"}}
	own[0].Kids, own[1].Kids = own, own
	return []impl.Tree{deep, wide, own[0]}
}

func TestVastTreesAreAnswered(t *testing.T) {
	s := ruled(impl.Item{Kind: "a", Many: true})
	for i, tree := range vastTrees() {
		if impl.TreeOk(tree) || impl.TreeWrite(tree) != "" || len(impl.TreeIds(tree)) != 0 || impl.TreeOver(tree, 1) != -1 {
			t.Errorf("tree %d is ok", i)
		}
		if _, found := impl.TreeFind(tree, 1); found || impl.TreeSame(tree, tree) || impl.SchemaFits(s, tree) {
			t.Errorf("tree %d is found, the same, or fits", i)
		}
	}
}

func TestVastTextsAreAnswered(t *testing.T) {
	many := 1_000_000
	for i, text := range []string{
		strings.Repeat("a#1[", many), "a#1[" + strings.Repeat("a#2,", many), strings.Repeat("a", many), "a#" + strings.Repeat("9", many),
		`a#1"` + strings.Repeat("t", many), "a#1" + strings.Repeat("]", many), "root a\n" + strings.Repeat("a:\n", many),
		"root a\na:" + strings.Repeat(" a", many) + "\n", "root " + strings.Repeat("a", many), strings.Repeat("\n", many),
	} {
		tree, isTree := impl.TreeRead(text)
		s, isSchema := impl.SchemaRead(text)
		if isTree || isSchema || !sameTree(tree, impl.Tree{}) || !sameSchema(s, impl.Schema{}) {
			t.Errorf("text %d is read", i)
		}
	}
}

func TestVastSchemasAreAnswered(t *testing.T) {
	rules := impl.Schema{Root: "a", Rules: make([]impl.Rule, 1_000_000)}
	items := ruled(make([]impl.Item, 1_000_000)...)
	if impl.SchemaOk(rules) || impl.SchemaOk(items) || impl.SchemaWrite(rules) != "" || impl.SchemaFits(items, chain(1)) {
		t.Error("a schema of a million rules or items is ok")
	}
	many := ruled(itemsOf("b")[1], itemsOf("b")[1], itemsOf("b")[1], itemsOf("b")[1])
	if impl.SchemaKids(many, "a", slices.Repeat([]string{"b"}, 1_000_000)) {
		t.Error("a million may come")
	}
}

func TestVastTreesAreAnsweredInSteps(t *testing.T) {
	good := row(3)
	for i, vast := range vastTrees() {
		for _, c := range []struct {
			tree impl.Tree
			step impl.Step
		}{
			{vast, cut(2)}, {vast, worded(1, "x")}, {vast, put(1, 0, leaf(7))}, {vast, put(1, 0, vast)}, {good, put(1, 0, vast)},
			{good, impl.Step{Kind: impl.StepCut, Id: 2, Node: vast}}, {good, impl.Step{Kind: impl.StepText, Id: 2, Node: vast}}, {good, impl.Step{Kind: 9, Node: vast}},
		} {
			_, done := impl.StepDo(c.tree, c.step)
			_, all := impl.StepsDo(c.tree, []impl.Step{c.step})
			_, undone := impl.StepBack(c.tree, c.step)
			_, back := impl.StepsBack(c.tree, []impl.Step{c.step})
			_, over := impl.StepOver(c.tree, c.step, cut(3))
			if done || all || undone || back || over || !impl.StepsMeet(c.tree, c.step, cut(3)) || !impl.StepsMeet(c.tree, cut(3), c.step) {
				t.Errorf("tree %d: a step of the kind %d is done", i, c.step.Kind)
			}
			if c.tree.Id == good.Id && len(c.tree.Kids) == len(good.Kids) && impl.StepsText([]impl.Step{cut(3), {Kind: c.step.Kind, Id: 1, Node: vast}}) != "" {
				t.Errorf("tree %d: a step of the kind %d is written", i, c.step.Kind)
			}
		}
	}
}

func TestVastTreesAreAnsweredInDifferences(t *testing.T) {
	good := row(3)
	for i, vast := range vastTrees() {
		for _, pair := range [][2]impl.Tree{{vast, vast}, {vast, good}, {good, vast}} {
			if list, ok := impl.DiffSteps(pair[0], pair[1]); ok || len(list) != 0 || impl.DiffCost(pair[0], pair[1]) != -1 {
				t.Errorf("tree %d differs by steps", i)
			}
		}
		if impl.TreeCount(vast, "a") != 0 || len(impl.TreeTexts(vast)) != 0 || impl.TreeLevel(vast, 1) != 0 || impl.PathOf(vast, 1) != "" || impl.PathFind(vast, "a") != 0 || !sameTree(impl.TreeFresh(vast), impl.Tree{}) {
			t.Errorf("tree %d is looked at", i)
		}
	}
}

func TestVastListsOfStepsAreAnswered(t *testing.T) {
	tree, many := row(20), 30_000
	var list []impl.Step
	for i := range many {
		list = append(list, worded(2+i%19, []string{"x", "y"}[i/19%2]))
	}
	done, ok := impl.StepsDo(tree, list)
	back, fine := impl.StepsBack(tree, list)
	if !ok || !fine || len(back) != many || !sameTree(done, steppedAll(tree, list[many-38:])) || strings.Count(impl.StepsText(list), "\n") != many {
		t.Errorf("%d steps: %v, %v, %d back", many, ok, fine, len(back))
	}
	list = append(list, cut(1))
	if got, ok := impl.StepsDo(tree, list); ok || !sameTree(got, tree) {
		t.Error("what cannot be done at last leaves something")
	}
	if back, ok := impl.StepsBack(tree, list); ok || len(back) != 0 {
		t.Error("what cannot be done at last is undone")
	}
}

func TestVastWaysAreAnswered(t *testing.T) {
	many := 1_000_000
	for i, way := range []string{strings.Repeat("a", many), "a" + strings.Repeat("/a.0", many), "a/a." + strings.Repeat("0", many), strings.Repeat("/", many)} {
		if got := impl.PathFind(chain(6), way); got != 0 {
			t.Errorf("way %d leads to %d", i, got)
		}
	}
}

func TestVastTreesAreAnsweredInMerges(t *testing.T) {
	for i, vast := range vastTrees() {
		good := impl.Tree{Id: vast.Id, Kind: "a"}
		for _, c := range [][3]impl.Tree{{vast, good, good}, {good, vast, good}, {good, good, vast}, {good, vast, vast}, {vast, good, vast}, {vast, vast, good}, {vast, vast, vast}} {
			if !refused(c[0], c[1], c[2]) {
				t.Errorf("tree %d fits", i)
			}
		}
	}
}

// vastObjs are far behind what a library has; of the last no two stand in order.
func vastObjs() [][]impl.Object {
	long := underSums(strings.Repeat("x", 3_000_000))
	var texts []string
	for at := range 30_000 {
		texts = append(texts, strconv.Itoa(at))
	}
	turned := underSums(texts...)
	slices.Reverse(turned)
	return [][]impl.Object{long, underSums(texts...), make([]impl.Object, 300_000), turned}
}

func TestVastObjectsAreAnswered(t *testing.T) {
	for i, list := range vastObjs() {
		right := i < 2
		got, key := impl.ObjPut(list, "new")
		if impl.ObjOk(list) != right || right != (key == sumOf("new")) || right != (len(got) == len(list)+1) || !right && len(got) != 0 {
			t.Errorf("objects %d are ok: %v, and with one more %d", i, impl.ObjOk(list), len(got))
		}
		text, there := impl.ObjGet(list, list[len(list)-1].Key)
		if there != (i != 2) || text != list[len(list)-1].Text {
			t.Errorf("objects %d: the last is got: %v", i, there)
		}
		var keys []string
		for _, object := range list {
			keys = append(keys, object.Key)
		}
		if kept := impl.ObjKeep(list, keys); !slices.Equal(kept, list) {
			t.Errorf("objects %d: %d are kept", i, len(kept))
		}
		if impl.PackWrite(list) != "" || impl.PackChain(list, 0) != -1 || len(impl.HistBlame(list, keys[0])) != 0 {
			t.Errorf("objects %d are packed, or have makers", i)
		}
		if _, ok := impl.HistAll(list, keys[0]); ok {
			t.Errorf("objects %d have a history", i)
		}
	}
}

func TestVastTextsAreAnsweredInHistory(t *testing.T) {
	many := 1_000_000
	x := sumOf("x")
	for i, text := range []string{
		strings.Repeat("\n", many), strings.Repeat("x", many), strings.Repeat(" ", many), strings.Repeat("0 main "+x+" ", 20_000), "0 " + strings.Repeat("a", many) + "\n", "0 main " + strings.Repeat("a", many) + " 00000000\n",
		strings.Repeat("9", many) + " main " + x + " 00000000\n", "commit\n" + strings.Repeat("over "+x+"\n", 20_000) + "tree " + x + "\nnote n\n", "commit\ntree " + x + "\nnote " + strings.Repeat("n", many) + "\n", "commit\nover " + strings.Repeat("0", many) + "\n",
	} {
		refs, size := impl.JourRead(text)
		added, ok := impl.JourAdd(text, "main", "", x)
		if len(refs) != 0 || size != 0 || ok || added != text || impl.JourOk(text) || impl.JourOf(text, "main") != "" || impl.JourPack(text) != "" {
			t.Errorf("text %d is a journal: %v, %d", i, refs, size)
		}
		if _, ok := impl.CommitRead(text); ok {
			t.Errorf("text %d is a commit", i)
		}
		if list, ok := impl.PackRead(text); ok || len(list) != 0 {
			t.Errorf("text %d is a pack", i)
		}
	}
	c := newChance()
	long := c.jour(5_000)
	checkJour(t, long)
	if got, ok := impl.JourAdd(long, strings.Repeat("a", many), "", strings.Repeat("0", many)); ok || got != long {
		t.Error("a vast journal is added to")
	}
}

func TestVastPacksAreAnswered(t *testing.T) {
	many := 1_000_000
	for i, body := range []string{
		strings.Repeat("w0:", many), strings.Repeat("w1:x", many), "w0:" + strings.Repeat("d0:", many), "w" + strings.Repeat("1", many) + ":", "w6001:" + strings.Repeat("x", many), "w0:d999999:" + strings.Repeat("+1:x", 249_999) + "+0:",
	} {
		if list, ok := impl.PackRead(sumOf(body) + body); ok || len(list) != 0 {
			t.Errorf("text %d is a pack of %d", i, len(list))
		}
	}
	old := strings.Repeat("x", many)
	for i, delta := range []string{strings.Repeat("+1:x", many), strings.Repeat("=0,1;", many), strings.Repeat("=", many), strings.Repeat("+", many), "+" + strings.Repeat("1", many), "=0," + strings.Repeat("1", many) + ";", strings.Repeat("=0,1;", 6000) + "="} {
		if got, ok := impl.DeltaDo(old, delta); ok || got != "" {
			t.Errorf("delta %d makes %d", i, len(got))
		}
	}
	if impl.DeltaMake(old, old) != "" || impl.DeltaMake(old, "") != "" || impl.DeltaMake("", old) != "" {
		t.Error("a delta of vast texts")
	}
}

// Packs that ask for most work: pieces that stand at nearly all places, and hardly go on.
func TestPacksThatAskForMuchAreAnswered(t *testing.T) {
	var texts []string
	for at := range 60 {
		texts = append(texts, strings.Repeat("aaaaaab", 3*at)+strings.Repeat("a", 6000-21*at))
	}
	list := underSums(texts...)
	text := impl.PackWrite(list)
	if got, ok := impl.PackRead(text); !ok || !slices.Equal(got, list) || len(text) > 64+60*6008 {
		t.Errorf("unpacked: %v, of %d bytes", ok, len(text))
	}
}

// vastLibs are far behind what a library has, each by one part.
func vastLibs() map[string]impl.Lib {
	good := underNames(plainSchema, line(3), "main", line(3).keys[2])
	libs := map[string]impl.Lib{}
	for name, change := range map[string]func(*impl.Lib){
		"rules":   func(l *impl.Lib) { l.Schema = impl.Schema{Root: "a", Rules: make([]impl.Rule, 1_000_000)} },
		"items":   func(l *impl.Lib) { l.Schema = ruled(make([]impl.Item, 1_000_000)...) },
		"nothing": func(l *impl.Lib) { l.Objs = make([]impl.Object, 300_000) },
		"journal": func(l *impl.Lib) { l.Jour = newChance().jour(5_000) },
		"lines":   func(l *impl.Lib) { l.Jour = strings.Repeat("0 main - 00000000\n", 100_000) },
	} {
		l := good
		change(&l)
		libs[name] = l
	}
	return libs
}

func TestVastLibrariesAreAnswered(t *testing.T) {
	for name, l := range vastLibs() {
		checkNothing(t, l, impl.Cmd{Kind: 1, Name: "main", Tree: "a#1[a#2]"})
		checkNothing(t, l, impl.Cmd{Kind: 5})
		_, ok := impl.LibOpen(l)
		if ok != (name == "lines") || len(impl.LibFaults(l)) == 0 {
			t.Errorf("%s: it is opened: %v, and wrong is %v", name, ok, impl.LibFaults(l))
		}
	}
	var texts []string
	for at := range 20_000 {
		texts = append(texts, strconv.Itoa(at))
	}
	l := underNames(plainSchema, past{texts: texts})
	swept, code := impl.LibDo(l, impl.Cmd{Kind: 5})
	left := impl.LibCrash(l, impl.Cmd{Kind: 5}, 10_000, 0)
	if !impl.LibOk(l) || code != 0 || len(swept.Objs) != 0 || len(left.Objs) != 10_000 || impl.LibSave(l) != "" {
		t.Errorf("of 20000 objects there stay %d, and without power %d", len(swept.Objs), len(left.Objs))
	}
	more, code := impl.LibDo(l, impl.Cmd{Kind: 1, Name: "main", Tree: "a#1"})
	if code != 0 || len(more.Objs) != 20_002 {
		t.Errorf("to 20000 objects there come %d", len(more.Objs)-20_000)
	}
}

func TestVastCommandsAreAnswered(t *testing.T) {
	many := 1_000_000
	l := underNames(plainSchema, line(3), "main", line(3).keys[2])
	long := strings.Repeat("a", many)
	for _, c := range []struct {
		cmd  impl.Cmd
		code int
	}{
		{impl.Cmd{Kind: 1, Name: long, Tree: "a#1"}, 1}, {impl.Cmd{Kind: 1, Name: "main", Tree: strings.Repeat("a#1[", many)}, 4}, {impl.Cmd{Kind: 1, Name: "main", Tree: "a#2", Note: long}, 1}, {impl.Cmd{Kind: 2, Name: "new", From: long}, 1},
		{impl.Cmd{Kind: 3, Name: "main", From: "main", Note: long}, 6}, {impl.Cmd{Kind: 5, Note: long}, 1}, {impl.Cmd{Kind: 1 << 62, Name: long, From: long, Tree: long, Note: long}, 1},
	} {
		if _, code := impl.LibDo(l, c.cmd); code != c.code {
			t.Errorf("a vast command of the kind %d is answered by %d", c.cmd.Kind, code)
		}
	}
	if _, code := impl.LibPick(l, long, line(3).keys[2], long); code != 2 {
		t.Errorf("a vast name is picked for: %d", code)
	}
	if _, code := impl.LibUndo(l, "main", long, long); code != 4 {
		t.Errorf("a vast sum is undone: %d", code)
	}
}

func TestVastSessionsAreAnswered(t *testing.T) {
	many := 300_000
	if got := impl.LibSession(plainSchema, make([]string, many)); got != strings.Repeat("what\n", many) {
		t.Errorf("%d empty lines are answered in %d bytes", many, len(got))
	}
	if got := impl.LibSession(plainSchema, slices.Repeat([]string{"see", "drop a", "sweep"}, 10_000)); got != strings.Repeat("library\ncode 2\ncode 0\n", 10_000) {
		t.Errorf("30000 lines are answered in %d bytes", len(got))
	}
	for i, line := range []string{strings.Repeat(" ", many), "commit main n " + strings.Repeat("a#1[", many), "drop " + strings.Repeat("a", many), "commit main " + strings.Repeat("n ", many)} {
		want := []string{"what\n", "code 4\n", "code 1\n", "what\n"}[i]
		if got := impl.LibSession(plainSchema, []string{line}); got != want {
			t.Errorf("vast line %d is answered by %q", i, got)
		}
	}
	for i, text := range []string{strings.Repeat("library 1 1\n", many), "library " + strings.Repeat("9", many) + " 1\n", "library 999999 999999\n" + strings.Repeat("x", 2*many), strings.Repeat("\n", many)} {
		if got, ok := impl.LibLoad(text); ok || !sameLib(got, impl.Lib{}) {
			t.Errorf("vast text %d is read", i)
		}
	}
}

func TestVastTreesAreAnsweredInPicks(t *testing.T) {
	for i, vast := range vastTrees() {
		good := impl.Tree{Id: vast.Id, Kind: "a"}
		for _, c := range [][3]impl.Tree{{vast, good, good}, {good, vast, good}, {good, good, vast}, {vast, vast, vast}} {
			if got, ok := impl.MergePick(c[0], c[1], c[2], []bool{true, false}); ok || !sameTree(got, impl.Tree{}) {
				t.Errorf("tree %d is put together", i)
			}
		}
	}
}
