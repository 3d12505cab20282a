package tests

import (
	"slices"
	"strings"
	"testing"

	"loop.example/codicil/impl"
)

const sampleSchema = "root doc\ndoc: title? sec*\ntitle text:\nsec text: par*\npar text:\n"

// ruled is a schema of the kinds a, b and c, with the items in a.
func ruled(items ...impl.Item) impl.Schema {
	return impl.Schema{Root: "a", Rules: []impl.Rule{{Kind: "a", Kids: items}, {Kind: "b"}, {Kind: "c", Text: true}}}
}

func ofKinds(kinds ...string) impl.Schema {
	s := impl.Schema{Root: "a"}
	for _, kind := range kinds {
		s.Rules = append(s.Rules, impl.Rule{Kind: kind})
	}
	return s
}

// edgeSchemas are ok, but just so.
func edgeSchemas() []impl.Schema {
	b := impl.Item{Kind: "b"}
	rooted := ofKinds("b", "abcdefgh")
	rooted.Root = "abcdefgh"
	return []impl.Schema{
		ofKinds("a"), ofKinds("a", "b", "c", "d", "e", "f"), rooted, ofKinds("z", "a", "texts", "tex"), ruled(), ruled(b), ruled(b, b, b, b),
		ruled(impl.Item{Kind: "a"}), ruled(impl.Item{Kind: "b", Many: true}, impl.Item{Kind: "c", May: true}),
		{Root: "a", Rules: []impl.Rule{{Kind: "a", Text: true, Kids: []impl.Item{}}}},
	}
}

// badSchemas are not ok.
func badSchemas() []impl.Schema {
	b := impl.Item{Kind: "b"}
	noRoot, otherRoot := ofKinds("a", "b"), ofKinds("a", "b")
	noRoot.Root, otherRoot.Root = "", "c"
	list := []impl.Schema{
		{}, {Root: "a"}, {Root: "a", Rules: []impl.Rule{{}}}, {Rules: []impl.Rule{{}}}, noRoot, otherRoot,
		ofKinds("a", "b", "c", "d", "e", "f", "g"), ofKinds("a", "b", "a"), ofKinds("a", "b", "b"), ruled(b, b, b, b, b),
		ruled(impl.Item{Kind: "b", Many: true, May: true}), ruled(b, b, b, impl.Item{Kind: "b", Many: true, May: true}),
		ruled(impl.Item{Kind: "d"}), ruled(b, impl.Item{Kind: "d", Many: true}), ruled(impl.Item{}), ruled(impl.Item{Kind: "text"}),
	}
	for _, kind := range []string{"", "text", "abcdefghi", "A", "`", "{", "b1", "b ", "é", "b\n", "\xff"} {
		list = append(list, ofKinds("a", kind), impl.Schema{Root: kind, Rules: []impl.Rule{{Kind: kind}}})
	}
	last := ruled()
	last.Rules[2].Kids = []impl.Item{b, b, b, b, b}
	return append(list, last)
}

func someSchemas() []impl.Schema {
	c := newChance()
	list := edgeSchemas()
	for range 300 {
		list = append(list, c.schema())
	}
	return list
}

// P6: what is ok is written, and read again.
func TestSchemasAreWrittenAndRead(t *testing.T) {
	for _, s := range someSchemas() {
		text := impl.SchemaWrite(s)
		if !impl.SchemaOk(s) || text != textOfSchema(s) {
			t.Fatalf("%v is written %q, ok %v", s, text, impl.SchemaOk(s))
		}
		if got, ok := impl.SchemaRead(text); !ok || !sameSchema(got, s) {
			t.Fatalf("%q is read as %v, %v", text, got, ok)
		}
	}
}

// P6: of any other text nothing is read.
func TestNothingElseIsReadAsSchema(t *testing.T) {
	c := newChance()
	words := []string{"a", "z", "A", " ", ":", "*", "?", "\n", "\r", " text", "text", " a", " a*", " a?", "*?", "root a\n", "b:\n", "0", "\xff"}
	schemas := edgeSchemas()
	for range 60 {
		schemas = append(schemas, c.schema())
	}
	for _, s := range schemas {
		for _, text := range c.changes(textOfSchema(s), words...) {
			checkSchemaRead(t, text)
		}
	}
}

func checkSchemaRead(t *testing.T, text string) {
	t.Helper()
	want, right := schemaOfText(text)
	got, ok := impl.SchemaRead(text)
	if ok != right || !sameSchema(got, want) {
		t.Fatalf("%q is read as %v, %v, not %v, %v", text, got, ok, want, right)
	}
	if ok && impl.SchemaWrite(got) != text {
		t.Fatalf("%q is read, and written %q", text, impl.SchemaWrite(got))
	}
}

func TestSchemaTextsAtTheEdges(t *testing.T) {
	for _, text := range []string{
		sampleSchema, "root a\na:\n", "root a\na text:\n", "root a\na: a a* a? a\n", "root a\na: a a a a\n", "root a\na: a a a a a\n",
		"root a\na:\nb:\nc:\nd:\ne:\nf:\n", "root a\na:\nb:\nc:\nd:\ne:\nf:\ng:\n", "root abcdefgh\nabcdefgh:\n", "root abcdefghi\nabcdefghi:\n",
		"", "root", "root ", "root a", "root a\n", "root a\n\n", "root a\na:", "root a\na\n", "root a\n:\n", "root a\na :\n", "root a\na:\n\n", "root a\na: \n",
		"root a\na:a\n", "root a\na:  a\n", "root a\na: a \n", "root a\na: a**\n", "root a\na: a*?\n", "root a\na: a?*\n", "root a\na: a *\n", "root a\na: *\n",
		"root a\na: b\n", "root a\na: text\n", "root text\ntext:\n", "root text\ntext text:\n", "root a\na:\ntext:\n", "root a\na text text:\n", "root a\na  text:\n",
		"root a\na text: a\n", "root a\na texts:\n", "root a\na:\na:\n", "root b\na:\n", "root \na:\n", "root  a\na:\n", "root a \na:\n", "Root a\na:\n",
		"root A\nA:\n", "root a\r\na:\r\n", " root a\na:\n", "a:\nroot a\n", "root a\na:\nroot a\n", "root root\nroot: root\n",
	} {
		checkSchemaRead(t, text)
	}
	for _, s := range badSchemas() {
		checkSchemaRead(t, textOfSchema(s))
	}
}

// Of a schema that is not ok each function has its fixed answer.
func TestSchemasThatAreNotOk(t *testing.T) {
	for _, bad := range badSchemas() {
		if rightSchema(bad) || impl.SchemaOk(bad) {
			t.Errorf("%v is ok", bad)
		}
		if text := impl.SchemaWrite(bad); text != "" {
			t.Errorf("%v is written %q", bad, text)
		}
		for _, kind := range []string{"a", "b", "", "text", bad.Root} {
			if impl.SchemaKids(bad, kind, nil) || impl.SchemaKids(bad, kind, []string{"b"}) {
				t.Errorf("%v tells what may come in %q", bad, kind)
			}
			if impl.SchemaFits(bad, impl.Tree{Id: 1, Kind: kind}) {
				t.Errorf("something of the kind %q fits %v", kind, bad)
			}
		}
	}
}

// listsOf is all lists of at most so many of the things.
func listsOf[T any](most int, things ...T) [][]T {
	all := [][]T{nil}
	last := all
	for range most {
		var next [][]T
		for _, list := range last {
			for _, thing := range things {
				next = append(next, append(slices.Clone(list), thing))
			}
		}
		all = append(all, next...)
		last = next
	}
	return all
}

func itemsOf(kinds ...string) []impl.Item {
	var list []impl.Item
	for _, kind := range kinds {
		list = append(list, impl.Item{Kind: kind}, impl.Item{Kind: kind, Many: true}, impl.Item{Kind: kind, May: true})
	}
	return list
}

// All rules of two kinds, held against regular expressions; and P7 of each.
func TestWhatMayCome(t *testing.T) {
	orders := listsOf(4, "b", "c", "x")
	orders = append(orders, listsOf(6, "b")...)
	for _, items := range listsOf(4, itemsOf("b", "c")...) {
		s, form := ruled(items...), ruleForm(items)
		for _, kinds := range orders {
			want := kindsFit(form, kinds)
			if impl.SchemaKids(s, "a", kinds) != want {
				t.Fatalf("%v in %v: not %v", kinds, items, want)
			}
			if want {
				checkOnceMore(t, s, items, kinds)
			}
		}
	}
}

// checkOnceMore is P7: of a kind whose items are all Many one more may come beside one that is there.
func checkOnceMore(t *testing.T, s impl.Schema, items []impl.Item, kinds []string) {
	t.Helper()
	for at, kind := range kinds {
		if len(kinds) == impl.TreeMaxNodes || slices.Contains(items, impl.Item{Kind: kind}) || slices.Contains(items, impl.Item{Kind: kind, May: true}) {
			continue
		}
		for _, place := range []int{at, at + 1} {
			if more := slices.Insert(slices.Clone(kinds), place, kind); !impl.SchemaKids(s, "a", more) {
				t.Fatalf("%v in %v, but not %v", kinds, items, more)
			}
		}
	}
}

// What may come any number of times, and is followed by the same.
func TestManyFollowedByTheSame(t *testing.T) {
	one, many, may := impl.Item{Kind: "b"}, impl.Item{Kind: "b", Many: true}, impl.Item{Kind: "b", May: true}
	for _, c := range []struct {
		items []impl.Item
		least int
		most  int
	}{
		{[]impl.Item{many, one}, 1, 20}, {[]impl.Item{one, many}, 1, 20}, {[]impl.Item{many, one, one}, 2, 20}, {[]impl.Item{many, many, one, one}, 2, 20},
		{[]impl.Item{one, many, one, many}, 2, 20}, {[]impl.Item{many, many, many, many}, 0, 20}, {[]impl.Item{many, may, one, may}, 1, 20},
		{[]impl.Item{may, one}, 1, 2}, {[]impl.Item{may, may, one, one}, 2, 4}, {[]impl.Item{may, may, may, may}, 0, 4}, {[]impl.Item{one, one, one, one}, 4, 4}, {nil, 0, 0},
	} {
		for size := range 24 {
			kinds := slices.Repeat([]string{"b"}, size)
			if impl.SchemaKids(ruled(c.items...), "a", kinds) != (size >= c.least && size <= c.most) {
				t.Errorf("%d in %v", size, c.items)
			}
		}
	}
}

func TestKindsAtTheLimit(t *testing.T) {
	many := ruled(impl.Item{Kind: "b", Many: true}, impl.Item{Kind: "c", Many: true})
	form := ruleForm(many.Rules[0].Kids)
	for size := range 40 {
		for split := range size + 1 {
			kinds := append(slices.Repeat([]string{"b"}, split), slices.Repeat([]string{"c"}, size-split)...)
			if impl.SchemaKids(many, "a", kinds) != (size <= 20) || kindsFit(form, kinds) != (size <= 20) {
				t.Errorf("%d kinds", size)
			}
			checkOnceMoreIfThere(t, many, kinds)
		}
	}
}

func checkOnceMoreIfThere(t *testing.T, s impl.Schema, kinds []string) {
	t.Helper()
	if impl.SchemaKids(s, "a", kinds) {
		checkOnceMore(t, s, s.Rules[0].Kids, kinds)
	}
}

func TestKindsWithoutRule(t *testing.T) {
	s := ruled(impl.Item{Kind: "b", Many: true})
	for _, kind := range []string{"", "d", "A", "text", "a ", "aa"} {
		if impl.SchemaKids(s, kind, nil) || impl.SchemaKids(s, kind, []string{"b"}) {
			t.Errorf("%q has no rule, but something may come", kind)
		}
		if impl.SchemaKids(s, "a", []string{kind}) || impl.SchemaKids(s, "a", []string{"b", kind}) {
			t.Errorf("%q has no rule, but may come", kind)
		}
	}
	if !impl.SchemaKids(s, "b", nil) || impl.SchemaKids(s, "b", []string{"b"}) || !impl.SchemaKids(s, "c", []string{}) {
		t.Error("in what has no items nothing comes, and that may be")
	}
}

// P8: of trees made by a schema, and of the same with one thing changed.
func TestTreesFitSchemas(t *testing.T) {
	c := newChance()
	seen := map[bool]int{}
	for _, s := range someSchemas() {
		for range 12 {
			room := 20
			tree := c.made(s, s.Root, &room, 1)
			renumber(&tree, 1)
			checkFits(t, s, tree, seen)
			c.spoil(&tree)
			checkFits(t, s, tree, seen)
		}
	}
	if seen[true] < 500 || seen[false] < 500 {
		t.Errorf("too few trees fit, or do not: %v", seen)
	}
}

// checkFits holds SchemaFits against the document's words, and against SchemaKids of each thing.
func checkFits(t *testing.T, s impl.Schema, tree impl.Tree, seen map[bool]int) {
	t.Helper()
	want := rightTree(tree) && fitting(s, tree)
	seen[want]++
	if impl.SchemaFits(s, tree) != want {
		t.Fatalf("%s fits %q: not %v", textOfTree(tree), textOfSchema(s), want)
	}
	each := rightTree(tree) && tree.Kind == s.Root
	for _, p := range placesOf(tree) {
		each = each && impl.SchemaKids(s, p.thing.Kind, kindsOf(p.thing.Kids)) && (p.thing.Text == "" || mayHaveText(s, p.thing.Kind))
	}
	if each != want {
		t.Fatalf("%s: each thing is as %q says: %v", textOfTree(tree), textOfSchema(s), each)
	}
}

func mayHaveText(s impl.Schema, kind string) bool {
	return slices.ContainsFunc(s.Rules, func(rule impl.Rule) bool { return rule.Kind == kind && rule.Text })
}

// made is a tree by a schema, as far as there is room.
func (c chance) made(s impl.Schema, kind string, room *int, level int) impl.Tree {
	*room--
	at := slices.IndexFunc(s.Rules, func(rule impl.Rule) bool { return rule.Kind == kind })
	tree := impl.Tree{Kind: kind}
	if s.Rules[at].Text {
		tree.Text = c.text()
	}
	for _, item := range s.Rules[at].Kids {
		times := 1
		if item.Many {
			times = c.Intn(4)
		} else if item.May {
			times = c.Intn(2)
		}
		for range times {
			if *room > 0 && level < 6 {
				tree.Kids = append(tree.Kids, c.made(s, item.Kind, room, level+1))
			}
		}
	}
	return tree
}

// spoil changes one thing of a tree.
func (c chance) spoil(t *impl.Tree) {
	for len(t.Kids) > 0 && c.Intn(3) > 0 {
		t = &t.Kids[c.Intn(len(t.Kids))]
	}
	switch c.Intn(4) {
	case 0:
		t.Text = c.word("x", "y", "thirteen text")
	case 1:
		t.Kind = c.word("a", "b", "z", "x", "text")
	case 2:
		t.Kids = append(t.Kids, impl.Tree{Id: 900 + c.Intn(101), Kind: c.word("a", "b", "sec")})
	default:
		t.Kids = t.Kids[:len(t.Kids)/2]
	}
}

func TestTreesAndTheSampleSchema(t *testing.T) {
	s, _ := impl.SchemaRead(sampleSchema)
	for text, want := range map[string]bool{
		"doc#1": true, `doc#1[title#2"a"]`: true, `doc#1[title#2"a",sec#3[par#4"one",par#5]]`: true, "doc#1[sec#2,sec#3]": true,
		`doc#1"x"`: false, "doc#1[title#2,title#3]": false, "doc#1[sec#2,title#3]": false, "doc#1[par#2]": false, "doc#1[doc#2]": false,
		"sec#1": false, "par#1": false, "other#1": false, "doc#1[other#2]": false, "doc#1[title#2[par#3]]": false, "doc#1[sec#2[par#3[par#4]]]": false,
	} {
		tree, right := treeOfText(text)
		if !right || impl.SchemaFits(s, tree) != want {
			t.Errorf("%s fits: not %v", text, want)
		}
	}
	for _, bad := range badTrees() {
		if impl.SchemaFits(impl.Schema{Root: "a", Rules: []impl.Rule{{Kind: "a", Text: true, Kids: itemsOf("b")[1:2]}, {Kind: "b", Text: true}}}, bad) {
			t.Errorf("%v is not ok, but fits", bad)
		}
	}
}

// A tree that is not ok fits no schema, even if each thing of it is as the schema says.
func TestOnlyOkTreesFit(t *testing.T) {
	s := impl.Schema{Root: "a", Rules: []impl.Rule{{Kind: "a", Text: true, Kids: []impl.Item{{Kind: "a", Many: true}, {Kind: "b", Many: true}}}, {Kind: "b"}}}
	for _, c := range []struct {
		tree impl.Tree
		want bool
	}{
		{chain(6), true}, {chain(7), false}, {row(20), true}, {row(21), false}, {inside(inside()), false},
		{impl.Tree{Id: 999, Kind: "a"}, true}, {impl.Tree{Id: 1000, Kind: "a"}, false}, {impl.Tree{Id: 0, Kind: "a"}, false},
		{impl.Tree{Id: 1, Kind: "a", Text: strings.Repeat("t", 12)}, true}, {impl.Tree{Id: 1, Kind: "a", Text: strings.Repeat("t", 13)}, false},
	} {
		if impl.SchemaFits(s, c.tree) != c.want {
			t.Errorf("%v fits: not %v", c.tree, c.want)
		}
	}
}
