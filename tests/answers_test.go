package tests

import (
	"slices"
	"strings"
	"testing"

	"loop.example/codicil/impl"
)

func TestLimits(t *testing.T) {
	for _, c := range []struct {
		name       string
		value, doc int
	}{
		{"TreeMaxNodes", impl.TreeMaxNodes, 20}, {"TreeMaxDepth", impl.TreeMaxDepth, 6}, {"TreeMaxId", impl.TreeMaxId, 999},
		{"TreeMaxText", impl.TreeMaxText, 12}, {"NameMax", impl.NameMax, 8}, {"SchemaMaxRules", impl.SchemaMaxRules, 6},
		{"SchemaMaxItems", impl.SchemaMaxItems, 4}, {"JourMaxText", impl.JourMaxText, 4000}, {"HistMaxNote", impl.HistMaxNote, 12},
		{"HistMaxLength", impl.HistMaxLength, 24}, {"DeltaLeast", impl.DeltaLeast, 6}, {"DeltaMaxText", impl.DeltaMaxText, 6000},
		{"PackMaxChain", impl.PackMaxChain, 3}, {"PackMaxObjs", impl.PackMaxObjs, 60},
	} {
		if c.value != c.doc {
			t.Errorf("%s is %d, and %d in the document", c.name, c.value, c.doc)
		}
	}
}

// vastTrees are far behind the limits; the last has itself in it, and so no end.
func vastTrees() []impl.Tree {
	deep := impl.Tree{Id: 1, Kind: "a"}
	for range 100_000 {
		deep = impl.Tree{Id: 1, Kind: "a", Kids: []impl.Tree{deep}}
	}
	wide := impl.Tree{Id: 1, Kind: "a", Kids: make([]impl.Tree, 1_000_000)}
	own := []impl.Tree{{Id: 1, Kind: "a"}, {Id: 2, Kind: "a"}}
	own[0].Kids, own[1].Kids = own, own
	return []impl.Tree{deep, wide, own[0]}
}

func TestVastTreesAreAnswered(t *testing.T) {
	s := ruled(impl.Item{Kind: "a", Many: true})
	for i, tree := range vastTrees() {
		if impl.TreeOk(tree) || impl.TreeWrite(tree) != "" || len(impl.TreeIds(tree)) != 0 || impl.TreeOver(tree, 1) != -1 {
			t.Errorf("tree %d is ok", i)
		}
		if _, found := impl.TreeFind(tree, 1); found || impl.TreeSame(tree, tree) || impl.SchemaFits(s, tree) {
			t.Errorf("tree %d is found, the same, or fits", i)
		}
	}
}

func TestVastTextsAreAnswered(t *testing.T) {
	many := 1_000_000
	for i, text := range []string{
		strings.Repeat("a#1[", many), "a#1[" + strings.Repeat("a#2,", many), strings.Repeat("a", many), "a#" + strings.Repeat("9", many),
		`a#1"` + strings.Repeat("t", many), "a#1" + strings.Repeat("]", many), "root a\n" + strings.Repeat("a:\n", many),
		"root a\na:" + strings.Repeat(" a", many) + "\n", "root " + strings.Repeat("a", many), strings.Repeat("\n", many),
	} {
		tree, isTree := impl.TreeRead(text)
		s, isSchema := impl.SchemaRead(text)
		if isTree || isSchema || !sameTree(tree, impl.Tree{}) || !sameSchema(s, impl.Schema{}) {
			t.Errorf("text %d is read", i)
		}
	}
}

func TestVastSchemasAreAnswered(t *testing.T) {
	rules := impl.Schema{Root: "a", Rules: make([]impl.Rule, 1_000_000)}
	items := ruled(make([]impl.Item, 1_000_000)...)
	if impl.SchemaOk(rules) || impl.SchemaOk(items) || impl.SchemaWrite(rules) != "" || impl.SchemaFits(items, chain(1)) {
		t.Error("a schema of a million rules or items is ok")
	}
	many := ruled(itemsOf("b")[1], itemsOf("b")[1], itemsOf("b")[1], itemsOf("b")[1])
	if impl.SchemaKids(many, "a", slices.Repeat([]string{"b"}, 1_000_000)) {
		t.Error("a million may come")
	}
}
