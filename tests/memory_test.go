package tests

import (
	"fmt"
	"reflect"
	"strings"
	"testing"

	"loop.example/codicil/impl"
)

// span is the memory of a list, spare room included.
type span struct{ from, to uintptr }

// lists calls do with each list that a value has, those of its parts first.
// Parts in spare room count too: what stands behind an end is memory like any other.
func lists(v reflect.Value, do func(reflect.Value)) {
	switch v.Kind() {
	case reflect.Interface:
		lists(v.Elem(), do)
	case reflect.Struct:
		for i := range v.NumField() {
			lists(v.Field(i), do)
		}
	case reflect.Slice:
		whole := v.Slice(0, v.Cap())
		for i := range whole.Len() {
			lists(whole.Index(i), do)
		}
		do(whole)
	}
}

func spansOf(value any) []span {
	var list []span
	lists(reflect.ValueOf(value), func(v reflect.Value) {
		if size := uintptr(v.Len()) * v.Type().Elem().Size(); size > 0 {
			list = append(list, span{v.Pointer(), v.Pointer() + size})
		}
	})
	return list
}

// shownWithRoom is all that a value's lists have, in spare room too.
func shownWithRoom(value any) string {
	var out strings.Builder
	lists(reflect.ValueOf(value), func(v reflect.Value) {
		fmt.Fprintf(&out, "%v;", v.Interface())
	})
	return out.String()
}

// spoilAll overwrites all that a value's lists have.
func spoilAll(value any) {
	lists(reflect.ValueOf(value), func(v reflect.Value) {
		for i := range v.Len() {
			v.Index(i).SetZero()
		}
	})
}

// checkMemory says whether a call writes nothing into its arguments or behind their ends,
// answers in memory that is new in all its parts, and keeps nothing for the next call.
func checkMemory(t *testing.T, name string, args any, call func() []any) {
	t.Helper()
	before := shownWithRoom(args)
	first, second := call(), call()
	answer := fmt.Sprint(first)
	if shownWithRoom(args) != before {
		t.Errorf("%s writes into an argument or behind its end", name)
	}
	checkApart(t, name, append(append(spansOf(args), spansOf(first)...), spansOf(second)...))
	spoilAll(first)
	if shownWithRoom(args) != before {
		t.Errorf("%s: what is written into the answer is in an argument", name)
	}
	if got := fmt.Sprint(call()); got != answer {
		t.Errorf("%s answers %s, and later %s", name, answer, got)
	}
}

func checkApart(t *testing.T, name string, spans []span) {
	t.Helper()
	for i, a := range spans {
		for _, b := range spans[:i] {
			if a.from < b.to && b.from < a.to {
				t.Errorf("%s: two lists share memory", name)
			}
		}
	}
}

// roomyTree is a tree each list of which has spare room, with something in it.
func roomyTree(t impl.Tree) impl.Tree {
	kids := []impl.Tree{}
	for _, kid := range t.Kids {
		kids = append(kids, roomyTree(kid))
	}
	behind := []impl.Tree{{Id: 77, Kind: "spare", Kids: []impl.Tree{{Id: 78}}}, {Id: 79, Kind: "more"}}
	t.Kids = append(kids, behind...)[:len(kids)]
	return t
}

func roomySchema(s impl.Schema) impl.Schema {
	rules := []impl.Rule{}
	for _, rule := range s.Rules {
		items := append([]impl.Item{}, rule.Kids...)
		rule.Kids = append(items, impl.Item{Kind: "spare"}, impl.Item{Kind: "more", Many: true})[:len(items)]
		rules = append(rules, rule)
	}
	s.Rules = append(rules, impl.Rule{Kind: "spare", Kids: []impl.Item{{Kind: "x"}}})[:len(rules)]
	return s
}

func TestMemoryOfTrees(t *testing.T) {
	c := newChance()
	trees := append(edgeTrees(), badTrees()...)
	for range 30 {
		trees = append(trees, c.tree())
	}
	for _, plain := range trees {
		tree, other := roomyTree(plain), roomyTree(plain)
		checkMemory(t, "TreeOk", tree, func() []any { return []any{impl.TreeOk(tree)} })
		checkMemory(t, "TreeWrite", tree, func() []any { return []any{impl.TreeWrite(tree)} })
		checkMemory(t, "TreeIds", tree, func() []any { return []any{impl.TreeIds(tree)} })
		checkMemory(t, "TreeSame", []impl.Tree{tree, other}, func() []any { return []any{impl.TreeSame(tree, other)} })
		checkMemory(t, "TreeRead", nil, func() []any { return answers(impl.TreeRead(textOfTree(plain))) })
		for _, id := range []int{tree.Id, idsOf(plain)[len(idsOf(plain))/2], idsOf(plain)[len(idsOf(plain))-1], 77, 0} {
			checkMemory(t, "TreeFind", tree, func() []any { return answers(impl.TreeFind(tree, id)) })
			checkMemory(t, "TreeOver", tree, func() []any { return []any{impl.TreeOver(tree, id)} })
		}
	}
}

func TestMemoryOfSchemas(t *testing.T) {
	c := newChance()
	schemas := append(edgeSchemas(), badSchemas()...)
	for range 40 {
		schemas = append(schemas, c.schema())
	}
	for _, plain := range schemas {
		s, tree := roomySchema(plain), roomyTree(c.tree())
		kinds := append([]string{"b", "c"}, "spare", "more")[:2]
		checkMemory(t, "SchemaOk", s, func() []any { return []any{impl.SchemaOk(s)} })
		checkMemory(t, "SchemaWrite", s, func() []any { return []any{impl.SchemaWrite(s)} })
		checkMemory(t, "SchemaRead", nil, func() []any { return answers(impl.SchemaRead(textOfSchema(plain))) })
		checkMemory(t, "SchemaKids", []any{s, kinds}, func() []any { return []any{impl.SchemaKids(s, plain.Root, kinds)} })
		checkMemory(t, "SchemaFits", []any{s, tree}, func() []any { return []any{impl.SchemaFits(s, tree)} })
	}
}

func answers[T any](value T, ok bool) []any {
	return []any{value, ok}
}

// What stands behind the end of a list is none of it.
func TestSpareRoomIsNotRead(t *testing.T) {
	for _, tree := range someTrees() {
		if got := impl.TreeWrite(roomyTree(tree)); got != textOfTree(tree) || !impl.TreeSame(roomyTree(tree), tree) {
			t.Fatalf("%s with spare room is %s", textOfTree(tree), got)
		}
	}
	for _, s := range someSchemas() {
		if got := impl.SchemaWrite(roomySchema(s)); got != textOfSchema(s) {
			t.Fatalf("%s with spare room is %s", textOfSchema(s), got)
		}
	}
}
