package tests

import (
	"slices"
	"strings"
	"testing"

	"loop.example/codicil/impl"
)

// someObjs are objects that are right.
func someObjs() [][]impl.Object {
	long := strings.Repeat("t", 100_000)
	list := [][]impl.Object{nil, {}, underSums(""), underSums("x"), underSums("x", "y"), underSums("", "\x00", "\xff", "\n", long)}
	c := newChance()
	for range 60 {
		list = append(list, underSums(c.related(12)...))
	}
	return list
}

// badObjs are objects that are not right, each by one fault alone.
func badObjs() map[string][]impl.Object {
	right := underSums("a", "b", "c", "d")
	changed := func(change func([]impl.Object)) []impl.Object {
		list := slices.Clone(right)
		change(list)
		return list
	}
	return map[string][]impl.Object{
		"another text at first":  changed(func(l []impl.Object) { l[0].Text += "x" }),
		"another text at last":   changed(func(l []impl.Object) { l[3].Text = "" }),
		"another key":            changed(func(l []impl.Object) { l[1].Key = l[0].Key[:63] + "x" }),
		"large figures":          changed(func(l []impl.Object) { l[3].Key = strings.ToUpper(l[3].Key) }),
		"a key with more":        changed(func(l []impl.Object) { l[2].Key += "0" }),
		"a key with less":        changed(func(l []impl.Object) { l[2].Key = l[2].Key[:63] }),
		"no keys":                changed(func(l []impl.Object) { l[0].Key = "" }),
		"texts of one another":   changed(func(l []impl.Object) { l[0].Text, l[1].Text = l[1].Text, l[0].Text }),
		"two in another order":   changed(func(l []impl.Object) { l[1], l[2] = l[2], l[1] }),
		"the last at first":      changed(func(l []impl.Object) { l[0], l[3] = l[3], l[0] }),
		"from the last on":       changed(slices.Reverse[[]impl.Object]),
		"one twice at first":     slices.Insert(slices.Clone(right), 0, right[0]),
		"one twice at last":      append(slices.Clone(right), right[3]),
		"one twice, and unlike":  slices.Insert(slices.Clone(right), 1, impl.Object{Key: right[0].Key, Text: "x"}),
		"nothing at first":       slices.Insert(slices.Clone(right), 0, impl.Object{}),
		"nothing alone":          {{}},
		"an empty text, no key":  {{Key: "", Text: ""}},
		"a text under its own":   {{Key: "x", Text: "x"}},
		"the check for the sum":  {{Key: sumOf("x")[:8], Text: "x"}},
		"the sum of another one": {{Key: sumOf("y"), Text: "x"}},
	}
}

func TestObjectsThatAreOk(t *testing.T) {
	for _, list := range someObjs() {
		if !rightObjs(list) || !impl.ObjOk(list) {
			t.Errorf("%v are not ok", list)
		}
	}
	for name, list := range badObjs() {
		if rightObjs(list) || impl.ObjOk(list) {
			t.Errorf("%s: it is ok", name)
		}
	}
}

// P29: what was put is got, and nothing else has changed.
func TestObjectsArePut(t *testing.T) {
	for _, list := range someObjs() {
		for _, text := range append(textsUnder(list), "new", "x", "", "\x00\x00", strings.Repeat("n", 7000)) {
			got, key := impl.ObjPut(list, text)
			if want := underSums(append(textsUnder(list), text)...); key != sumOf(text) || !slices.Equal(got, want) || !impl.ObjOk(got) {
				t.Fatalf("with %q %v are %v, %s", text, list, got, key)
			}
			if put, there := impl.ObjGet(got, key); put != text || !there {
				t.Fatalf("%q is put, and got as %q, %v", text, put, there)
			}
			for _, object := range list {
				if other, there := impl.ObjGet(got, object.Key); other != object.Text || !there {
					t.Fatalf("%q is %q behind %q, %v", object.Text, other, text, there)
				}
			}
			if again, same := impl.ObjPut(got, text); same != key || !slices.Equal(again, got) {
				t.Fatalf("%q put again changes %v to %v", text, got, again)
			}
		}
	}
}

// P29: many, put one behind the other, in any order.
func TestManyObjectsArePut(t *testing.T) {
	c := newChance()
	var list []impl.Object
	texts := c.related(150)
	for at, text := range texts {
		list, _ = impl.ObjPut(list, text)
		if want := underSums(texts[:at+1]...); !slices.Equal(list, want) {
			t.Fatalf("%d texts are %v", at+1, list)
		}
	}
}

func TestNothingIsPutAmongObjectsThatAreNotOk(t *testing.T) {
	for name, list := range badObjs() {
		for _, text := range []string{"a", "x", "", "new"} {
			if got, key := impl.ObjPut(list, text); len(got) != 0 || key != "" {
				t.Errorf("%s: with %q it is %v, %q", name, text, got, key)
			}
		}
	}
}

// P30: what is got has the sum by which it is got. Objects need not be ok for that.
func TestObjectsAreGot(t *testing.T) {
	for _, list := range append(someObjs(), allBadObjs()...) {
		keys := []string{"", "-", "none", sumOf("none"), strings.ToUpper(sumOf("a")), sumOf("a")[:8], sumOf("a") + "0"}
		for _, object := range list {
			keys = append(keys, object.Key, sumOf(object.Text), object.Key+"0", " "+object.Key)
		}
		for _, key := range keys {
			want, there := gotten(list, key)
			got, ok := impl.ObjGet(list, key)
			if got != want || ok != there || ok && sumOf(got) != key {
				t.Fatalf("under %q of %v is %q, %v", key, list, got, ok)
			}
		}
	}
}

func allBadObjs() [][]impl.Object {
	var all [][]impl.Object
	for _, list := range badObjs() {
		all = append(all, list)
	}
	return all
}

// Of two with one key the first counts, though only the second be right.
func TestTheFirstObjectIsGot(t *testing.T) {
	key := sumOf("a")
	right, wrong := impl.Object{Key: key, Text: "a"}, impl.Object{Key: key, Text: "b"}
	if got, ok := impl.ObjGet([]impl.Object{right, wrong}, key); got != "a" || !ok {
		t.Errorf("the first is right: %q, %v", got, ok)
	}
	if got, ok := impl.ObjGet([]impl.Object{wrong, right}, key); got != "" || ok {
		t.Errorf("the first is wrong: %q, %v", got, ok)
	}
	if got, ok := impl.ObjGet([]impl.Object{{Key: "z"}, {Key: "b", Text: "x"}, right}, key); got != "a" || !ok {
		t.Errorf("others ahead of it: %q, %v", got, ok)
	}
}

// P31: what is kept is just what was asked for, in order, whether the objects are ok or not.
func TestObjectsAreKept(t *testing.T) {
	c := newChance()
	for _, list := range append(someObjs(), allBadObjs()...) {
		for range 6 {
			asked := []string{"none", "", sumOf("none")}[c.Intn(4)%3:]
			var want []impl.Object
			for _, object := range list {
				if c.Intn(2) == 0 {
					asked = append(asked, object.Key)
				}
			}
			c.Shuffle(len(asked), func(i, j int) { asked[i], asked[j] = asked[j], asked[i] })
			asked = append(asked, asked[0])
			for _, object := range list {
				if slices.Contains(asked, object.Key) {
					want = append(want, object)
				}
			}
			got := impl.ObjKeep(list, asked)
			if !slices.Equal(got, want) || !slices.Equal(impl.ObjKeep(got, asked), got) {
				t.Fatalf("of %v, %v asked for, %v are kept", list, asked, got)
			}
			if rightObjs(list) && !impl.ObjOk(got) {
				t.Fatalf("%v, kept of objects that are ok, are not ok", got)
			}
		}
		if got := impl.ObjKeep(list, nil); len(got) != 0 {
			t.Fatalf("of %v, none asked for, %v are kept", list, got)
		}
	}
	twice := []impl.Object{{Key: "k", Text: "b"}, {Key: "j"}, {Key: "k", Text: "a"}}
	if got := impl.ObjKeep(twice, []string{"k", "k"}); len(got) != 2 || got[0].Text != "b" || got[1].Text != "a" {
		t.Errorf("of two with one key %v are kept", got)
	}
}
