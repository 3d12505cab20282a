package tests

import (
	"slices"
	"strconv"
	"strings"
	"testing"

	"loop.example/codicil/impl"
)

// checkJour holds all functions of journals against the document's words, at one text.
func checkJour(t *testing.T, text string) {
	t.Helper()
	want, bytes, _ := toldBy(text)
	refs, size := impl.JourRead(text)
	if !slices.Equal(refs, want) || size != bytes {
		t.Fatalf("%q tells %v, %d, not %v, %d", text, refs, size, want, bytes)
	}
	if got := impl.JourOk(text); got != rightJour(text) {
		t.Fatalf("%q is right: %v", text, got)
	}
	if got := impl.JourPack(text); got != packedJour(text) {
		t.Fatalf("%q is packed as %q", text, got)
	}
	for _, name := range []string{"a", "b", "main", "work", "abcdefgh", "none", "", "-"} {
		if got := impl.JourOf(text, name); got != standingFor(text, name) {
			t.Fatalf("by %q %s stands for %q", text, name, got)
		}
	}
}

// jour is a journal by chance, of so many lines, that is right but may be longer than it may be.
func (c chance) jour(lines int) string {
	text := ""
	for place := range lines {
		text += lineOf(place, c.word("a", "b", "main", "work", "abcdefgh"), c.word("-", sumOf("x"), sumOf("y"), sumOf(strconv.Itoa(place))))
	}
	return text
}

// P36: a name stands for what is told of it, and no other one.
func TestJournalsAreRead(t *testing.T) {
	c := newChance()
	for range 400 {
		text := c.jour(c.Intn(56))
		checkJour(t, text)
		refs, _ := impl.JourRead(text)
		told := map[string]string{}
		for at, ref := range refs {
			told[ref.Name] = ref.Key
			if at > 0 && refs[at-1].Name >= ref.Name || ref.Key == "" || ref.Key == "-" {
				t.Fatalf("%q tells %v", text, refs)
			}
		}
		for _, name := range []string{"a", "b", "main", "work", "abcdefgh", "none", "A", ""} {
			if got := impl.JourOf(text, name); got != told[name] {
				t.Fatalf("by %q %s stands for %q, and %q is told", text, name, got, told[name])
			}
		}
	}
}

// P32: a journal that is cut off says what it said at some time.
func TestJournalsThatAreCutOff(t *testing.T) {
	c := newChance()
	for range 12 {
		text := c.jour(1 + c.Intn(12))
		for at := range len(text) + 1 {
			cut := text[:at]
			whole := strings.LastIndex(cut, "\n") + 1
			refs, size := impl.JourRead(cut)
			before, _ := impl.JourRead(text[:whole])
			if size != whole || !slices.Equal(refs, before) || impl.JourOk(cut) != (whole == at) || !impl.JourOk(text[:whole]) {
				t.Fatalf("%q, cut off, tells %v, %d", cut, refs, size)
			}
			if whole != at {
				if got, ok := impl.JourAdd(cut, "new", "", sumOf("n")); ok || got != cut || impl.JourPack(cut) != "" {
					t.Fatalf("%q, cut off, is added to or packed", cut)
				}
			}
			checkJour(t, cut)
		}
	}
}

// P33: a name stands for what it was said to last, if it stood for what was said.
func TestJournalsAreAddedTo(t *testing.T) {
	c := newChance()
	refused, added := 0, 0
	for range 60 {
		text := ""
		for range 60 {
			name := c.word("a", "b", "main", "work", "abcdefgh", c.word("abcdefghi", "", "A", "a b", "-"))
			old := c.word(standingFor(text, name), standingFor(text, name), standingFor(text, name), "", "-", sumOf("x"))
			key := c.word("", sumOf("x"), sumOf("y"), sumOf("z"), c.word(sumOf("q"), "-", "x", sumOf("x")[:63], sumOf("x")+"0", strings.ToUpper(sumOf("x"))))
			if checkAdd(t, text, name, old, key) {
				text, _ = impl.JourAdd(text, name, old, key)
				added++
			} else {
				refused++
			}
		}
	}
	if refused < 800 || added < 800 {
		t.Errorf("%d refused, %d added", refused, added)
	}
}

func checkAdd(t *testing.T, text, name, old, key string) bool {
	t.Helper()
	want, can := jourWith(text, name, old, key)
	got, ok := impl.JourAdd(text, name, old, key)
	if got != want || ok != can {
		t.Fatalf("%q with %q, %q, %q is %q, %v", text, name, old, key, got, ok)
	}
	if !ok {
		return false
	}
	if !strings.HasPrefix(got, text) || !impl.JourOk(got) || impl.JourOf(got, name) != key {
		t.Fatalf("%q with %q, %q, %q is %q", text, name, old, key, got)
	}
	for _, other := range []string{"a", "b", "main", "work", "abcdefgh"} {
		if other != name && impl.JourOf(got, other) != impl.JourOf(text, other) {
			t.Fatalf("%q with %s is %q: %s has changed", text, name, got, other)
		}
	}
	return true
}

func TestKnownAdditions(t *testing.T) {
	x, y := sumOf("x"), sumOf("y")
	one := lineOf(0, "main", x)
	gone := one + lineOf(1, "main", "-")
	for _, c := range []struct {
		text, name, old, key string
		ok                   bool
	}{
		{"", "main", "", x, true}, {"", "main", "", "", true}, {"", "main", x, x, false}, {"", "main", "-", x, false},
		{one, "main", x, y, true}, {one, "main", x, x, true}, {one, "main", x, "", true}, {one, "main", "", y, false}, {one, "main", y, y, false},
		{one, "other", "", y, true}, {one, "other", x, y, false}, {one, "mai", "", y, true}, {one, "mainn", "", y, true},
		{gone, "main", "", y, true}, {gone, "main", x, y, false}, {gone, "main", "-", y, false}, {gone, "main", "", "", true},
		{one, "main", x, "-", false}, {one, "main", x, "y", false}, {one, "main", x, y[:63], false}, {one, "main", x, y + "0", false},
		{one, "main", x, y[:63] + "g", false}, {one, "main", x, y[:63] + "A", false}, {one, "main", x, y[:63] + " ", false},
		{"", "", "", x, false}, {"", "abcdefgh", "", x, true}, {"", "abcdefghi", "", x, false}, {"", "Main", "", x, false}, {"", "a1", "", x, false},
		{"", "a b", "", x, false}, {"", "a\n", "", x, false}, {"", "é", "", x, false}, {"", "-", "", x, false},
		{one[:len(one)-1], "other", "", y, false}, {one + " ", "other", "", y, false}, {one + one, "other", "", y, false}, {"\n", "main", "", x, false}, {"x", "main", "", x, false},
	} {
		if checkAdd(t, c.text, c.name, c.old, c.key) != c.ok {
			t.Errorf("%q with %q, %q, %q: it is not %v", c.text, c.name, c.old, c.key, c.ok)
		}
	}
}

// full is a journal of just so many bytes as it may have, and as many more as its last name has more than three.
func full(name string) string {
	text := ""
	for place := range 49 {
		switch {
		case place < 10:
			text += lineOf(place, "a", sumOf("x"))
		case place < 30:
			text += lineOf(place, "bb", sumOf("x"))
		default:
			text += lineOf(place, "ccc", sumOf("x"))
		}
	}
	return text + lineOf(49, name, sumOf("y"))
}

func TestJournalsAtTheLimit(t *testing.T) {
	text := full("ddd")
	ahead := strings.TrimSuffix(text, lineOf(49, "ddd", sumOf("y")))
	if len(text) != 4000 || !impl.JourOk(text) {
		t.Fatalf("%d bytes are right: %v", len(text), impl.JourOk(text))
	}
	if got, ok := impl.JourAdd(ahead, "ddd", "", sumOf("y")); !ok || got != text {
		t.Errorf("a journal is not filled up: %v", ok)
	}
	if got, ok := impl.JourAdd(ahead, "dddd", "", sumOf("y")); ok || got != ahead {
		t.Errorf("a journal of 4001 bytes: %d, %v", len(got), ok)
	}
	if got, ok := impl.JourAdd(text, "a", sumOf("x"), ""); ok || got != text {
		t.Errorf("a full journal has more: %d, %v", len(got), ok)
	}
	more := full("dddd")
	refs, size := impl.JourRead(more)
	if len(more) != 4001 || size != 4001 || len(refs) != 4 || impl.JourOf(more, "dddd") != sumOf("y") {
		t.Errorf("4001 bytes tell %v, %d", refs, size)
	}
	if got, ok := impl.JourAdd(more, "a", sumOf("x"), ""); ok || got != more || impl.JourOk(more) || impl.JourPack(more) != "" {
		t.Errorf("4001 bytes are right, or added to: %v", ok)
	}
	for _, text := range []string{text, more, ahead, text + lineOf(50, "a", "-")} {
		checkJour(t, text)
	}
}

// P34: a journal of which one byte is another one says no more than it said up to there.
func TestJournalsThatAreSpoiled(t *testing.T) {
	c := newChance()
	texts := []string{full("ddd")}
	for range 8 {
		texts = append(texts, c.jour(1+c.Intn(14)))
	}
	for _, text := range texts {
		for at := range len(text) {
			spoiled := []byte(text)
			spoiled[at] ^= 1
			line := strings.LastIndex(text[:at], "\n") + 1
			before, _ := impl.JourRead(text[:line])
			refs, size := impl.JourRead(string(spoiled))
			if size != line || !slices.Equal(refs, before) || impl.JourOk(string(spoiled)) {
				t.Fatalf("%q, another one at %d, tells %v, %d", spoiled, at, refs, size)
			}
		}
	}
}

// Lines that are just not so, and what is behind them is not read either.
func TestLinesThatAreNotRight(t *testing.T) {
	x := sumOf("x")
	checked := func(said string) string { return said + " " + sumOf(said)[:8] + "\n" }
	said := "1 main " + x
	ahead, behind := lineOf(0, "work", x), lineOf(2, "more", x)
	for _, line := range []string{
		checked("0 main " + x), checked("2 main " + x), checked("01 main " + x), checked("+1 main " + x), checked("-1 main " + x), checked("1. main " + x),
		checked(" main " + x), checked("main " + x), checked("1  main " + x), checked(" 1 main " + x), checked("1 main  " + x), checked("1\tmain " + x),
		checked("1 main"), checked("1 main "), checked("1 main -- "), checked("1 main --"), checked("1 main " + x + " "), checked("1 main " + x + " -"),
		checked("1 Main " + x), checked("1  " + x), checked("1 abcdefghi " + x), checked("1 m1 " + x), checked("1 - " + x), checked("1 é " + x),
		checked("1 main " + x[:63]), checked("1 main " + x + "0"), checked("1 main " + strings.ToUpper(x)), checked("1 main " + x[:63] + "g"), checked("1 main " + x[:63] + "/"),
		checked("1 main " + x[:63] + "`"), checked("1 main " + x[:63] + ":"), checked("1 main \n"), checked(""), checked("1 main " + x + "\r"), checked("\xff1 main " + x),
		said + " " + sumOf(said)[:7] + "\n", said + " " + sumOf(said)[:9] + "\n", said + " " + strings.ToUpper(sumOf(said)[:8]) + "\n", said + " " + sumOf(said)[1:9] + "\n",
		said + " " + sumOf(said + " ")[:8] + "\n", said + " " + sumOf(said + "\n")[:8] + "\n", said + "  " + sumOf(said)[:8] + "\n", said + sumOf(said)[:8] + "\n",
		said + " " + sumOf(said)[:8] + " \n", said + " " + sumOf(said)[:8] + "\r\n", said + " " + sumOf(said)[:8] + "\n\n", said + " \n", said + "\n", "\n", " \n", "1\n",
		said + " " + sumOf(said)[:8],
	} {
		text := ahead + line + behind
		refs, size := impl.JourRead(text)
		up := len(ahead)
		if strings.HasSuffix(line, "\n\n") {
			up += len(line) - 1 // the line itself is right, and an empty one behind it
		}
		if size != up || impl.JourOk(text) || len(refs) == 0 || refs[len(refs)-1].Name != "work" {
			t.Errorf("%q tells %v, %d", line, refs, size)
		}
		checkJour(t, text)
	}
	if text := ahead + checked(said) + behind; !impl.JourOk(text) {
		t.Errorf("%q is not right", text)
	}
}

// P35: a journal that is packed says the same, in not more bytes.
func TestJournalsArePacked(t *testing.T) {
	c := newChance()
	shorter := 0
	for range 300 {
		text := c.jour(c.Intn(50))
		if len(text) > 4000 {
			continue
		}
		packed := impl.JourPack(text)
		refs, size := impl.JourRead(packed)
		before, _ := impl.JourRead(text)
		if !slices.Equal(refs, before) || size != len(packed) || len(packed) > len(text) || !impl.JourOk(packed) || impl.JourPack(packed) != packed {
			t.Fatalf("%q is packed as %q", text, packed)
		}
		if len(packed) < len(text) {
			shorter++
		}
	}
	if shorter < 200 {
		t.Errorf("only %d are shorter", shorter)
	}
	gone := lineOf(0, "a", sumOf("x")) + lineOf(1, "a", "-") + lineOf(2, "b", "-")
	if got := impl.JourPack(gone); got != "" || !impl.JourOk(gone) {
		t.Errorf("of what stands for nothing there is %q", got)
	}
	if got := impl.JourPack(full("ddd")); got != packedJour(full("ddd")) || strings.Count(got, "\n") != 4 {
		t.Errorf("a full journal is packed as %q", got)
	}
}

// P32, P36: texts that are no journals, or in part.
func TestJournalsChangedAnyhow(t *testing.T) {
	c := newChance()
	words := []string{" ", "\n", "0", "1", "a", "f", "g", "-", "A", "\x00", "\xff", "00", "é"}
	for range 4 {
		for _, text := range c.changes(c.jour(1+c.Intn(4)), words...) {
			checkJour(t, text)
		}
	}
}
