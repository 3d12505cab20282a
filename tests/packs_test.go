package tests

import (
	"slices"
	"strconv"
	"strings"
	"testing"

	"loop.example/codicil/impl"
)

// checkDelta holds DeltaMake against the document's words, and DeltaDo of it, if both texts may be packed.
func checkDelta(t *testing.T, old, now string) string {
	t.Helper()
	want := deltaOf(old, now)
	got := impl.DeltaMake(old, now)
	if got != want {
		t.Fatalf("%q is made of %q by %q, not %q", now, old, got, want)
	}
	if len(old) > 6000 || len(now) > 6000 {
		return got
	}
	if made, ok := impl.DeltaDo(old, got); !ok || made != now {
		t.Fatalf("%q is made of %q by %q, which makes %q, %v", now, old, got, made, ok)
	}
	return got
}

// P64: what a delta makes of a text is the text that it was made for.
func TestDeltasAreMadeAndDone(t *testing.T) {
	c := newChance()
	shorter := 0
	for range 300 {
		texts := append(c.related(6), c.alike(6)...)
		for range 8 {
			old, now := c.word(texts...), c.word(texts...)
			if delta := checkDelta(t, old, now); len(delta) < len(now) {
				shorter++
			}
			if own := checkDelta(t, now, now); len(own) > 16 {
				t.Fatalf("%q is made of itself by %q", now, own)
			}
		}
	}
	if shorter < 300 {
		t.Errorf("only %d are shorter", shorter)
	}
}

// All texts of few letters: what comes again and again, and what stands at many places.
func TestDeltasOfTextsThatComeAgain(t *testing.T) {
	c := newChance()
	few := func(most int) string {
		text := ""
		for range c.Intn(most) {
			text += c.word("a", "a", "a", "b")
		}
		return text
	}
	for range 3000 {
		checkDelta(t, few(60), few(40))
	}
}

func TestKnownDeltas(t *testing.T) {
	for _, c := range []struct{ old, now, want string }{
		{"", "", ""}, {"abcdef", "", ""}, {"", "a", "+1:a"}, {"", "abcdefghij", "+10:abcdefghij"}, {"abcde", "abcde", "+5:abcde"}, {"abcdef", "abcdef", "=0,6;"},
		{"abcdefghi", "abcde", "+5:abcde"}, {"abcdefghi", "defghi", "=3,6;"}, {"abcdefghi", "efghi", "+5:efghi"}, {"abcdef", "abcdefg", "=0,6;+1:g"}, {"abcdef", "xabcdef", "+1:x=0,6;"},
		{"abcdef", "abcdefabcdef", "=0,6;=0,6;"}, {"abcdef--abcdefg", "abcdefg", "=8,7;"}, {"abcdef--abcdef", "abcdef", "=0,6;"}, {"abcdefg--abcdefh--abcdefg", "abcdefg", "=0,7;"},
		{"aaaaaaaaaa", "aaaaaa", "=0,6;"}, {"aaaaaa", "aaaaaaaaaaaaa", "=0,6;=0,6;+1:a"}, {"abcdefghijkl", "abcdef!ghijkl", "=0,6;+1:!=6,6;"},
		{"abcdef", "xyabcdezabcdef", "+8:xyabcdez=0,6;"},   // what is too short goes with what is new
		{"abcdefXXcdefghij", "abcdefghij", "=0,6;+4:ghij"}, // what is longest here counts, though less be left by another way
		{"abcdefXXbcdefghij", "abcdefghij", "=0,6;+4:ghij"}, {"+6:=0,6;", "+6:=0,6;", "=0,8;"}, {"\x00\xff\n\x80;,", "\x00\xff\n\x80;,", "=0,6;"}, {"éééa", "ééé", "=0,6;"},
	} {
		if got := checkDelta(t, c.old, c.now); got != c.want {
			t.Errorf("%q is made of %q by %q, not %q", c.now, c.old, got, c.want)
		}
	}
}

func TestDeltasAtTheLimits(t *testing.T) {
	c := newChance()
	most, more := c.long(6000), c.long(6001)
	for _, pair := range [][2]string{{most, most}, {most, ""}, {"", most}, {most, most[3000:] + most[:3000]}, {most[:3000], most}, {most, c.long(6000)}, {strings.Repeat("a", 6000), strings.Repeat("a", 6000)}, {strings.Repeat("a", 2999), strings.Repeat("a", 6000)}} {
		delta := impl.DeltaMake(pair[0], pair[1])
		if got, ok := impl.DeltaDo(pair[0], delta); !ok || got != pair[1] {
			t.Errorf("a text of %d bytes of one of %d: %d, %v", len(pair[1]), len(pair[0]), len(got), ok)
		}
	}
	if got := impl.DeltaMake(most, most); got != "=0,6000;" {
		t.Errorf("6000 bytes of themselves: %q", got)
	}
	if got := impl.DeltaMake(strings.Repeat("a", 2999), strings.Repeat("a", 6000)); got != "=0,2999;=0,2999;+2:aa" {
		t.Errorf("6000 bytes of 2999: %q", got)
	}
	for _, pair := range [][2]string{{more, more}, {more, ""}, {"", more}, {more, "x"}, {"x", more}, {more, most}, {most, more}} {
		if got := impl.DeltaMake(pair[0], pair[1]); got != "" {
			t.Errorf("a text of %d bytes of one of %d: %q", len(pair[1]), len(pair[0]), got)
		}
	}
	for _, d := range []struct {
		old, delta string
		size       int // -1, if it cannot be done
	}{
		{most, "=0,6000;", 6000}, {most, "=0,6000;+1:x", -1}, {most, "+1:x=0,6000;", -1}, {most, "+1:x=0,5999;", 6000}, {most, "=0,3000;=0,3000;", 6000}, {most, "=0,3000;=0,3001;", -1},
		{"", "+6000:" + most, 6000}, {"", "+6001:" + more, -1}, {"", "+3000:" + most[:3000] + "+3000:" + most[:3000], 6000}, {"", "+3000:" + most[:3000] + "+3001:" + most[:3001], -1},
		{more, "=0,6000;", 6000}, {more, "=1,6000;", 6000}, {more, "=2,6000;", -1}, {more, "=0,6001;", -1}, {more, "", 0}, // the old text may be longer
		{strings.Repeat("x", 999_999), "=999998,1;", 1}, {strings.Repeat("x", 1_000_001), "=999999,1;", 1}, {strings.Repeat("x", 1_000_001), "=1000000,1;", -1}, {"", "+000001:x", -1},
		{"x", strings.Repeat("=0,1;", 6000), 6000}, {"x", strings.Repeat("=0,1;", 6001), -1}, {"", strings.Repeat("+1:x", 6001), -1},
	} {
		got, ok := impl.DeltaDo(d.old, d.delta)
		if ok != (d.size >= 0) || len(got) != max(0, d.size) {
			t.Errorf("%.20q of %d bytes: %d, %v, not %d", d.delta, len(d.old), len(got), ok, d.size)
		}
	}
}

func checkDone(t *testing.T, old, delta string) bool {
	t.Helper()
	want, can := doneBy(old, delta)
	got, ok := impl.DeltaDo(old, delta)
	if got != want || ok != can {
		t.Fatalf("%q makes of %q %q, %v, not %q, %v", delta, old, got, ok, want, can)
	}
	return ok
}

// P65: a delta that can be done makes just what its pieces say.
func TestDeltasThatCanBeDone(t *testing.T) {
	c := newChance()
	done, not := 0, 0
	for range 2000 {
		texts := append(c.related(5), c.long(3000), c.long(5990))
		old := c.word(texts...)
		delta := c.pieces(old)
		if !checkDone(t, old, delta) {
			not++
			continue
		}
		done++
		made, _ := impl.DeltaDo(old, delta)
		behind, ok := impl.DeltaDo(old, delta+impl.DeltaMake(old, old))
		if fits := len(made)+len(old) <= 6000; ok != fits || ok && behind != made+old || !ok && behind != "" {
			t.Fatalf("%q and behind it the old text of %d bytes make %d, %v", delta, len(old), len(behind), ok)
		}
	}
	if done < 500 || not < 300 {
		t.Errorf("%d can be done, %d cannot", done, not)
	}
}

// pieces is pieces by chance, most of which are right.
func (c chance) pieces(old string) string {
	out := ""
	for range c.Intn(6) {
		if c.Intn(2) == 0 {
			text := c.word("a", "bc", "=0,1;", "+1:", "\x00\xff", c.long(1+c.Intn(40)))
			out += newPiece(text)
			continue
		}
		from := c.Intn(len(old) + 1)
		size := 1 + c.Intn(len(old)-from+1)
		out += oldPiece(from, size)
	}
	if c.Intn(8) == 0 {
		out += c.word("+", "=", "+0:", "=0,0;", "+2:x", "x", ";", "=0,1", "=0,1,", "+1;x", "=,1;", "=0,;")
	}
	return out
}

func TestDeltasThatCannotBeDone(t *testing.T) {
	old := "abcdefghij"
	for _, delta := range []string{
		"+", "+:", "+0:", "+1", "+1:", "+2:x", "+01:x", "+00:", "+-1:x", "++1:x", "+1;x", "+1,x", "+ 1:x", " +1:x", "+1 :x", "+1:xx", "+x:x", "+1000000:" + strings.Repeat("x", 1_000_000), "+0000001:x", "+18446744073709551617:x",
		"=", "=0", "=0,", "=0,1", "=,1;", "=0,;", "=0;1;", "=0,1,", "=0,0;", "=0,01;", "=00,1;", "=01,1;", "=-1,1;", "=0,-1;", "=+0,1;", "=0, 1;", "=0 ,1;", "= 0,1;", "=0,1 ;", "=0,1; ", " =0,1;", "=0,1;\n",
		"=0,11;", "=10,1;", "=9,2;", "=11,1;", "=1,10;", "=999999,1;", "=1,999999;", "=999999,999999;", "=0,1000000;", "=0,0000001;", "=18446744073709551616,1;", "=0,18446744073709551617;", "=9223372036854775807,1;", "=5,9223372036854775807;",
		"x", ";", ":", ",", "-1:x", "\x00", "\n", "0,1;", "1:x", "=0,1;x", "+1:x;", "=a,1;", "=0x1,1;", "=1_0,1;", "w1:x", "=0.0,1;", "＝0,1;", "=٠,1;",
	} {
		for _, ahead := range []string{"", "=0,3;", "+2:xy"} {
			if got, ok := impl.DeltaDo(old, ahead+delta); ok || got != "" {
				t.Errorf("%.40q makes %q", ahead+delta, got)
			}
			checkDone(t, old, ahead+delta)
		}
	}
	for _, delta := range []string{"", "=0,10;", "=9,1;", "=0,1;=0,1;=9,1;", "+1:++1:=", "+10:=0,10;=9,1", "+2:\x00\xff", "+1:a+1:b"} {
		if !checkDone(t, old, delta) {
			t.Errorf("%q cannot be done", delta)
		}
	}
	c := newChance()
	for _, now := range []string{"abcdef!abcdefghij", "xyz", "jihgfedcba", "abcdefabcdef"} {
		for _, delta := range c.changes(impl.DeltaMake(old, now), "+", "=", "0", "1", ",", ";", ":", "9", "-", "x", "\x00", "=0,6;", "+1:z") {
			checkDone(t, old, delta)
		}
	}
}

// somePacked are objects that can be packed.
func somePacked() [][]impl.Object {
	c := newChance()
	list := [][]impl.Object{nil, {}, underSums(""), underSums("x"), underSums("", "x"), underSums("w1:x", "d1:x"), underSums(c.long(6000)), underSums(c.long(6000), c.long(6000), ""), chained(60), chained(12)}
	for range 120 {
		list = append(list, underSums(c.related(59)...))
	}
	for range 60 {
		list = append(list, underSums(c.related(6)...), underSums(c.alike(30)...))
	}
	straight, many := line(20), ladder(24)
	return append(list, straight.objs(), many.objs())
}

// chained is so many objects, each of which is shorter by a delta of any other.
func chained(count int) []impl.Object {
	var texts []string
	for at := range count {
		texts = append(texts, "a text that comes again and again, with the number "+strconv.Itoa(at))
	}
	return underSums(texts...)
}

// P66, P67: objects can be packed and unpacked without a change, and a pack is never much longer than what is in it.
func TestObjectsArePackedAndUnpacked(t *testing.T) {
	deltas := 0
	for _, list := range somePacked() {
		want, chains := packOf(list)
		text := impl.PackWrite(list)
		if text != want || text == "" {
			t.Fatalf("%v are packed as %q, not %q", list, text, want)
		}
		if got, ok := impl.PackRead(text); !ok || !slices.Equal(got, list) || !impl.ObjOk(got) || impl.PackWrite(got) != text {
			t.Fatalf("%q is unpacked as %v, %v", text, got, ok)
		}
		most := 64
		for at, object := range list {
			most += len(object.Text) + 8
			if got := impl.PackChain(list, at); got != chains[at] || got < 0 || got > 3 || at == 0 && got != 0 {
				t.Fatalf("%d deltas lead to the object %d of %q, not %d", got, at, text, chains[at])
			}
			deltas += min(1, chains[at])
		}
		if len(text) > most {
			t.Fatalf("%v are packed in %d bytes", list, len(text))
		}
		for _, at := range []int{-1, len(list), len(list) + 1, -1 << 63, 1<<63 - 1} {
			if got := impl.PackChain(list, at); got != -1 {
				t.Fatalf("%d deltas lead to the object %d of %d", got, at, len(list))
			}
		}
	}
	if deltas < 300 {
		t.Errorf("only %d deltas", deltas)
	}
}

// Behind three deltas one is written as a whole; so is one that would not be shorter.
func TestChains(t *testing.T) {
	list := chained(60)
	for at := range list {
		if got := impl.PackChain(list, at); got != at%4 {
			t.Errorf("%d deltas lead to the object %d", got, at)
		}
	}
	for _, size := range []int{5, 6, 7, 8} {
		checkWritten(t, size, "", size > 5)
	}
	checkWritten(t, 7, "!", false)
	checkWritten(t, 8, "!", false) // the delta is as long
	checkWritten(t, 9, "!", true)
}

// checkWritten asks how an object is written that is the beginning of the one ahead of it, and more.
func checkWritten(t *testing.T, size int, more string, byDelta bool) {
	t.Helper()
	for at := range 1000 {
		long := strconv.Itoa(1000+at) + "abcdefgh"
		text := long[:size] + more
		list := underSums(long, text)
		if list[0].Text != long {
			continue
		}
		want, entry := 0, entryOf("w", text)
		if byDelta {
			want, entry = 1, entryOf("d", deltaOf(long, text))
		}
		body := entryOf("w", long) + entry
		if got := impl.PackWrite(list); got != sumOf(body)+body || impl.PackChain(list, 1) != want {
			t.Errorf("%q behind %q: %q, and %d deltas lead there", text, long, got, impl.PackChain(list, 1))
		}
		return
	}
	t.Errorf("%d bytes come behind none", size)
}

func TestPacksAtTheLimits(t *testing.T) {
	c := newChance()
	most, more := c.long(6000), c.long(6001)
	for name, list := range map[string][]impl.Object{
		"61 objects": chained(61), "6001 bytes": underSums(more), "6001 bytes among others": underSums("x", more, "y", most), "many objects": chained(1000), "6001 bytes alike": underSums(most, most+"x"),
	} {
		if text := impl.PackWrite(list); text != "" {
			t.Errorf("%s: packed as %d bytes", name, len(text))
		}
		for at := range list[:min(len(list), 62)] {
			if got := impl.PackChain(list, at); got != -1 {
				t.Errorf("%s: %d deltas lead to the object %d", name, got, at)
			}
		}
	}
	for name, list := range map[string][]impl.Object{"60 objects": chained(60), "6000 bytes": underSums(most), "6000 bytes among others": underSums("x", most, "y", most[1:])} {
		if got, ok := impl.PackRead(impl.PackWrite(list)); !ok || !slices.Equal(got, list) {
			t.Errorf("%s: unpacked as %d, %v", name, len(got), ok)
		}
	}
}

func TestObjectsThatAreNotOkAreNotPacked(t *testing.T) {
	for name, list := range badObjs() {
		if text := impl.PackWrite(list); text != "" || impl.PackChain(list, 0) != -1 || impl.PackChain(list, len(list)-1) != -1 || impl.PackChain(list, -1) != -1 {
			t.Errorf("%s: packed as %q", name, text)
		}
	}
}

// entryOf is an object as a pack may have it, be it right or not.
func entryOf(mark, text string) string {
	return mark + strconv.Itoa(len(text)) + ":" + text
}

func checkPackRead(t *testing.T, text string) bool {
	t.Helper()
	want, right := packOfText(text)
	got, ok := impl.PackRead(text)
	if ok != right || !slices.Equal(got, want) {
		t.Fatalf("%q is unpacked as %v, %v, not %v", text, got, ok, want)
	}
	if ok && (!impl.ObjOk(got) || impl.PackWrite(got) != text) {
		t.Fatalf("%q is unpacked as %v, and packed as %q", text, got, impl.PackWrite(got))
	}
	return ok
}

// P66: packs under their own sum, but written otherwise than they are.
func TestNothingElseIsReadAsPack(t *testing.T) {
	two := chained(2)
	a, b := two[0].Text, two[1].Text
	delta, whole := entryOf("d", deltaOf(a, b)), entryOf("w", a)
	if !checkPackRead(t, sumOf(whole+delta)+whole+delta) {
		t.Fatal("two objects are not unpacked")
	}
	for name, body := range map[string]string{
		"as a whole, though there is a delta": whole + entryOf("w", b), "another delta": whole + entryOf("d", "+1:"+b[:1]+"+"+strconv.Itoa(len(b)-1)+":"+b[1:]), "a delta at first": delta, "a delta of the empty text": "d4:+1:x",
		"another order": entryOf("w", b) + entryOf("d", deltaOf(b, a)), "one twice": whole + entryOf("d", deltaOf(a, a)), "one twice as a whole": whole + whole, "a delta that cannot be done": whole + entryOf("d", "=0,999;"), "an empty delta": whole + "d0:",
		"no mark": "1:x", "another mark": "x1:x", "a large mark": "W1:x", "no size": "w:x", "no colon": "w1x", "noughts ahead": "w01:x", "less than it says": "w2:x", "more than it says": "w1:xy", "below nothing": "w-1:x", "a sign": "w+1:x", "a space": "w 1:x",
		"a newline behind": whole + "\n", "cut off": whole[:len(whole)-1], "a beginning": whole + "w", "a size alone": whole + "w1", "a size and a colon": whole + "w1:", "a size without end": "w" + strings.Repeat("9", 100) + ":x", "a size of seven": "w1000000:" + strings.Repeat("x", 1_000_000),
	} {
		if checkPackRead(t, sumOf(body)+body) {
			t.Errorf("%s: it is unpacked", name)
		}
	}
	c := newChance()
	for _, body := range []string{"", "w1:x", whole + delta, impl.PackWrite(underSums("", "x", "abcdef"))[64:]} {
		for _, changed := range c.changes(body, "w", "d", "0", "1", ":", "x", "\x00", "w0:", "w1:y", "=0,6;") {
			checkPackRead(t, sumOf(changed)+changed)
		}
	}
}

// Deltas behind three others, and objects behind sixty others, are not read either.
func TestPacksBehindTheLimitsAreNotRead(t *testing.T) {
	c := newChance()
	list := chained(61)
	written := func(whole func(at int) bool) string {
		body := ""
		for at, object := range list {
			if whole(at) {
				body += entryOf("w", object.Text)
			} else {
				body += entryOf("d", deltaOf(list[at-1].Text, object.Text))
			}
		}
		return sumOf(body) + body
	}
	if checkPackRead(t, written(func(at int) bool { return at%4 == 0 })) {
		t.Error("61 objects are unpacked")
	}
	list = list[:60]
	if !checkPackRead(t, written(func(at int) bool { return at%4 == 0 })) {
		t.Error("60 objects are not unpacked")
	}
	for name, whole := range map[string]func(int) bool{
		"all but the first by deltas": func(at int) bool { return at == 0 }, "all as wholes": func(at int) bool { return true }, "behind two deltas": func(at int) bool { return at%3 == 0 }, "one delta too many": func(at int) bool { return at%4 == 0 && at != 56 },
	} {
		if checkPackRead(t, written(whole)) {
			t.Errorf("%s: it is unpacked", name)
		}
	}
	for size, ok := range map[int]bool{6000: true, 6001: false} {
		body := entryOf("w", c.long(size))
		if checkPackRead(t, sumOf(body)+body) != ok {
			t.Errorf("%d bytes are unpacked: %v", size, !ok)
		}
	}
}

func TestPacksThatAreSpoiled(t *testing.T) {
	for _, list := range [][]impl.Object{nil, underSums("x"), chained(5), underSums("", "x", "y")} {
		text := impl.PackWrite(list)
		for at := range len(text) {
			spoiled := []byte(text)
			spoiled[at] ^= 1
			got, ok := impl.PackRead(string(spoiled))
			cut, short := impl.PackRead(text[:at])
			behind, later := impl.PackRead(text[at+1:])
			if ok || short || later || len(got)+len(cut)+len(behind) != 0 {
				t.Fatalf("%q, spoiled or cut off at %d, is unpacked as %v, %v, %v", text, at, got, cut, behind)
			}
		}
		for _, more := range []string{" ", "\n", "x", "w0:", text} {
			if got, ok := impl.PackRead(text + more); ok || len(got) != 0 {
				t.Fatalf("%q with %q is unpacked as %v", text, more, got)
			}
		}
		if got, ok := impl.PackRead(strings.ToUpper(text[:64]) + text[64:]); ok || len(got) != 0 {
			t.Fatalf("%q under a sum of large figures is unpacked as %v", text, got)
		}
	}
}
