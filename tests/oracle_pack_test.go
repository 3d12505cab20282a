package tests

import (
	"regexp"
	"strconv"
	"strings"

	"loop.example/codicil/impl"
)

// What this file has says anew, in the plainest way, what the document says of packs.

// deltaOf is the delta that makes a text of another one.
func deltaOf(old, now string) string {
	if len(old) > 6000 || len(now) > 6000 {
		return ""
	}
	out, fresh := "", ""
	for now != "" {
		size := 0
		for size < len(now) && strings.Contains(old, now[:size+1]) {
			size++
		}
		if size < 6 {
			fresh += now[:1]
			now = now[1:]
			continue
		}
		out += newPiece(fresh) + oldPiece(strings.Index(old, now[:size]), size)
		fresh = ""
		now = now[size:]
	}
	return out + newPiece(fresh)
}

func newPiece(text string) string {
	if text == "" {
		return ""
	}
	return "+" + strconv.Itoa(len(text)) + ":" + text
}

func oldPiece(from, size int) string {
	return "=" + strconv.Itoa(from) + "," + strconv.Itoa(size) + ";"
}

var (
	newForm = regexp.MustCompile(`^\+([1-9][0-9]{0,5}):`)
	oldForm = regexp.MustCompile(`^=(0|[1-9][0-9]{0,5}),([1-9][0-9]{0,5});`)
)

// doneBy is what a delta makes of a text.
func doneBy(old, delta string) (string, bool) {
	out := ""
	for delta != "" {
		if m := newForm.FindStringSubmatch(delta); m != nil {
			size, _ := strconv.Atoi(m[1])
			if delta = delta[len(m[0]):]; size > len(delta) {
				return "", false
			}
			out += delta[:size]
			delta = delta[size:]
		} else if m := oldForm.FindStringSubmatch(delta); m != nil {
			from, _ := strconv.Atoi(m[1])
			size, _ := strconv.Atoi(m[2])
			if from+size > len(old) {
				return "", false
			}
			out += old[from : from+size]
			delta = delta[len(m[0]):]
		} else {
			return "", false
		}
		if len(out) > 6000 {
			return "", false
		}
	}
	return out, true
}

// packOf is a pack, and how many deltas lead to each object; nothing, if the objects cannot be packed.
func packOf(list []impl.Object) (string, []int) {
	if len(list) > 60 || !rightObjs(list) {
		return "", nil
	}
	out := ""
	var chains []int
	for at, object := range list {
		if len(object.Text) > 6000 {
			return "", nil
		}
		chain := 0
		entry := "w" + strconv.Itoa(len(object.Text)) + ":" + object.Text
		if at > 0 && chains[at-1] < 3 {
			if delta := deltaOf(list[at-1].Text, object.Text); len(delta) < len(object.Text) {
				chain = chains[at-1] + 1
				entry = "d" + strconv.Itoa(len(delta)) + ":" + delta
			}
		}
		out += entry
		chains = append(chains, chain)
	}
	return sumOf(out) + out, chains
}

var entryForm = regexp.MustCompile(`^([wd])([0-9]+):`)

// packOfText reads loosely, and then asks whether the text is just what is written of what it read.
func packOfText(text string) ([]impl.Object, bool) {
	rest := text[min(64, len(text)):]
	var list []impl.Object
	last := ""
	for rest != "" {
		m := entryForm.FindStringSubmatch(rest)
		if m == nil {
			return nil, false
		}
		size, _ := strconv.Atoi(m[2])
		rest = rest[len(m[0]):]
		size = min(size, len(rest))
		if m[1] == "w" {
			last = rest[:size]
		} else {
			last, _ = doneBy(last, rest[:size])
		}
		list = append(list, impl.Object{Key: sumOf(last), Text: last})
		rest = rest[size:]
	}
	if written, _ := packOf(list); written == "" || written != text {
		return nil, false
	}
	return list, true
}

// related is texts, most of which have pieces of others.
func (c chance) related(most int) []string {
	words := []string{"a", "b", "abcdef", "abcdefgh", "ghijkl", "+1:", "=0,6;", "\x00", "\xff\xfe", "\n", "tree ", "note ", "aaaaaa", "xyzxyzxyz"}
	texts := []string{""}
	for range c.Intn(most + 1) {
		text := c.word(texts...)
		if c.Intn(3) == 0 {
			text = ""
		}
		for range c.Intn(6) {
			at := c.Intn(len(text) + 1)
			text = text[:at] + c.word(words...) + text[at+c.Intn(min(4, len(text)-at+1)):]
		}
		texts = append(texts, text)
	}
	return texts
}

// alike is texts that have most of one text.
func (c chance) alike(most int) []string {
	one := c.long(8 + c.Intn(60))
	var texts []string
	for range c.Intn(most + 1) {
		text := one[c.Intn(4):]
		for range c.Intn(4) {
			at := c.Intn(len(text) + 1)
			text = text[:at] + c.word("x", "yz", one[:6], "") + text[at+c.Intn(min(4, len(text)-at+1)):]
		}
		texts = append(texts, text)
	}
	return texts
}

// long is a text of so many bytes, of which no piece of six comes twice close by.
func (c chance) long(size int) string {
	bytes := make([]byte, size)
	for i := range bytes {
		bytes[i] = byte('a' + c.Intn(26))
	}
	return string(bytes)
}
