package tests

import (
	"fmt"
	"math/rand"
	"regexp"
	"strconv"
	"strings"

	"loop.example/codicil/impl"
)

// What this file has says anew, in the plainest way, what the document says of
// trees and schemas, so that the program is held against something else than itself.

var (
	nameForm = regexp.MustCompile(`^[a-z]{1,8}$`)
	textForm = regexp.MustCompile(`^[ !#-~]{0,12}$`)
)

// place is a thing of a tree, the number of that in which it is, and its level.
type place struct {
	thing impl.Tree
	over  int
	level int
}

// placesOf is a tree and all in it, each ahead of those in it.
func placesOf(t impl.Tree) []place {
	return placesUnder(t, 0, 1)
}

func placesUnder(t impl.Tree, over, level int) []place {
	list := []place{{t, over, level}}
	for _, kid := range t.Kids {
		list = append(list, placesUnder(kid, t.Id, level+1)...)
	}
	return list
}

func idsOf(t impl.Tree) []int {
	var ids []int
	for _, p := range placesOf(t) {
		ids = append(ids, p.thing.Id)
	}
	return ids
}

func rightTree(t impl.Tree) bool {
	seen := map[int]bool{}
	for _, p := range placesOf(t) {
		id := p.thing.Id
		if id < 1 || id > 999 || seen[id] || p.level > 6 {
			return false
		}
		if !nameForm.MatchString(p.thing.Kind) || !textForm.MatchString(p.thing.Text) {
			return false
		}
		seen[id] = true
	}
	return len(seen) <= 20
}

func textOfTree(t impl.Tree) string {
	out := t.Kind + "#" + strconv.Itoa(t.Id)
	if t.Text != "" {
		out += `"` + t.Text + `"`
	}
	var kids []string
	for _, kid := range t.Kids {
		kids = append(kids, textOfTree(kid))
	}
	if len(kids) > 0 {
		out += "[" + strings.Join(kids, ",") + "]"
	}
	return out
}

// treeOfText reads loosely, and then asks whether the text is just what is written of what it read.
func treeOfText(text string) (impl.Tree, bool) {
	t, _ := looseTree(text)
	if !rightTree(t) || textOfTree(t) != text {
		return impl.Tree{}, false
	}
	return t, true
}

func looseTree(text string) (impl.Tree, string) {
	kind, rest, _ := strings.Cut(text, "#")
	figures := len(rest) - len(strings.TrimLeft(rest, "0123456789"))
	id, _ := strconv.Atoi(rest[:figures])
	t := impl.Tree{Id: id, Kind: kind}
	rest = rest[figures:]
	if strings.HasPrefix(rest, `"`) {
		t.Text, rest, _ = strings.Cut(rest[1:], `"`)
	}
	for open := "["; strings.HasPrefix(rest, open); open = "," {
		var kid impl.Tree
		kid, rest = looseTree(rest[1:])
		t.Kids = append(t.Kids, kid)
	}
	if len(t.Kids) > 0 {
		rest = strings.TrimPrefix(rest, "]")
	}
	return t, rest
}

func sameTree(a, b impl.Tree) bool {
	if a.Id != b.Id || a.Kind != b.Kind || a.Text != b.Text || len(a.Kids) != len(b.Kids) {
		return false
	}
	for i := range a.Kids {
		if !sameTree(a.Kids[i], b.Kids[i]) {
			return false
		}
	}
	return true
}

func rightSchema(s impl.Schema) bool {
	ruled := map[string]int{}
	for _, rule := range s.Rules {
		ruled[rule.Kind]++
	}
	for _, rule := range s.Rules {
		if !nameForm.MatchString(rule.Kind) || rule.Kind == "text" || ruled[rule.Kind] > 1 || len(rule.Kids) > 4 {
			return false
		}
		for _, item := range rule.Kids {
			if ruled[item.Kind] == 0 || item.Many && item.May {
				return false
			}
		}
	}
	return len(s.Rules) >= 1 && len(s.Rules) <= 6 && ruled[s.Root] == 1
}

func markOf(item impl.Item) string {
	if item.Many {
		return "*"
	}
	if item.May {
		return "?"
	}
	return ""
}

func textOfSchema(s impl.Schema) string {
	out := "root " + s.Root + "\n"
	for _, rule := range s.Rules {
		out += rule.Kind
		if rule.Text {
			out += " text"
		}
		out += ":"
		for _, item := range rule.Kids {
			out += " " + item.Kind + markOf(item)
		}
		out += "\n"
	}
	return out
}

// schemaOfText reads loosely, and then asks whether the text is just what is written of what it read.
func schemaOfText(text string) (impl.Schema, bool) {
	lines := strings.Split(text, "\n")
	s := impl.Schema{Root: strings.TrimPrefix(lines[0], "root ")}
	for _, line := range lines[1:] {
		if line != "" {
			s.Rules = append(s.Rules, looseRule(line))
		}
	}
	if !rightSchema(s) || textOfSchema(s) != text {
		return impl.Schema{}, false
	}
	return s, true
}

func looseRule(line string) impl.Rule {
	head, items, _ := strings.Cut(line, ":")
	kind, text := strings.CutSuffix(head, " text")
	rule := impl.Rule{Kind: kind, Text: text}
	for _, word := range strings.Fields(items) {
		item := impl.Item{Kind: word}
		item.Kind, item.Many = strings.CutSuffix(item.Kind, "*")
		item.Kind, item.May = strings.CutSuffix(item.Kind, "?")
		rule.Kids = append(rule.Kids, item)
	}
	return rule
}

func sameSchema(a, b impl.Schema) bool {
	return a.Root == b.Root && fmt.Sprint(a.Rules) == fmt.Sprint(b.Rules)
}

// ruleForms are made once each.
var ruleForms = map[string]*regexp.Regexp{}

// ruleForm is a rule's items as a regular expression over kinds, each with a space behind it.
func ruleForm(items []impl.Item) *regexp.Regexp {
	form := "^"
	for _, item := range items {
		form += "(?:" + item.Kind + " )" + markOf(item)
	}
	if ruleForms[form] == nil {
		ruleForms[form] = regexp.MustCompile(form + "$")
	}
	return ruleForms[form]
}

func kindsFit(form *regexp.Regexp, kinds []string) bool {
	joined := ""
	for _, kind := range kinds {
		joined += kind + " "
	}
	return len(kinds) <= 20 && form.MatchString(joined)
}

// fitting says of a schema and a tree that are right whether the tree is as the schema says.
func fitting(s impl.Schema, t impl.Tree) bool {
	rules := map[string]impl.Rule{}
	for _, rule := range s.Rules {
		rules[rule.Kind] = rule
	}
	for _, p := range placesOf(t) {
		rule, there := rules[p.thing.Kind]
		if !there || p.thing.Text != "" && !rule.Text || !kindsFit(ruleForm(rule.Kids), kindsOf(p.thing.Kids)) {
			return false
		}
	}
	return t.Kind == s.Root
}

func kindsOf(list []impl.Tree) []string {
	var kinds []string
	for _, t := range list {
		kinds = append(kinds, t.Kind)
	}
	return kinds
}

// chance gives the same trees, schemas and changes in each run.
type chance struct{ *rand.Rand }

func newChance() chance {
	return chance{rand.New(rand.NewSource(7))}
}

func (c chance) word(list ...string) string {
	return list[c.Intn(len(list))]
}

func (c chance) text() string {
	return c.word("", "", "x", "a b", " ", "#1", "[,]", "~!#$%&'()*+,", "}{|", "twelve bytes")
}

// tree is a tree that is right.
func (c chance) tree() impl.Tree {
	ids := c.Perm(999)
	room := 1 + c.Intn(20)
	if c.Intn(3) == 0 {
		ids = c.Perm(20)
	}
	return c.grown(&ids, &room, 1)
}

func (c chance) grown(ids *[]int, room *int, level int) impl.Tree {
	t := impl.Tree{Id: 1 + (*ids)[0], Kind: c.word("a", "b", "z", "doc", "text", "abcdefgh"), Text: c.text()}
	*ids = (*ids)[1:]
	*room--
	for *room > 0 && level < 6 && c.Intn(3+level) > 1 {
		t.Kids = append(t.Kids, c.grown(ids, room, level+1))
	}
	return t
}

// schema is a schema that is right.
func (c chance) schema() impl.Schema {
	kinds := []string{"a", "b", "texts", "sec", "abcdefgh", "z"}
	c.Shuffle(len(kinds), func(i, j int) { kinds[i], kinds[j] = kinds[j], kinds[i] })
	kinds = kinds[:1+c.Intn(len(kinds))]
	s := impl.Schema{Root: c.word(kinds...)}
	for _, kind := range kinds {
		rule := impl.Rule{Kind: kind, Text: c.Intn(2) == 0}
		for range c.Intn(5) {
			mark := c.Intn(3)
			rule.Kids = append(rule.Kids, impl.Item{Kind: c.word(kinds...), Many: mark == 1, May: mark == 2})
		}
		s.Rules = append(s.Rules, rule)
	}
	return s
}

// changes is a text with each of its bytes gone, doubled, and another one; each cut end; and words more.
func (c chance) changes(text string, words ...string) []string {
	list := []string{"", text + text}
	for i := range len(text) {
		list = append(list, text[:i], text[:i]+text[i+1:], text[:i+1]+text[i:])
		list = append(list, text[:i]+c.word(words...)+text[i:], text[:i]+c.word(words...)+text[i+1:])
	}
	for _, word := range words {
		list = append(list, text+word, word+text)
	}
	return list
}
