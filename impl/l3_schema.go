package impl

import (
	"errors"
	"slices"
	"strings"
)

// Limits of schemas.
const (
	SchemaMaxRules = 6
	SchemaMaxItems = 4
)

// schemaNoKind is no rule's kind, for in a rule's line it has a meaning of its own.
const schemaNoKind = "text"

// Item is a kind of what may come: any number of them, one or none, or just one.
type Item struct {
	Kind string
	Many bool
	May  bool
}

// Rule says of a kind whether it may have a text, and what may be in it, in order.
type Rule struct {
	Kind string
	Text bool
	Kids []Item
}

// Schema is rules, and of what kind the outermost is.
type Schema struct {
	Root  string
	Rules []Rule
}

// Faults of a schema, and of what is not as it says.
var (
	errNoRule   = errors.New("the kind has no rule")
	errRules    = errors.New("too many rules")
	errRuleKind = errors.New("no kind of a rule, or one that another rule has")
	errItems    = errors.New("too many items, or one that is both many and may")
	errText     = errors.New("a text against the rule")
	errKids     = errors.New("kinds against the rule")
)

// SchemaOk says whether a schema is ok.
func SchemaOk(s Schema) bool {
	return schemaFault(s) == nil
}

// schemaFault is what is wrong with a schema; nil if nothing is.
func schemaFault(s Schema) error {
	if len(s.Rules) > SchemaMaxRules {
		return errRules
	}
	for at, rule := range s.Rules {
		if !nameOk(rule.Kind) || rule.Kind == schemaNoKind || schemaHas(s.Rules[:at], rule.Kind) {
			return errRuleKind
		}
		if fault := schemaItemsFault(s, rule.Kids); fault != nil {
			return fault
		}
	}
	if !schemaHas(s.Rules, s.Root) {
		return errNoRule
	}
	return nil
}

func schemaItemsFault(s Schema, items []Item) error {
	if len(items) > SchemaMaxItems {
		return errItems
	}
	for _, item := range items {
		if item.Many && item.May {
			return errItems
		}
		if !schemaHas(s.Rules, item.Kind) {
			return errNoRule
		}
	}
	return nil
}

func schemaRule(rules []Rule, kind string) (Rule, error) {
	for _, rule := range rules {
		if rule.Kind == kind {
			return rule, nil
		}
	}
	return Rule{}, errNoRule
}

func schemaHas(rules []Rule, kind string) bool {
	_, fault := schemaRule(rules, kind)
	return !errors.Is(fault, errNoRule)
}

// SchemaWrite writes a schema.
func SchemaWrite(s Schema) string {
	if !SchemaOk(s) {
		return ""
	}
	var out strings.Builder
	out.WriteString("root " + s.Root + "\n")
	for _, rule := range s.Rules {
		out.WriteString(schemaRuleLine(rule))
	}
	return out.String()
}

func schemaRuleLine(rule Rule) string {
	line := rule.Kind
	if rule.Text {
		line += " text"
	}
	line += ":"
	for _, item := range rule.Kids {
		line += " " + schemaItemWord(item)
	}
	return line + "\n"
}

func schemaItemWord(item Item) string {
	switch {
	case item.Many:
		return item.Kind + "*"
	case item.May:
		return item.Kind + "?"
	default:
		return item.Kind
	}
}

type schemaCursor struct {
	textReader
}

// SchemaRead reads a schema.
func SchemaRead(text string) (Schema, bool) {
	cursor := schemaCursor{textReader{text: text}}
	return readText(cursor.schema)
}

func (c *schemaCursor) schema() Schema {
	c.want("root ")
	s := Schema{Root: c.name()}
	c.want("\n")
	for !c.atEnd() {
		s.Rules = append(s.Rules, c.rule())
	}
	c.must(SchemaOk(s))
	return s
}

func (c *schemaCursor) rule() Rule {
	rule := Rule{Kind: c.name()}
	rule.Text = c.skip(" text")
	c.want(":")
	for c.skip(" ") {
		rule.Kids = append(rule.Kids, c.item())
	}
	c.want("\n")
	return rule
}

func (c *schemaCursor) item() Item {
	item := Item{Kind: c.name()}
	item.Many = c.skip("*")
	item.May = c.skip("?")
	return item
}

// schemaCopy is a schema that is ok in new memory.
func schemaCopy(s Schema) Schema {
	var rules []Rule
	for _, rule := range s.Rules {
		rule.Kids = slices.Clone(rule.Kids)
		rules = append(rules, rule)
	}
	return Schema{Root: s.Root, Rules: rules}
}

// schemaState says whether just these kinds may come from here on.
type schemaState func(kinds []string) bool

// schemaMachine is the state ahead of all items.
func schemaMachine(items []Item) schemaState {
	state := schemaState(func(kinds []string) bool {
		return len(kinds) == 0
	})
	for at := len(items) - 1; at >= 0; at-- {
		state = schemaItemState(items[at], state)
	}
	return state
}

// schemaItemState is the state ahead of an item, next being the one behind it.
// It tries all shares: what an item could take may be needed by one that follows.
func schemaItemState(item Item, next schemaState) schemaState {
	takes := func(kinds []string) bool {
		return len(kinds) > 0 && kinds[0] == item.Kind
	}
	switch {
	case item.Many:
		return func(kinds []string) bool {
			for takes(kinds) && !next(kinds) {
				kinds = kinds[1:]
			}
			return next(kinds)
		}
	case item.May:
		return func(kinds []string) bool {
			return next(kinds) || takes(kinds) && next(kinds[1:])
		}
	default:
		return func(kinds []string) bool {
			return takes(kinds) && next(kinds[1:])
		}
	}
}

// SchemaKids says whether kinds may be in one, in this order.
func SchemaKids(s Schema, kind string, kinds []string) bool {
	if !SchemaOk(s) {
		return false
	}
	rule, fault := schemaRule(s.Rules, kind)
	return !errors.Is(fault, errNoRule) && ruleTakes(rule, kinds)
}

func ruleTakes(rule Rule, kinds []string) bool {
	return len(kinds) <= TreeMaxNodes && schemaMachine(rule.Kids)(kinds)
}

// SchemaFits says whether a tree is as a schema says.
func SchemaFits(s Schema, t Tree) bool {
	if !SchemaOk(s) || !TreeOk(t) || t.Kind != s.Root {
		return false
	}
	for spot := range treeSpots(t) {
		if schemaThingFault(s, spot.thing) != nil {
			return false
		}
	}
	return true
}

// schemaThingFault is what is wrong with a thing by a schema that is ok; nil if nothing is.
func schemaThingFault(s Schema, thing Tree) error {
	rule, fault := schemaRule(s.Rules, thing.Kind)
	switch {
	case fault != nil:
		return fault
	case thing.Text != "" && !rule.Text:
		return errText
	case !ruleTakes(rule, treeKinds(thing.Kids)):
		return errKids
	}
	return nil
}

func treeKinds(list []Tree) []string {
	var kinds []string
	for _, t := range list {
		kinds = append(kinds, t.Kind)
	}
	return kinds
}
