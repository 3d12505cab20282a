package tests

import (
	"fmt"
	"slices"
	"strconv"
	"strings"

	"loop.example/codicil/impl"
)

// What this file has says anew, in the plainest way, what the document says of
// steps, differences, ways, and steps that meet.

func put(id, at int, node impl.Tree) impl.Step {
	return impl.Step{Kind: impl.StepPut, Id: id, At: at, Node: node}
}

func cut(id int) impl.Step {
	return impl.Step{Kind: impl.StepCut, Id: id}
}

func worded(id int, text string) impl.Step {
	return impl.Step{Kind: impl.StepText, Id: id, Text: text}
}

func kinded(id int, kind string) impl.Step {
	return impl.Step{Kind: impl.StepKind, Id: id, Text: kind}
}

func sameStep(a, b impl.Step) bool {
	return a.Kind == b.Kind && a.Id == b.Id && a.At == b.At && a.Text == b.Text && sameTree(a.Node, b.Node)
}

func sameSteps(a, b []impl.Step) bool {
	return slices.EqualFunc(a, b, sameStep)
}

// plainStep says whether a step has just what its kind has.
func plainStep(s impl.Step) bool {
	switch s.Kind {
	case 1:
		return sameStep(s, put(s.Id, s.At, s.Node)) && rightTree(s.Node)
	case 2:
		return sameStep(s, cut(s.Id))
	case 3:
		return sameStep(s, worded(s.Id, s.Text))
	case 4:
		return sameStep(s, kinded(s.Id, s.Text))
	}
	return false
}

// thingOf is what has a number in a tree.
func thingOf(t impl.Tree, id int) (impl.Tree, bool) {
	for _, p := range placesOf(t) {
		if p.thing.Id == id {
			return p.thing, true
		}
	}
	return impl.Tree{}, false
}

// spotOf is in what something is, and at which place there.
func spotOf(t impl.Tree, id int) (over, at int) {
	for _, p := range placesOf(t) {
		for at, kid := range p.thing.Kids {
			if kid.Id == id {
				return p.thing.Id, at
			}
		}
	}
	return 0, 0
}

// rebuilt is what comes of a thing, if each thing in it is gone or becomes another one; the outermost first.
func rebuilt(t impl.Tree, change func(impl.Tree) (impl.Tree, bool)) (impl.Tree, bool) {
	t, stays := change(t)
	var kids []impl.Tree
	for _, kid := range t.Kids {
		if made, there := rebuilt(kid, change); there {
			kids = append(kids, made)
		}
	}
	t.Kids = kids
	return t, stays
}

// stepped is a tree that is right behind a step.
func stepped(t impl.Tree, s impl.Step) (impl.Tree, bool) {
	thing, there := thingOf(t, s.Id)
	if !there || !plainStep(s) || s.Kind == 1 && (s.At < 0 || s.At > len(thing.Kids) || sharing(t, s.Node)) {
		return t, false
	}
	made, stays := rebuilt(t, func(now impl.Tree) (impl.Tree, bool) {
		if now.Id != s.Id {
			return now, true
		}
		switch s.Kind {
		case 1:
			now.Kids = slices.Concat(now.Kids[:s.At], []impl.Tree{s.Node}, now.Kids[s.At:])
		case 3:
			now.Text = s.Text
		case 4:
			now.Kind = s.Text
		}
		return now, s.Kind != 2
	})
	if !stays || !rightTree(made) {
		return t, false
	}
	return made, true
}

// sharing says whether two trees have a number in common.
func sharing(a, b impl.Tree) bool {
	return slices.ContainsFunc(idsOf(a), func(id int) bool { return slices.Contains(idsOf(b), id) })
}

// undoing is the step that undoes one that can be done.
func undoing(t impl.Tree, s impl.Step) impl.Step {
	thing, _ := thingOf(t, s.Id)
	switch s.Kind {
	case 1:
		return cut(s.Node.Id)
	case 2:
		over, at := spotOf(t, s.Id)
		return put(over, at, thing)
	case 3:
		return worded(s.Id, thing.Text)
	default:
		return kinded(s.Id, thing.Kind)
	}
}

// longestOf is a table of how long the longest list is that both lists have from two places on.
func longestOf(a, b []int) [][]int {
	table := make([][]int, len(a)+1)
	for i := range table {
		table[i] = make([]int, len(b)+1)
	}
	for i := len(a) - 1; i >= 0; i-- {
		for j := len(b) - 1; j >= 0; j-- {
			if a[i] == b[j] {
				table[i][j] = table[i+1][j+1] + 1
			} else {
				table[i][j] = max(table[i+1][j], table[i][j+1])
			}
		}
	}
	return table
}

func sharedOf(a, b []int) []int {
	table := longestOf(a, b)
	var list []int
	for i, j := 0, 0; i < len(a) && j < len(b); {
		if a[i] == b[j] {
			list = append(list, a[i])
			i, j = i+1, j+1
		} else if table[i+1][j] >= table[i][j+1] {
			i++
		} else {
			j++
		}
	}
	return list
}

func kidIdsOf(t impl.Tree) []int {
	var ids []int
	for _, kid := range t.Kids {
		ids = append(ids, kid.Id)
	}
	return ids
}

// keptOf is the numbers of what is kept.
func keptOf(a, b impl.Tree) map[int]bool {
	kept := map[int]bool{b.Id: true}
	for _, p := range placesOf(b) {
		if kept[p.thing.Id] {
			was, _ := thingOf(a, p.thing.Id)
			for _, id := range sharedOf(kidIdsOf(was), kidIdsOf(p.thing)) {
				kept[id] = true
			}
		}
	}
	return kept
}

// differing is the steps that make a tree another one with the same outermost number.
func differing(a, b impl.Tree) []impl.Step {
	kept := keptOf(a, b)
	var cuts, words, puts []impl.Step
	for _, p := range placesOf(b) {
		id := p.thing.Id
		if !kept[id] {
			if kept[p.over] {
				over, at := spotOf(b, id)
				puts = append(puts, put(over, at, p.thing))
			}
			continue
		}
		was, _ := thingOf(a, id)
		for _, kid := range was.Kids {
			if !kept[kid.Id] {
				cuts = append(cuts, cut(kid.Id))
			}
		}
		if was.Kind != p.thing.Kind {
			words = append(words, kinded(id, p.thing.Kind))
		}
		if was.Text != p.thing.Text {
			words = append(words, worded(id, p.thing.Text))
		}
	}
	return slices.Concat(cuts, words, puts)
}

// costOf is the least cost over all of Tai's mappings, each of which is tried: for small trees only.
func costOf(a, b impl.Tree) int {
	from, to := placesOf(a), placesOf(b)
	inside := func(list []place, low, high int) bool {
		return slices.Contains(idsOf(list[high].thing), list[low].thing.Id)
	}
	best := len(from) + len(to)
	var pairs [][2]int
	var try func(i, cost int)
	try = func(i, cost int) {
		if i == len(from) {
			best = min(best, cost+len(to)-len(pairs))
			return
		}
		try(i+1, cost+1)
		next := 0
		if len(pairs) > 0 {
			next = pairs[len(pairs)-1][1] + 1
		}
		for j := next; j < len(to); j++ {
			fits := true
			for _, pair := range pairs {
				fits = fits && inside(from, i, pair[0]) == inside(to, j, pair[1])
			}
			if fits {
				pairs = append(pairs, [2]int{i, j})
				try(i+1, cost+unlike(from[i].thing, to[j].thing))
				pairs = pairs[:len(pairs)-1]
			}
		}
	}
	try(0, 0)
	return best
}

func unlike(a, b impl.Tree) int {
	if a.Kind == b.Kind && a.Text == b.Text {
		return 0
	}
	return 1
}

// forests finds costs by what becomes of the last of the outermost things, and keeps what it found.
type forests map[string]int

func (f forests) cost(a, b []impl.Tree) int {
	if len(a) == 0 || len(b) == 0 {
		return thingsOf(a) + thingsOf(b)
	}
	key := fmt.Sprint(a, "/", b)
	if cost, known := f[key]; known {
		return cost
	}
	restA, lastA := a[:len(a)-1], a[len(a)-1]
	restB, lastB := b[:len(b)-1], b[len(b)-1]
	cost := min(
		1+f.cost(slices.Concat(restA, lastA.Kids), b),
		1+f.cost(a, slices.Concat(restB, lastB.Kids)),
		unlike(lastA, lastB)+f.cost(lastA.Kids, lastB.Kids)+f.cost(restA, restB),
	)
	f[key] = cost
	return cost
}

func thingsOf(list []impl.Tree) int {
	count := 0
	for _, t := range list {
		count += len(placesOf(t))
	}
	return count
}

// wayOf is the way to a thing.
func wayOf(t impl.Tree, id int) string {
	if t.Id == id {
		return t.Kind
	}
	for at, kid := range t.Kids {
		if rest := wayOf(kid, id); rest != "" {
			ahead := 0
			for _, other := range t.Kids[:at] {
				if other.Kind == kid.Kind {
					ahead++
				}
			}
			return t.Kind + "/" + kid.Kind + "." + strconv.Itoa(ahead) + rest[len(kid.Kind):]
		}
	}
	return ""
}

// walked is the number to which one comes by a way, word by word.
func walked(t impl.Tree, way string) int {
	words := strings.Split(way, "/")
	if words[0] != t.Kind {
		return 0
	}
	for _, word := range words[1:] {
		kind, figures, _ := strings.Cut(word, ".")
		ahead, err := strconv.Atoi(figures)
		if err != nil || strconv.Itoa(ahead) != figures || ahead < 0 {
			return 0
		}
		alike := slices.DeleteFunc(slices.Clone(t.Kids), func(kid impl.Tree) bool { return kid.Kind != kind })
		if ahead >= len(alike) {
			return 0
		}
		t = alike[ahead]
	}
	return t.Id
}

// meeting says whether two steps to a tree that is right meet.
func meeting(t impl.Tree, s, u impl.Step) bool {
	_, first := stepped(t, s)
	_, second := stepped(t, u)
	if !first || !second || reaching(t, s, u) || reaching(t, u, s) {
		return true
	}
	if s.Kind != u.Kind {
		return false
	}
	if s.Kind != impl.StepPut {
		return s.Id == u.Id
	}
	return s.Id == u.Id && s.At == u.At || sharing(s.Node, u.Node)
}

func reaching(t impl.Tree, s, u impl.Step) bool {
	thing, _ := thingOf(t, s.Id)
	return s.Kind == impl.StepCut && slices.Contains(idsOf(thing), u.Id)
}

// moved is a step as it is to be done behind one that it does not meet.
func moved(t impl.Tree, s, u impl.Step) impl.Step {
	if u.Kind != impl.StepPut {
		return u
	}
	holder, _ := thingOf(t, u.Id)
	if s.Kind == impl.StepPut && s.Id == u.Id && s.At < u.At {
		u.At++
	} else if s.Kind == impl.StepCut && slices.Contains(kidIdsOf(holder)[:u.At], s.Id) {
		u.At--
	}
	return u
}

func textOfStep(s impl.Step) string {
	switch s.Kind {
	case 1:
		return fmt.Sprintf("put %d %d %s\n", s.Id, s.At, textOfTree(s.Node))
	case 2:
		return fmt.Sprintf("cut %d\n", s.Id)
	case 3:
		return fmt.Sprintf("text %d %s\n", s.Id, s.Text)
	default:
		return fmt.Sprintf("kind %d %s\n", s.Id, s.Text)
	}
}

func textOfSteps(list []impl.Step) string {
	out := ""
	for _, s := range list {
		if !plainStep(s) {
			return ""
		}
		out += textOfStep(s)
	}
	return out
}

// step is a step that can often be done to a tree, and now and then cannot.
func (c chance) step(t impl.Tree) impl.Step {
	ids := idsOf(t)
	id := ids[c.Intn(len(ids))]
	if c.Intn(16) == 0 {
		id = c.Intn(1003) - 1
	}
	thing, _ := thingOf(t, id)
	switch c.Intn(4) {
	case 0:
		at := c.Intn(len(thing.Kids) + 1)
		if c.Intn(16) == 0 {
			at = c.Intn(24) - 2
		}
		return put(id, at, c.small())
	case 1:
		return cut(id)
	case 2:
		return worded(id, c.word("", "x", "y", "a b", "twelve bytes", "#1[", c.word("x", "y", "thirteen text", `"`)))
	default:
		return kinded(id, c.word("a", "b", "z", "doc", "abcdefgh", "text", c.word("a", "b", "abcdefghi", "", "A")))
	}
}

// small is a tree of few things.
func (c chance) small() impl.Tree {
	ids, room := c.Perm(999), 1+c.Intn(3)
	if c.Intn(4) == 0 {
		ids = c.Perm(24)
	}
	return c.grown(&ids, &room, 4)
}

// doable is a step that can be done to a tree.
func (c chance) doable(t impl.Tree) impl.Step {
	for {
		s := c.step(t)
		if _, can := stepped(t, s); can {
			return s
		}
	}
}

// doables is steps that can be done one behind the other.
func (c chance) doables(t impl.Tree, count int) []impl.Step {
	var list []impl.Step
	for range count {
		s := c.doable(t)
		list = append(list, s)
		t, _ = stepped(t, s)
	}
	return list
}

func steppedAll(t impl.Tree, list []impl.Step) impl.Tree {
	for _, s := range list {
		t, _ = stepped(t, s)
	}
	return t
}

// shuffled is a tree with its things in another order, and some in others.
func (c chance) shuffled(t impl.Tree) impl.Tree {
	made, _ := rebuilt(t, func(now impl.Tree) (impl.Tree, bool) {
		kids := slices.Clone(now.Kids)
		if c.Intn(2) == 0 {
			c.Shuffle(len(kids), func(i, j int) { kids[i], kids[j] = kids[j], kids[i] })
		}
		now.Kids = kids
		return now, true
	})
	for range c.Intn(4) {
		ids := idsOf(made)
		id := ids[c.Intn(len(ids))]
		thing, _ := thingOf(made, id)
		without, can := stepped(made, cut(id))
		if holders := idsOf(without); can {
			if next, fits := stepped(without, put(holders[c.Intn(len(holders))], 0, thing)); fits {
				made = next
			}
		}
	}
	return made
}

// pair is two trees with one outermost number.
func (c chance) pair() (impl.Tree, impl.Tree) {
	a := c.tree()
	switch c.Intn(4) {
	case 0:
		b := c.tree()
		renumber(&a, 1)
		renumber(&b, 1)
		return a, b
	case 1:
		return a, c.shuffled(a)
	case 2:
		return a, steppedAll(a, c.doables(a, 1+c.Intn(6)))
	default:
		b := c.shuffled(a)
		return a, steppedAll(b, c.doables(b, c.Intn(6)))
	}
}
