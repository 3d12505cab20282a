package impl

import (
	"errors"
	"iter"
	"strconv"
	"strings"
)

// Limits of trees.
const (
	TreeMaxNodes = 20
	TreeMaxDepth = 6
	TreeMaxId    = 999
	TreeMaxText  = 12
	NameMax      = 8
)

// treeIdFigures is how many figures TreeMaxId has.
const treeIdFigures = 3

// Tree is a document, or something in it: its number, its kind, its text, and what is in it.
type Tree struct {
	Id   int
	Kind string
	Text string
	Kids []Tree
}

// TreeOk says whether a tree is ok.
func TreeOk(t Tree) bool {
	seen := map[int]bool{}
	for spot := range treeSpots(t) {
		id := spot.thing.Id
		if spot.level > TreeMaxDepth || len(seen) == TreeMaxNodes || seen[id] || !treeThingOk(spot.thing) {
			return false
		}
		seen[id] = true
	}
	return true
}

// treeThingOk says whether a thing is ok, what is in it not being looked at.
func treeThingOk(t Tree) bool {
	return t.Id >= 1 && t.Id <= TreeMaxId && nameOk(t.Kind) &&
		len(t.Text) <= TreeMaxText && textHasOnly(t.Text, isTreeText)
}

func nameOk(text string) bool {
	return len(text) >= 1 && len(text) <= NameMax && textHasOnly(text, isLetter)
}

func textHasOnly(text string, is func(byte) bool) bool {
	for i := range len(text) {
		if !is(text[i]) {
			return false
		}
	}
	return true
}

func isLetter(b byte) bool {
	return b >= 'a' && b <= 'z'
}

func isFigure(b byte) bool {
	return b >= '0' && b <= '9'
}

func isTreeText(b byte) bool {
	return b >= 32 && b <= 126 && b != '"'
}

// treeSpot is a thing of a tree, the number of that in which it is, and its level.
type treeSpot struct {
	thing Tree
	over  int
	level int
}

// treeSpots goes through all things of a tree, each ahead of those in it.
// It goes no further than it is asked to: a tree that is not ok may have no end.
func treeSpots(t Tree) iter.Seq[treeSpot] {
	return func(yield func(treeSpot) bool) {
		treeWalk(treeSpot{thing: t, level: 1}, yield)
	}
}

func treeWalk(spot treeSpot, yield func(treeSpot) bool) bool {
	if !yield(spot) {
		return false
	}
	for _, kid := range spot.thing.Kids {
		if !treeWalk(treeSpot{thing: kid, over: spot.thing.Id, level: spot.level + 1}, yield) {
			return false
		}
	}
	return true
}

// treeThing is a leaf or a branch: these are written unlike.
type treeThing interface {
	written() string
}

type treeLeaf struct {
	kind string
	id   int
	text string
}

type treeBranch struct {
	treeLeaf
	kids []Tree
}

func treeThingOf(t Tree) treeThing {
	leaf := treeLeaf{kind: t.Kind, id: t.Id, text: t.Text}
	if len(t.Kids) == 0 {
		return leaf
	}
	return treeBranch{treeLeaf: leaf, kids: t.Kids}
}

func (leaf treeLeaf) written() string {
	head := leaf.kind + "#" + strconv.Itoa(leaf.id)
	if leaf.text == "" {
		return head
	}
	return head + `"` + leaf.text + `"`
}

func (branch treeBranch) written() string {
	var kids []string
	for _, kid := range branch.kids {
		kids = append(kids, treeThingOf(kid).written())
	}
	return branch.treeLeaf.written() + "[" + strings.Join(kids, ",") + "]"
}

// TreeWrite writes a tree.
func TreeWrite(t Tree) string {
	if !TreeOk(t) {
		return ""
	}
	return treeThingOf(t).written()
}

// errNotSo is the fault of a text that is not written as it must be.
var errNotSo = errors.New("the text is not written so")

// textReader is a text and how far it is read. It panics where the text is not written as it must be.
type textReader struct {
	text string
	at   int
}

// readText is what read makes of a text, and true; nothing and false, if it panics.
func readText[T any](read func() T) (value T, ok bool) {
	defer func() {
		ok = recover() == nil
	}()
	value = read()
	return
}

func (r *textReader) must(right bool) {
	if !right {
		panic(errNotSo)
	}
}

func (r *textReader) atEnd() bool {
	return r.at == len(r.text)
}

// skip says whether a word comes next, and if so goes behind it.
func (r *textReader) skip(word string) bool {
	if !strings.HasPrefix(r.text[r.at:], word) {
		return false
	}
	r.at += len(word)
	return true
}

func (r *textReader) want(word string) {
	r.must(r.skip(word))
}

// some reads the bytes that are such, at least one, and no more than most.
func (r *textReader) some(most int, is func(byte) bool) string {
	start := r.at
	for r.at < len(r.text) && r.at-start < most && is(r.text[r.at]) {
		r.at++
	}
	r.must(r.at > start)
	return r.text[start:r.at]
}

// bytes reads so many bytes, whatever they are.
func (r *textReader) bytes(size int) string {
	r.must(size <= len(r.text)-r.at)
	r.at += size
	return r.text[r.at-size : r.at]
}

func (r *textReader) name() string {
	return r.some(NameMax, isLetter)
}

// number reads a number of at most so many figures, without noughts ahead.
func (r *textReader) number(most int) int {
	figures := r.some(most, isFigure)
	n, err := strconv.Atoi(figures)
	r.must(err == nil && strconv.Itoa(n) == figures)
	return n
}

// treeCursor reads a tree. It counts the room for more things itself, for a text
// may go on, and deeper, far behind the limits.
type treeCursor struct {
	textReader
	room int
}

// TreeRead reads a tree.
func TreeRead(text string) (Tree, bool) {
	cursor := treeCursor{textReader: textReader{text: text}, room: TreeMaxNodes}
	return readText(cursor.tree)
}

func (c *treeCursor) tree() Tree {
	t := c.thing()
	c.must(c.atEnd() && TreeOk(t))
	return t
}

func (c *treeCursor) thing() Tree {
	c.must(c.room > 0)
	c.room--
	t := Tree{Kind: c.name()}
	c.want("#")
	t.Id = c.number(treeIdFigures)
	if c.skip(`"`) {
		t.Text = c.some(TreeMaxText, isTreeText)
		c.want(`"`)
	}
	if c.skip("[") {
		t.Kids = c.things()
	}
	return t
}

func (c *treeCursor) things() []Tree {
	list := []Tree{c.thing()}
	for c.skip(",") {
		list = append(list, c.thing())
	}
	c.want("]")
	return list
}

// treeSpotOf is where a number is in a tree that is ok.
func treeSpotOf(t Tree, id int) (treeSpot, bool) {
	if !TreeOk(t) {
		return treeSpot{}, false
	}
	for spot := range treeSpots(t) {
		if spot.thing.Id == id {
			return spot, true
		}
	}
	return treeSpot{}, false
}

// treeCopy is a tree that is ok in new memory.
func treeCopy(t Tree) Tree {
	var kids []Tree
	for _, kid := range t.Kids {
		kids = append(kids, treeCopy(kid))
	}
	return Tree{Id: t.Id, Kind: t.Kind, Text: t.Text, Kids: kids}
}

// TreeFind is what has a number.
func TreeFind(t Tree, id int) (Tree, bool) {
	spot, ok := treeSpotOf(t, id)
	return treeCopy(spot.thing), ok
}

// TreeIds is all numbers of a tree, in order.
func TreeIds(t Tree) []int {
	if !TreeOk(t) {
		return nil
	}
	var ids []int
	for spot := range treeSpots(t) {
		ids = append(ids, spot.thing.Id)
	}
	return ids
}

// TreeOver is the number of that in which something is; 0 for the outermost, -1 if it is not there.
func TreeOver(t Tree, id int) int {
	spot, ok := treeSpotOf(t, id)
	if !ok {
		return -1
	}
	return spot.over
}

// TreeSame says whether two trees are the same.
func TreeSame(a Tree, b Tree) bool {
	written := TreeWrite(a)
	return written != "" && written == TreeWrite(b)
}
