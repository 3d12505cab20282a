package tests

import (
	"fmt"
	"strings"
	"testing"

	"loop.example/codicil/impl"
)

// lineOfCmd is a line of a session for a command; one of the fields may have a space, and then it is none.
func lineOfCmd(c impl.Cmd) string {
	switch c.Kind {
	case 1:
		return strings.Join([]string{"commit", c.Name, c.Note, c.Tree}, " ")
	case 2:
		return "branch " + c.Name + " " + c.From
	case 3:
		return "merge " + c.Name + " " + c.From + " " + c.Note
	case 4:
		return "drop " + c.Name
	case 5:
		return "sweep"
	default:
		return "pack"
	}
}

// P51: a session tells just what its lines do.
func TestSessionsByChance(t *testing.T) {
	c := newChance()
	for at := range 12 {
		schema := []string{plainSchema, orderedSchema}[at%2]
		s, _ := schemaOfText(schema)
		l := impl.LibNew(s)
		var lines []string
		for range 60 {
			lines = append(lines, c.sessionLine(l))
			if cmd, is := saidBy(lines[len(lines)-1]); is {
				l, _ = impl.LibDo(l, cmd)
			}
		}
		lines = append(lines, "see")
		got := impl.LibSession(schema, lines)
		if want := session(schema, lines); got != want {
			t.Fatalf("%q is answered by %q, not %q", lines, got, want)
		}
		if strings.Count(got, "\n") < len(lines) || !strings.HasSuffix(got, impl.LibSee(l)) {
			t.Fatalf("%q is answered by %q, and the library shows %q", lines, got, impl.LibSee(l))
		}
	}
}

func (c chance) sessionLine(l impl.Lib) string {
	switch n := c.Intn(20); {
	case n == 0:
		return c.word("", " ", "see ", "See", "what", "commit", "sweep ", " pack", "drop", "branch a", "\n", "packs")
	case n < 3:
		return "see"
	}
	return lineOfCmd(c.cmd(l))
}

// P51: each kind of line, and each that is none.
func TestLinesOfSessions(t *testing.T) {
	for line, want := range map[string]string{
		"commit main n a#1": "code 0\n", "commit main  a#1": "code 0\n", "commit main n ": "code 4\n", "commit  n a#1": "code 1\n", "commit   ": "code 1\n", "commit main thirteen-byte a#1": "code 1\n", "commit main n\n a#1": "code 1\n", "commit main n b#1": "code 5\n", "commit MAIN n a#1": "code 1\n",
		"commit main n": "what\n", "commit main": "what\n", "commit": "what\n", "commit main n a#1 ": "what\n", " commit main n a#1": "what\n", "commit main a b a#1": "what\n", `commit main n a#1"x y"`: "what\n", "commit\tmain n a#1": "what\n", "Commit main n a#1": "what\n", "commits main n a#1": "what\n", "commit  main n a#1": "what\n",
		"branch new old": "code 0\n", "branch old new": "code 2\n", "branch old old": "code 3\n", "branch  old": "code 1\n", "branch new ": "code 1\n", "branch  ": "code 1\n", "branch new": "what\n", "branch ": "what\n", "branch": "what\n", "branch new old n": "what\n", "branch new old ": "what\n", "branch new  old": "what\n",
		"merge old old n": "code 6\n", "merge old old ": "code 6\n", "merge old none n": "code 2\n", "merge  old n": "code 1\n", "merge old  n": "code 1\n", "merge   ": "code 1\n", "merge old work": "what\n", "merge old": "what\n", "merge": "what\n", "merge old work a b": "what\n", "merge old work n ": "what\n",
		"drop old": "code 0\n", "drop none": "code 2\n", "drop ": "code 1\n", "drop old\n": "code 1\n", "drop": "what\n", "drop old ": "what\n", "drop  old": "what\n", "drop old work": "what\n", "dropold": "what\n",
		"sweep": "code 0\n", "sweep ": "what\n", " sweep": "what\n", "sweep main": "what\n", "Sweep": "what\n", "sweep\n": "what\n", "sweepsweep": "what\n",
		"pack": "code 0\n", "pack ": "what\n", "pack main": "what\n", "packs": "what\n", "PACK": "what\n", "\npack": "what\n",
		"see ": "what\n", " see": "what\n", "see main": "what\n", "See": "what\n", "see\n": "what\n", "": "what\n", " ": "what\n", "\n": "what\n", "what": "what\n", "\x00": "what\n", "\xff\xfe": "what\n", "code 0": "what\n", "no schema": "what\n", "library": "what\n", "é": "what\n",
	} {
		lines := []string{"commit old n a#9", line}
		if got := impl.LibSession(plainSchema, lines); got != "code 0\n"+want || session(plainSchema, lines) != got {
			t.Errorf("%q is answered by %q, not %q", line, got, want)
		}
	}
	if got := impl.LibSession(plainSchema, []string{"see", "see"}); got != "library\nlibrary\n" {
		t.Errorf("nothing is seen as %q", got)
	}
	if got := impl.LibSession(plainSchema, nil); got != "" {
		t.Errorf("no lines are answered by %q", got)
	}
}

func TestSessionsWithoutSchema(t *testing.T) {
	lines := []string{"see", "commit main n a#1", "what", "pack"}
	for _, schema := range []string{"", "\n", "root a\n", "root a\na:", "root a\na: b\n", " " + plainSchema, plainSchema + "\n", "root text\ntext:\n"} {
		for _, some := range [][]string{lines, nil} {
			if got := impl.LibSession(schema, some); got != "no schema\n" {
				t.Errorf("%q: a session is answered by %q", schema, got)
			}
		}
	}
	for _, s := range edgeSchemas() {
		if got := impl.LibSession(textOfSchema(s), lines[:1]); got != "library\n" {
			t.Errorf("%q: a session is answered by %q", textOfSchema(s), got)
		}
	}
}

// The document's own example.
func TestSessionOfTheDocument(t *testing.T) {
	lines := strings.Split(`commit main first doc#1[title#2"a",sec#3[par#4"one"]]
branch work main
commit main left doc#1[title#2"b",sec#3[par#4"one"]]
commit work right doc#1[title#2"a",sec#3[par#4"one",par#5"two"]]
merge main work both
commit work more doc#1[title#2"c",sec#3[par#4"one",par#5"two"]]
merge main work no
commit main bad doc#1[par#2]
branch main work
merge main none x
drop work
sweep
pack
see
what`, "\n")
	codes := ""
	for _, code := range []int{0, 0, 0, 0, 0, 0, 7, 5, 3, 2, 0, 0, 0} {
		codes += fmt.Sprintf("code %d\n", code)
	}
	want := codes + `library
main
  ad83e40c doc#1[title#2"b",sec#3[par#4"one",par#5"two"]] both
  68f2c6a0 doc#1[title#2"a",sec#3[par#4"one",par#5"two"]] right
  9206bc1c doc#1[title#2"b",sec#3[par#4"one"]] left
  e39501a9 doc#1[title#2"a",sec#3[par#4"one"]] first
what
`
	if got := impl.LibSession(sampleSchema, lines); got != want || session(sampleSchema, lines) != want {
		t.Errorf("the example is answered by %q", got)
	}
}

// What a session has done stays for its next lines, and only for these.
func TestSessionsGoOn(t *testing.T) {
	var lines []string
	for at := range 30 {
		lines = append(lines, fmt.Sprintf(`commit main %d a#1"%d"`, at, at))
	}
	lines = append(lines, "branch work main", "see")
	got := impl.LibSession(plainSchema, lines)
	if got != session(plainSchema, lines) || strings.Count(got, "code 0\n") != 23 || strings.Count(got, "code 8\n") != 8 || strings.Count(got, "\n  ") != 44 {
		t.Errorf("thirty commits are answered by %q", got)
	}
	if again := impl.LibSession(plainSchema, lines); again != got {
		t.Errorf("the same session once more: %q", again)
	}
	full := []string{`commit main n a#1`}
	for at := range 90 {
		full = append(full, []string{"branch work main", "drop work"}[at%2])
	}
	full = append(full, "pack", "branch work main", "see")
	if got := impl.LibSession(plainSchema, full); got != session(plainSchema, full) || !strings.Contains(got, "code 8\n") || !strings.Contains(got, "work\n") {
		t.Errorf("a full journal is answered by %q", got)
	}
}
