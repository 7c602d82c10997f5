package tests

import (
	"regexp"
	"slices"
	"strings"
	"testing"

	"loop.example/surelywrong/impl"
)

// A programRow is a program and what the document says of it.
type programRow struct {
	text  string
	kind  string
	parts []string
	size  int
	loops int
}

// atomTexts are the atoms that are no test, written out so that they do not
// depend on the program.
var atomTexts = []string{".", "!", "x0", "x1", "x2", "xy", "x+", "x?", "y0", "y1", "y2", "yx", "y+", "y?"}

// atomRows returns the rows of all atoms.
func atomRows() []programRow {
	var rows []programRow
	for _, text := range atomTexts {
		rows = append(rows, programRow{text: text, kind: text, size: 1})
	}
	for _, row := range testRows {
		text := "[" + row.test + "]"
		rows = append(rows, programRow{text: text, kind: text, size: 1})
	}
	return rows
}

// pairRow returns the row of a sequence or a choice.
func pairRow(sign string, p programRow, q programRow) programRow {
	return programRow{"(" + p.text + sign + q.text + ")", sign, []string{p.text, q.text}, 1 + p.size + q.size, max(p.loops, q.loops)}
}

// loopRow returns the row of a loop.
func loopRow(p programRow) programRow {
	return programRow{"{" + p.text + "}", "{", []string{p.text}, 1 + p.size, 1 + p.loops}
}

// programRows returns rows of programs that are made of all atoms, and then
// of what has been made, as long as they are programs.
func programRows() []programRow {
	rows := atomRows()
	atoms := len(rows)
	for i := range atoms {
		rows = append(rows, loopRow(rows[i]), pairRow(";", rows[i], rows[(i*7+1)%atoms]), pairRow("|", rows[(i*5+2)%atoms], rows[i]))
	}
	for i := 0; len(rows) < 3000; i++ {
		p, q := rows[i], rows[(i*31+17)%len(rows)]
		for _, row := range []programRow{loopRow(p), pairRow(";", p, q), pairRow("|", q, p)} {
			if len(row.text) <= 60 && row.loops <= 6 {
				rows = append(rows, row)
			}
		}
	}
	return rows
}

var (
	atomPattern = regexp.MustCompile(`\[(?:[xy](?:[=#][012]|<[12])|x[=#<]y|y<x)\]|x[012y+?]|y[012x+?]|[.!]`)
	madePattern = regexp.MustCompile(`\(a[;|]a\)|\{a\}`)
)

// isProgram reports whether a text is a program, by putting an a for each atom
// and then for each program that is made of such ones, until nothing changes.
func isProgram(text string) bool {
	if len(text) > 60 || strings.Contains(text, "a") {
		return false
	}
	depth, deepest := 0, 0
	for _, c := range []byte(text) {
		switch c {
		case '{':
			depth++
			deepest = max(deepest, depth)
		case '}':
			depth--
		}
	}
	rest := atomPattern.ReplaceAllString(text, "a")
	for next := ""; next != rest; {
		next, rest = rest, madePattern.ReplaceAllString(rest, "a")
	}
	return rest == "a" && deepest <= 6
}

// programOfBytes returns a program that is just so many bytes long.
func programOfBytes(bytes int) string {
	short := []string{"", ".", "x+", "{.}", "{x+}"}
	if bytes < len(short) {
		return short[bytes]
	}
	return "(.;" + programOfBytes(bytes-4) + ")"
}

// loopsOf returns a program of so many loops within each other.
func loopsOf(loops int, body string) string {
	return strings.Repeat("{", loops) + body + strings.Repeat("}", loops)
}

// noPrograms are texts that are no program.
var noPrograms = []string{
	"", " ", "\n", "\x00", "\xff", "a", "q", "x", "y", "0", "+", "?", "=", ";", "|", "(", ")", "{", "}", "[", "]",
	"xx", "yy", "x3", "y3", "x9", "x-", "x!", "x.", "x*", "x/", "x:", "x ", "x\x00", "x\xff", "0x", "+x", "?y", "z0", "X0", "xX", "xY", "X+", "x=0", "x=y", "x0y", "x00", "x+1", "x++", "xyx", "xy0",
	"..", "!!", ".!", "x+.", "x+y+", ". ", " .", ".\n", ".\x00", "\x00.", "x +", "x+ ", " x+", "x0x0", "[x=0][x=0]", "{.}{.}", "(.;.)(.;.)",
	"[]", "[x]", "[x=]", "[x=3]", "[x>1]", "[x<0]", "[x<3]", "[y=x]", "[y#x]", "[x=x]", "[0=x]", "[x=0", "x=0]", "[x=00]", "[x=0 ]", "[ x=0]", "[[x=0]]", "[(x=0)]", "(x=0)", "{x=0}", "[x+]", "[.]", "[x=0}", "[x=0)", "{x=0]", "[x=0;x=1]", "[!x=0]", "[x=0]]", "[[x=0]", "[x=",
	"()", "{}", "(.)", "(;)", "(|)", "(.;)", "(;.)", "(.|)", "(|.)", "(..)", "(. .)", "(.,.)", "(.:.)", "(.&.)", "(.;;.)", "(.||.)", "(.;|.)", "(.;.;.)", "(.|.|.)", "(.;.|.)", "(;.;.)", "(.;.;)", "(.a.)", "(.[.)", "(.).)", "(.(.)",
	"(.;.", ".;.)", "(.;.))", "((.;.)", "((.;.))", ".;.", ".|.", "(.;.}", "{.;.)", "{.;.}", "{.|.}", "[.;.]", "( .;.)", "(. ;.)", "(.; .)", "(.;. )", "(.;.) ", " (.;.)", "(.;.).", ".(.;.)", "(.;.);.", "(.;.)|.", ".;(.;.)",
	"{.", ".}", "{.}}", "{{.}", "{.)", "(.}", "({.})", "{(.)}", "{..}", "{.{.}}", "{{.}{.}}", "{ .}", "{. }", "{.};.", "{.}.", ".{.}", "{.;}", "{;}", "*.", ".*",
	"(x+;([x=0];!)", "(x+;([x=0];!)))", "(x+([x=0];!))", "x+;([x=0];!)", "(x+;[x=0];!)", "(x+;([x=0!))",
	loopsOf(7, "."), loopsOf(8, "."), loopsOf(7, "(.|!)"), loopsOf(29, "."), "(.;" + loopsOf(7, ".") + ")", "(" + loopsOf(7, "x+") + "|.)", "{(.;{(.|{(.;{(.|{(.;{(.|{.})})})})})})}",
	programOfBytes(61), programOfBytes(62), programOfBytes(63), programOfBytes(64), programOfBytes(1000),
	strings.Repeat(".", 60), strings.Repeat("(", 60), strings.Repeat("{", 60), strings.Repeat("(.;", 20), strings.Repeat("{", 1000000), strings.Repeat("(", 1000000), strings.Repeat("(.;", 1000000), loopsOf(1000000, "."),
	strings.Repeat(".", 1000000), "." + strings.Repeat(" ", 1000000), strings.Repeat("(.;", 500000) + "." + strings.Repeat(")", 500000),
}

// checkNoProgram checks what is told of a text that is no program.
func checkNoProgram(t *testing.T, text string) {
	t.Helper()
	if impl.ProgramValid(text) {
		t.Errorf("ProgramValid(%.70q) = true", text)
	}
	if got := impl.KindOf(text); got != "" {
		t.Errorf("KindOf(%.70q) = %q", text, got)
	}
	if got := impl.PartsOf(text); len(got) != 0 {
		t.Errorf("PartsOf(%.70q) = %q", text, got)
	}
	if got := impl.SizeOf(text); got != -1 {
		t.Errorf("SizeOf(%.70q) = %d", text, got)
	}
	if got := impl.LoopsIn(text); got != -1 {
		t.Errorf("LoopsIn(%.70q) = %d", text, got)
	}
	if got, ok := impl.LoopOf(text); got != "" || ok {
		t.Errorf("LoopOf(%.70q) = %q, %v", text, got, ok)
	}
}

// checkMade checks a program that is made, where none is wanted by "".
func checkMade(t *testing.T, what string, got string, ok bool, want string) {
	t.Helper()
	if got != want || ok != (want != "") {
		t.Errorf("%.200s = %q, %v, want %q", what, got, ok, want)
	}
}

// asProgram returns a text if it is a program, and else "".
func asProgram(text string) string {
	if isProgram(text) {
		return text
	}
	return ""
}

func TestP3Limits(t *testing.T) {
	if impl.MaxProgram != 60 || impl.MaxLoops != 6 {
		t.Errorf("MaxProgram = %d, MaxLoops = %d", impl.MaxProgram, impl.MaxLoops)
	}
}

func TestP3ProgramsAndTheirParts(t *testing.T) {
	for _, row := range programRows() {
		if !isProgram(row.text) {
			t.Fatalf("the test takes %q for no program", row.text)
		}
		if !impl.ProgramValid(row.text) {
			t.Errorf("ProgramValid(%q) = false", row.text)
		}
		if got := impl.KindOf(row.text); got != row.kind {
			t.Errorf("KindOf(%q) = %q, want %q", row.text, got, row.kind)
		}
		if got := impl.PartsOf(row.text); !slices.Equal(got, row.parts) {
			t.Errorf("PartsOf(%q) = %q, want %q", row.text, got, row.parts)
		}
		if got := impl.SizeOf(row.text); got != row.size {
			t.Errorf("SizeOf(%q) = %d, want %d", row.text, got, row.size)
		}
		if got := impl.LoopsIn(row.text); got != row.loops {
			t.Errorf("LoopsIn(%q) = %d, want %d", row.text, got, row.loops)
		}
	}
}

func TestP3NoPrograms(t *testing.T) {
	for _, text := range noPrograms {
		checkNoProgram(t, text)
	}
}

func TestP3DocumentExample(t *testing.T) {
	const p = "(x+;([x=0];!))"
	if !impl.ProgramValid(p) || impl.KindOf(p) != ";" || impl.SizeOf(p) != 5 || impl.LoopsIn(p) != 0 {
		t.Errorf("ProgramValid %v, KindOf %q, SizeOf %d, LoopsIn %d", impl.ProgramValid(p), impl.KindOf(p), impl.SizeOf(p), impl.LoopsIn(p))
	}
	if got := impl.PartsOf(p); !slices.Equal(got, []string{"x+", "([x=0];!)"}) {
		t.Errorf("PartsOf(%q) = %q", p, got)
	}
	q, ok := impl.SequenceOf("[x=0]", "!")
	checkMade(t, "SequenceOf([x=0], !)", q, ok, "([x=0];!)")
	got, ok := impl.SequenceOf("x+", q)
	checkMade(t, "SequenceOf(x+, "+q+")", got, ok, p)
	got, ok = impl.IfOf("x=2", "(.|(x+|([x=2];!)))", "x0")
	checkMade(t, "IfOf(x=2, .., x0)", got, ok, "(([x=2];(.|(x+|([x=2];!))))|([x#2];x0))")
}

// TestP3ShortTexts takes all texts of up to four bytes of those that programs
// are made of.
func TestP3ShortTexts(t *testing.T) {
	const bytes = ".!xy012+?[=]#<(;|){} "
	texts := []string{""}
	for first := 0; len(texts[first]) < 4; first++ {
		for _, c := range []byte(bytes) {
			texts = append(texts, texts[first]+string(c))
		}
	}
	for _, text := range texts {
		if got := impl.ProgramValid(text); got != isProgram(text) {
			t.Errorf("ProgramValid(%q) = %v", text, got)
		}
	}
}

// TestP3TextsOfThreeBytesInBrackets takes all texts of bytes that tests are
// made of as tests of an atom.
func TestP3TextsOfThreeBytesInBrackets(t *testing.T) {
	const bytes = "xyz0123=#<>"
	for _, a := range []byte(bytes) {
		for _, b := range []byte(bytes) {
			for _, c := range []byte(bytes) {
				test := string([]byte{a, b, c})
				if got := impl.ProgramValid("[" + test + "]"); got != isTest(test) {
					t.Errorf("ProgramValid(%q) = %v", "["+test+"]", got)
				}
			}
		}
	}
}

// TestP3ChangedTexts changes programs in one place, in each way: a byte more,
// a byte less, and another byte.
func TestP3ChangedTexts(t *testing.T) {
	check := func(text string) {
		if isProgram(text) {
			if !impl.ProgramValid(text) || impl.SizeOf(text) < 1 {
				t.Errorf("ProgramValid(%q) = false", text)
			}
			return
		}
		checkNoProgram(t, text)
	}
	for _, text := range []string{"x+", "[x<y]", "{.}", "(x+;([x=0];!))", "{(x0|{yx})}", "(([x=2];x?)|([x#2];{!}))", loopsOf(6, "y?"), "({.};({x+};{(.|!)}))"} {
		for i := range len(text) + 1 {
			for c := range 256 {
				other := string([]byte{byte(c)})
				check(text[:i] + other + text[i:])
				if i < len(text) {
					check(text[:i] + other + text[i+1:])
				}
			}
			if i < len(text) {
				check(text[:i] + text[i+1:])
			}
		}
	}
}

// TestP3TextsThatGoOn takes texts that begin or end with a program, and what
// is left of programs where they are cut.
func TestP3TextsThatGoOn(t *testing.T) {
	for _, row := range programRows()[:200] {
		for _, more := range []string{" ", "\n", "\x00", ".", "x", "x+", "[x=0]", ";.", "|.", ")", "}", "]", "(", "{", "[", "(.;.)", row.text} {
			checkNoProgram(t, row.text+more)
			checkNoProgram(t, more+row.text)
		}
		for i := range len(row.text) {
			for _, cut := range []string{row.text[:i], row.text[i+1:]} {
				if !isProgram(cut) {
					checkNoProgram(t, cut)
				}
			}
		}
	}
}

// TestP3Lengths takes programs of each length up to the limit, and past it.
func TestP3Lengths(t *testing.T) {
	for bytes := 1; bytes <= 200; bytes++ {
		p := programOfBytes(bytes)
		if len(p) != bytes {
			t.Fatalf("the test makes %q for %d bytes", p, bytes)
		}
		if got := impl.ProgramValid(p); got != (bytes <= 60) {
			t.Errorf("ProgramValid of %d bytes = %v", bytes, got)
		}
		if bytes > 60 {
			checkNoProgram(t, p)
		}
	}
	long := "(x+;(x+;(x+;(x+;(x+;(x+;(x+;(x+;(x+;(x+;(x+;[x=0])))))))))))"
	if len(long) != 60 || !impl.ProgramValid(long) || impl.SizeOf(long) != 23 {
		t.Errorf("of %d bytes, ProgramValid = %v, SizeOf = %d", len(long), impl.ProgramValid(long), impl.SizeOf(long))
	}
}

func TestP3LoopsWithinEachOther(t *testing.T) {
	for loops := range 27 {
		for _, p := range []string{loopsOf(loops, "."), loopsOf(loops, "x+"), "(.;" + loopsOf(loops, ".") + ")", "(" + loopsOf(loops, "!") + "|.)"} {
			if loops > 6 {
				checkNoProgram(t, p)
			} else if !impl.ProgramValid(p) || impl.LoopsIn(p) != loops {
				t.Errorf("ProgramValid(%q) = %v, LoopsIn = %d", p, impl.ProgramValid(p), impl.LoopsIn(p))
			}
		}
	}
}

// TestP3LoopsBesideEachOther takes more loops than there may be within each
// other.
func TestP3LoopsBesideEachOther(t *testing.T) {
	for p, loops := range map[string]int{
		"({.};({.};({.};({.};({.};({.};({.};{.})))))))":               1,
		"(({.}|{.})|(({.}|{.})|(({.}|{.})|({.}|{.}))))":               1,
		"(" + loopsOf(6, ".") + ";" + loopsOf(6, ".") + ")":           6,
		"(" + loopsOf(6, ".") + "|" + loopsOf(5, ".") + ")":           6,
		"(" + loopsOf(2, ".") + ";" + loopsOf(6, ".") + ")":           6,
		"{(" + loopsOf(5, ".") + "|" + loopsOf(5, ".") + ")}":         6,
		"{({.}|{({.};{({.}|.)})})}":                                   4,
		"{({({({.}|.)}|.)}|.)}":                                       4,
		"({.}|{{(.|{(!;(x0|{yx}))})}})":                               4,
		"(" + loopsOf(3, ".") + ";(.|{" + loopsOf(1, "x?") + "}))":    3,
		"(" + loopsOf(6, ".") + ";(" + loopsOf(6, "!") + "|{[x=y]}))": 6,
	} {
		if !impl.ProgramValid(p) || impl.LoopsIn(p) != loops {
			t.Errorf("ProgramValid(%q) = %v, LoopsIn = %d, want %d", p, impl.ProgramValid(p), impl.LoopsIn(p), loops)
		}
	}
	for _, p := range []string{"{(.|" + loopsOf(6, ".") + ")}", "{(" + loopsOf(6, ".") + ";.)}", "{(" + loopsOf(5, ".") + "|" + loopsOf(6, ".") + ")}"} {
		checkNoProgram(t, p)
	}
}

func TestP3PartsOfIsNewMemory(t *testing.T) {
	for _, p := range []string{"(x+;([x=0];!))", "(.|!)", "{(.|!)}"} {
		kept, spoilt := impl.PartsOf(p), impl.PartsOf(p)
		want := slices.Clone(kept)
		spoilt = spoilt[:cap(spoilt)]
		for i := range spoilt {
			spoilt[i] = "q"
		}
		if again := impl.PartsOf(p); !slices.Equal(kept, want) || !slices.Equal(again, want) {
			t.Errorf("PartsOf(%q) = %q, then %q", p, kept, again)
		}
	}
}

// TestP3PartsMakeTheProgram takes programs apart and makes them again.
func TestP3PartsMakeTheProgram(t *testing.T) {
	for _, row := range programRows() {
		got, ok := row.text, true
		switch parts := impl.PartsOf(row.text); impl.KindOf(row.text) {
		case ";":
			got, ok = impl.SequenceOf(parts[0], parts[1])
		case "|":
			got, ok = impl.ChoiceOf(parts[0], parts[1])
		case "{":
			got, ok = impl.LoopOf(parts[0])
		}
		checkMade(t, "made again", got, ok, row.text)
	}
}

func TestP3MadeOfTwo(t *testing.T) {
	rows := programRows()
	for i, p := range rows {
		q := rows[(i*37+5)%len(rows)]
		got, ok := impl.SequenceOf(p.text, q.text)
		checkMade(t, "SequenceOf("+p.text+", "+q.text+")", got, ok, asProgram("("+p.text+";"+q.text+")"))
		got, ok = impl.ChoiceOf(p.text, q.text)
		checkMade(t, "ChoiceOf("+p.text+", "+q.text+")", got, ok, asProgram("("+p.text+"|"+q.text+")"))
	}
}

func TestP3MadeOfTwoLengths(t *testing.T) {
	for bytes := 1; bytes <= 60; bytes++ {
		for _, both := range []int{bytes, 56, 57, 58, 59} {
			if both-bytes < 1 {
				continue
			}
			p, q := programOfBytes(bytes), programOfBytes(both-bytes)
			sequence, choice := "", ""
			if both+3 <= 60 {
				sequence, choice = "("+p+";"+q+")", "("+p+"|"+q+")"
			}
			got, ok := impl.SequenceOf(p, q)
			checkMade(t, "SequenceOf("+p+", "+q+")", got, ok, sequence)
			got, ok = impl.ChoiceOf(p, q)
			checkMade(t, "ChoiceOf("+p+", "+q+")", got, ok, choice)
		}
	}
}

// TestP3MadeOfNoPrograms takes what is no program as a part, also where what
// is made of it would have the text of a program.
func TestP3MadeOfNoPrograms(t *testing.T) {
	check := func(p string, q string) {
		got, ok := impl.SequenceOf(p, q)
		checkMade(t, "SequenceOf("+p+", "+q+")", got, ok, "")
		got, ok = impl.ChoiceOf(p, q)
		checkMade(t, "ChoiceOf("+p+", "+q+")", got, ok, "")
		got, ok = impl.IfOf("x=0", p, q)
		checkMade(t, "IfOf(x=0, "+p+", "+q+")", got, ok, "")
	}
	for _, text := range noPrograms {
		for _, other := range []string{".", "x+", "{(x+|!)}", text} {
			check(text, other)
			check(other, text)
		}
	}
	check("(.;.", ".).")
	check("(.", ".);.")
	check("(x+;y+", ".)")
	check(".);(.", ".")
	check(".", ".);(.")
	check(".);(.", ".);(.")
	for _, text := range []string{".}|{.", ".};{.", "", ".}"} {
		got, ok := impl.LoopOf(text)
		checkMade(t, "LoopOf("+text+")", got, ok, "")
	}
}

func TestP3LoopOf(t *testing.T) {
	for _, row := range programRows() {
		got, ok := impl.LoopOf(row.text)
		checkMade(t, "LoopOf("+row.text+")", got, ok, asProgram("{"+row.text+"}"))
	}
	for bytes := 1; bytes <= 60; bytes++ {
		p := programOfBytes(bytes)
		want := ""
		if bytes <= 58 {
			want = "{" + p + "}"
		}
		got, ok := impl.LoopOf(p)
		checkMade(t, "LoopOf("+p+")", got, ok, want)
	}
	for _, p := range []string{loopsOf(6, "."), "(.;" + loopsOf(6, ".") + ")", "(" + loopsOf(6, ".") + "|x0)", "(" + loopsOf(6, ".") + "|" + loopsOf(1, ".") + ")"} {
		got, ok := impl.LoopOf(p)
		checkMade(t, "LoopOf("+p+")", got, ok, "")
	}
	got, ok := impl.LoopOf(loopsOf(5, "."))
	checkMade(t, "LoopOf of 5 loops", got, ok, loopsOf(6, "."))
}

func TestP3IfOf(t *testing.T) {
	for _, row := range testRows {
		for _, parts := range [][2]string{{".", "!"}, {"!", "."}, {"x+", "{(y?|[x=0])}"}, {"{x0}", "[y<x]"}} {
			want := ""
			if row.opposites != "" {
				opposite := strings.Fields(row.opposites)[0]
				want = "(([" + row.test + "];" + parts[0] + ")|([" + opposite + "];" + parts[1] + "))"
			}
			got, ok := impl.IfOf(row.test, parts[0], parts[1])
			checkMade(t, "IfOf("+row.test+", "+parts[0]+", "+parts[1]+")", got, ok, want)
		}
	}
	for _, test := range append([]string{"[x=0]", "x=0]", "[x=0", ".", "x+", "x=0];.", "x=0];(.|[x=0"}, noTests...) {
		got, ok := impl.IfOf(test, ".", ".")
		checkMade(t, "IfOf("+test+", ., .)", got, ok, "")
	}
}

func TestP3IfOfLengths(t *testing.T) {
	for bytes := 1; bytes <= 60; bytes++ {
		for both := 35; both <= 50; both++ {
			if both-bytes < 1 {
				continue
			}
			p, q := programOfBytes(bytes), programOfBytes(both-bytes)
			want := ""
			if both+19 <= 60 {
				want = "(([y=2];" + p + ")|([y#2];" + q + "))"
			}
			got, ok := impl.IfOf("y=2", p, q)
			checkMade(t, "IfOf(y=2, "+p+", "+q+")", got, ok, want)
		}
		p := programOfBytes(bytes)
		first, ok := impl.IfOf("x=0", p, ".")
		checkMade(t, "IfOf(x=0, "+p+", .)", first, ok, asProgram("(([x=0];"+p+")|([x#0];.))"))
		second, ok := impl.IfOf("x=0", ".", p)
		checkMade(t, "IfOf(x=0, ., "+p+")", second, ok, asProgram("(([x=0];.)|([x#0];"+p+"))"))
	}
}

// TestP3MadeWithLoops makes programs of parts that have as many loops within
// each other as there may be: these get no more.
func TestP3MadeWithLoops(t *testing.T) {
	p, q := loopsOf(6, "."), loopsOf(6, "!")
	got, ok := impl.SequenceOf(p, q)
	checkMade(t, "SequenceOf", got, ok, "("+p+";"+q+")")
	got, ok = impl.ChoiceOf(p, q)
	checkMade(t, "ChoiceOf", got, ok, "("+p+"|"+q+")")
	got, ok = impl.IfOf("x=y", p, q)
	checkMade(t, "IfOf", got, ok, "(([x=y];"+p+")|([x#y];"+q+"))")
	got, ok = impl.IfOf("x=y", loopsOf(7, "."), ".")
	checkMade(t, "IfOf", got, ok, "")
}
