package tests

import (
	"math"
	"math/rand"
	"regexp"
	"slices"
	"strconv"
	"strings"
	"sync"
	"testing"

	"loop.example/surelywrong/impl"
)

// allText is the text of the set of all states.
const allText = "00,01,02,10,11,12,20,21,22"

// A bench is what the test takes for what the interpreter has.
type bench struct {
	p string
	s int
}

// A given is what a rest gives, by the letters of the document's table.
type given struct {
	p, t, c       string
	s, e, k, a, b int
}

// A benchRow is a line of the document's table: its word, the letters of what its
// rest has, "" if it has no rest, rests that it may have, and what it does.
type benchRow struct {
	word, letters string
	rests         []string
	does          func(m *bench, g given) (string, bool)
}

// benchPrograms, benchSets and so on are what rests have.
var (
	benchPrograms = []string{".", "!", "x+", "y?", "[x<y]", "(x+;([x=0];!))", "{(x+|([x=2];!))}", "((x+;x0);{.})", programOfBytes(51), programOfBytes(60), loopsOf(6, "x+")}
	benchSets     = []string{"-", "00", "10,20", "00,11,22", allText}
	benchTests    = []string{"x=0", "x#2", "x<1", "y<2", "x=y", "x<y", "y<x"}
	benchNumbers  = []string{"0", "1", "2", "3", "6", "8", "9", "12", "13", "-1", "99999999999999999"}
	benchExits    = []string{"ok", "error"}
)

// pairsOf returns each of some texts with each of others, with a space between.
func pairsOf(texts []string, others []string) []string {
	var pairs []string
	for _, text := range texts {
		for _, other := range others {
			pairs = append(pairs, text+" "+other)
		}
	}
	return pairs
}

// stateText returns the text of a set that a function returned.
func stateText(set int, ok bool) (string, bool) { return textOf(set), ok }

// numbersText returns the text of numbers, written one behind the other.
func numbersText(numbers ...int) string {
	text := ""
	for i, number := range numbers {
		if i > 0 {
			text += " "
		}
		text += strconv.Itoa(number)
	}
	return text
}

// truthsText returns the text of truths.
func truthsText(truths ...bool) string {
	text := ""
	for _, truth := range truths {
		text += map[bool]string{true: " true", false: " false"}[truth]
	}
	return text[1:]
}

// benchRows returns the lines of the document's table.
func benchRows() []benchRow {
	return slices.Concat(changingRows(), plainRows(), askingRows(), runningRows())
}

// changingRows returns the lines by which something changes.
func changingRows() []benchRow {
	set := func(m *bench, p string, ok bool) (string, bool) {
		m.p = p
		return p, ok
	}
	return []benchRow{
		{"program", "P", benchPrograms, func(m *bench, g given) (string, bool) { return set(m, g.p, true) }},
		{"from", "S", benchSets, func(m *bench, g given) (string, bool) { m.s = g.s; return textOf(g.s), true }},
		{"then", "P", benchPrograms, func(m *bench, g given) (string, bool) {
			p, ok := impl.SequenceOf(m.p, g.p)
			return set(m, p, ok)
		}},
		{"or", "P", benchPrograms, func(m *bench, g given) (string, bool) {
			p, ok := impl.ChoiceOf(m.p, g.p)
			return set(m, p, ok)
		}},
		{"if", "TP", pairsOf(benchTests, benchPrograms), func(m *bench, g given) (string, bool) {
			p, ok := impl.IfOf(g.t, m.p, g.p)
			return set(m, p, ok)
		}},
		{"unroll", "K", benchNumbers, func(m *bench, g given) (string, bool) {
			p, ok := impl.Unroll(m.p, g.k)
			return set(m, p, ok)
		}},
		{"loop", "", nil, func(m *bench, g given) (string, bool) { p, ok := impl.LoopOf(m.p); return set(m, p, ok) }},
		{"cut", "", nil, func(m *bench, g given) (string, bool) { p, ok := impl.CutLoops(m.p); return set(m, p, ok) }},
		{"simplify", "", nil, func(m *bench, g given) (string, bool) { p, ok := impl.Simplify(m.p); return set(m, p, ok) }},
		{"top", "", nil, func(m *bench, g given) (string, bool) { p, ok := impl.SimplerTop(m.p); return set(m, p, ok) }},
	}
}

// plainRows returns the lines that change nothing and have no rest.
func plainRows() []benchRow {
	return []benchRow{
		{"program", "", nil, func(m *bench, g given) (string, bool) { return m.p, true }},
		{"from", "", nil, func(m *bench, g given) (string, bool) { return textOf(m.s), true }},
		{"ok", "", nil, func(m *bench, g given) (string, bool) { return stateText(impl.Reached(m.p, m.s, impl.ExitOk)) }},
		{"error", "", nil, func(m *bench, g given) (string, bool) {
			return stateText(impl.Reached(m.p, m.s, impl.ExitError))
		}},
		{"table", "", nil, func(m *bench, g given) (string, bool) { return impl.Table(m.p) }},
		{"kinds", "", nil, func(m *bench, g given) (string, bool) {
			return truthsText(impl.CanFail(m.p), impl.CanStick(m.p), impl.IsSingle(m.p), impl.IsManifest(m.p), impl.IsPlain(m.p)), true
		}},
		{"sizes", "", nil, func(m *bench, g given) (string, bool) {
			return numbersText(impl.SizeOf(m.p), impl.LoopsIn(m.p), impl.CountSimpler(m.p)), true
		}},
		{"fails", "", nil, func(m *bench, g given) (string, bool) { return stateText(impl.FailsFrom(m.p)) }},
		{"safe", "", nil, func(m *bench, g given) (string, bool) { return stateText(impl.SafeFrom(m.p)) }},
		{"proof", "", nil, func(m *bench, g given) (string, bool) {
			proof, ok := impl.ProveError(m.p)
			return proofText(proof), ok
		}},
		{"times", "", nil, func(m *bench, g given) (string, bool) {
			return numbersText(impl.TimesFor(m.p, m.s, impl.ExitOk), impl.TimesFor(m.p, m.s, impl.ExitError), impl.TimesToFail(m.p, m.s)), true
		}},
		{"reports", "", nil, func(m *bench, g given) (string, bool) { return impl.AllReports(m.p) }},
		{"shortest", "", nil, func(m *bench, g given) (string, bool) { return impl.Shortest(m.p) }},
	}
}

// askingRows returns the lines that change nothing and have a rest, but for those
// of runs.
func askingRows() []benchRow {
	triple := func(m *bench, g given) impl.Triple {
		return impl.Triple{Before: m.s, Program: m.p, Exit: g.e, Behind: g.s}
	}
	exitsAndSets := pairsOf(benchExits, benchSets)
	return []benchRow{
		{"can", "ES", exitsAndSets, func(m *bench, g given) (string, bool) { return stateText(impl.CanReach(m.p, g.e, g.s)) }},
		{"only", "ES", exitsAndSets, func(m *bench, g given) (string, bool) { return stateText(impl.OnlyReach(m.p, g.e, g.s)) }},
		{"sure", "ES", exitsAndSets, func(m *bench, g given) (string, bool) {
			x := triple(m, g)
			return truthsText(impl.IsSure(x), impl.IsAlways(x), impl.EachFails(x)), true
		}},
		{"least", "ES", exitsAndSets, func(m *bench, g given) (string, bool) {
			x, ok := impl.LeastBefore(triple(m, g))
			if !ok {
				return "", false
			}
			return tripleText(x), true
		}},
		{"prove", "ES", exitsAndSets, func(m *bench, g given) (string, bool) {
			proof, ok := impl.ProveSure(triple(m, g))
			return proofText(proof), ok
		}},
		{"in", "K", benchNumbers, func(m *bench, g given) (string, bool) {
			one, isOne := impl.ReachedIn(m.p, m.s, impl.ExitOk, g.k)
			two, isTwo := impl.ReachedIn(m.p, m.s, impl.ExitError, g.k)
			return textOf(one) + " " + textOf(two), isOne && isTwo
		}},
		{"same", "P", benchPrograms, func(m *bench, g given) (string, bool) {
			return truthsText(impl.SameResults(m.p, g.p)), true
		}},
		{"below", "P", benchPrograms, func(m *bench, g given) (string, bool) {
			return truthsText(impl.IsBelow(m.p, g.p)), true
		}},
		{"where", "T", benchTests, func(m *bench, g given) (string, bool) { return stateText(impl.WhereHolds(g.t)) }},
	}
}

// runningRows returns the lines of runs.
func runningRows() []benchRow {
	choices := []string{"", "e", "l", "0", "2", "mle", "mlmlmr", "mlmlme", "q", "-", strings.Repeat("m", 40) + "e"}
	return []benchRow{
		{"report", "A", benchNumbers, func(m *bench, g given) (string, bool) { return impl.ReportOf(m.p, g.a) }},
		{"run", "AC", pairsOf(benchNumbers, choices), func(m *bench, g given) (string, bool) {
			exit, end, ok := impl.RunWith(m.p, g.a, g.c)
			return exitTexts[exit] + " " + numbersText(end), ok
		}},
		{"trace", "AC", pairsOf(benchNumbers, choices), func(m *bench, g given) (string, bool) {
			trace, ok := impl.TraceOf(m.p, g.a, g.c)
			if len(trace) == 0 {
				return "-", ok
			}
			return numbersText(trace...), ok
		}},
		{"choices", "AEB", pairsOf(pairsOf(benchNumbers, benchExits), []string{"0", "3", "8", "9", "-1"}), func(m *bench, g given) (string, bool) {
			return impl.ChoicesFor(m.p, g.a, g.e, g.b)
		}},
	}
}

// numberPattern is how numbers are written.
var numberPattern = regexp.MustCompile(`^(?:0|-?[1-9][0-9]{0,16})$`)

// numberIn returns the number that a word is.
func numberIn(word string) (int, bool) {
	if !numberPattern.MatchString(word) {
		return 0, false
	}
	number, _ := strconv.Atoi(word)
	return number, true
}

// givenIn returns what a rest gives, if it is what the letters show.
func givenIn(rest string, letters string, sets map[string]int) (given, bool) {
	var g given
	words := strings.Split(rest, " ")
	if len(words) != len(letters) {
		return given{}, false
	}
	for i, word := range words {
		ok := true
		switch letters[i] {
		case 'P':
			g.p, ok = word, isProgram(word)
		case 'T':
			g.t, ok = word, isTest(word)
		case 'C':
			g.c = word
		case 'S':
			g.s, ok = sets[word]
		case 'E':
			g.e = slices.Index(exitTexts, word)
			ok = g.e >= 0
		case 'K':
			g.k, ok = numberIn(word)
		case 'A':
			g.a, ok = numberIn(word)
		case 'B':
			g.b, ok = numberIn(word)
		}
		if !ok {
			return given{}, false
		}
	}
	return g, true
}

// A benchTable is the document's table and the texts of all sets.
type benchTable struct {
	rows []benchRow
	sets map[string]int
}

// newBenchTable returns a benchTable.
func newBenchTable() benchTable { return benchTable{benchRows(), setsByText()} }

// answer returns the output of a line, without the newline behind it, and does it.
func (b benchTable) answer(m *bench, line string) string {
	word, rest, hasRest := strings.Cut(line, " ")
	for _, row := range b.rows {
		if row.word != word || hasRest != (row.letters != "") {
			continue
		}
		var g given
		if hasRest {
			var ok bool
			if g, ok = givenIn(rest, row.letters, b.sets); !ok {
				return "no"
			}
		}
		next := *m
		output, ok := row.does(&next, g)
		if !ok {
			return "no"
		}
		*m = next
		return output
	}
	return "what"
}

// output returns the output of a script that is within the limits.
func (b benchTable) output(script string) string {
	m, output := bench{".", 511}, ""
	for _, line := range strings.Split(script, "\n") {
		if line != "" {
			output += b.answer(&m, line) + "\n"
		}
	}
	return output
}

// checkScript checks the output of a script.
func checkScript(t *testing.T, script string, want string) {
	t.Helper()
	if got := impl.RunScript(script); got != want {
		t.Errorf("RunScript(%.300q) = %.600q, want %.600q", script, got, want)
	}
}

// checkLine checks the output of a line, which has no newline behind it where it
// is written, and that nothing changes where it is wrong.
func checkLine(t *testing.T, line string, want string) {
	t.Helper()
	checkScript(t, line, want+"\n")
	checkScript(t, line+"\n", want+"\n")
	if want == "no" || want == "what" {
		checkScript(t, "program (x+;!)\nfrom 00,12\n"+line+"\nprogram\nfrom", "(x+;!)\n00,12\n"+want+"\n(x+;!)\n00,12\n")
	}
}

func TestP12Limits(t *testing.T) {
	if impl.MaxScript != 20000 || impl.MaxLines != 100 || impl.MaxOutput != 40000 {
		t.Errorf("MaxScript, MaxLines, MaxOutput = %d, %d, %d", impl.MaxScript, impl.MaxLines, impl.MaxOutput)
	}
}

func TestP12FormatNumbers(t *testing.T) {
	for _, row := range []struct {
		list []int
		want string
	}{
		{nil, "-"},
		{[]int{}, "-"},
		{make([]int, 0, 9), "-"},
		{[]int{0}, "0"},
		{[]int{7}, "7"},
		{[]int{-1}, "-1"},
		{[]int{-1, -1}, "-1 -1"},
		{[]int{1, 0, -3}, "1 0 -3"},
		{[]int{0, 0, 0}, "0 0 0"},
		{[]int{9, 8, 10, 100, 99}, "9 8 10 100 99"},
		{[]int{512, 1000000, -512, -1000000}, "512 1000000 -512 -1000000"},
		{[]int{math.MaxInt32, math.MinInt32}, "2147483647 -2147483648"},
		{[]int{math.MaxInt64, math.MinInt64, math.MinInt64 + 1}, "9223372036854775807 -9223372036854775808 -9223372036854775807"},
		{make([]int, 5000), strings.Repeat("0 ", 4999) + "0"},
	} {
		if got := impl.FormatNumbers(row.list); got != row.want {
			t.Errorf("FormatNumbers(%.80v) = %.80q, want %.80q", row.list, got, row.want)
		}
	}
	for number := -1200; number <= 1200; number++ {
		if got := impl.FormatNumbers([]int{number}); got != strconv.Itoa(number) {
			t.Errorf("FormatNumbers([%d]) = %q", number, got)
		}
	}
}

// TestP12FormatNumbersDoesNotChangeItsArgument gives lists that have numbers past
// their length.
func TestP12FormatNumbersDoesNotChangeItsArgument(t *testing.T) {
	whole := []int{3, 2, 1, 0, 5, 4}
	for length, want := range []string{"-", "3", "3 2", "3 2 1", "3 2 1 0", "3 2 1 0 5"} {
		if got := impl.FormatNumbers(whole[:length]); got != want {
			t.Errorf("FormatNumbers(%v) = %q, want %q", whole[:length], got, want)
		}
		if !slices.Equal(whole, []int{3, 2, 1, 0, 5, 4}) {
			t.Fatalf("FormatNumbers changes its argument to %v", whole)
		}
	}
}

func TestP12ParseExit(t *testing.T) {
	for want, text := range exitTexts {
		if exit, ok := impl.ParseExit(text); exit != want || !ok {
			t.Errorf("ParseExit(%q) = %d, %v", text, exit, ok)
		}
		if exit, ok := impl.ParseExit(impl.NameOfExit(want)); exit != want || !ok {
			t.Errorf("ParseExit(NameOfExit(%d)) = %d, %v", want, exit, ok)
		}
	}
}

// checkNoExit checks a text that is no exit.
func checkNoExit(t *testing.T, text string) {
	t.Helper()
	if exit, ok := impl.ParseExit(text); exit != 0 || ok {
		t.Errorf("ParseExit(%.40q) = %d, %v", text, exit, ok)
	}
}

func TestP12ParseExitOfNoExit(t *testing.T) {
	texts := []string{
		"", " ", "\n", "\x00", "\xff", "-", "0", "1", "2", "-1", "no", "what", "true", "false", "fail", "exit", "ExitOk", "ExitError",
		"o", "k", "okay", "oks", "okok", "ko", "OK", "Ok", "oK", " ok", "ok ", "ok\n", "ok\t", "\tok", "ok\x00", "\x00ok", "ok.", "0k", "ok,error", "ok error", "okerror", "ok/error",
		"e", "err", "erro", "errors", "error ", " error", "error\n", "Error", "ERROR", "eror", "rror", "errorerror", "error ok", "error\x00", "\u043ek",
		strings.Repeat("ok", 100000), strings.Repeat("error", 100000), strings.Repeat(" ", 100000),
	}
	for _, text := range texts {
		checkNoExit(t, text)
	}
	for _, text := range exitTexts {
		for i := range len(text) + 1 {
			for c := range 256 {
				changed := text[:i] + string([]byte{byte(c)})
				checkNoExit(t, changed+text[i:])
				if i < len(text) && byte(c) != text[i] {
					checkNoExit(t, changed+text[i+1:])
				}
			}
			if i < len(text) {
				checkNoExit(t, text[:i]+text[i+1:])
			}
		}
	}
}

// documentLines are the lines of the document's example with their outputs.
var documentLines = []struct{ line, output string }{
	{"program (x+;([x=0];!))", "(x+;([x=0];!))"},
	{"from 10,20", "10,20"},
	{"ok", "-"},
	{"error", "00"},
	{"kinds", "true true true false true"},
	{"fails", "20,21,22"},
	{"safe", "00,01,02,10,11,12"},
	{"sizes", "5 0 0"},
	{"can error 00", "20"},
	{"only error 00", "00,01,02,10,11,12,20"},
	{"sure error 00", "true true false"},
	{"least error 00", "20 (x+;([x=0];!)) error 00"},
	{"prove error 00", "10,20 x+ ok 00,20 atom\n00,20 [x=0] ok 00 atom\n00 ! error 00 atom\n00,20 ([x=0];!) error 00 seq 1 2\n10,20 (x+;([x=0];!)) error 00 seq 0 3"},
	{"reports", "20:;21:;22:"},
	{"program {(x+|([x=2];!))}", "{(x+|([x=2];!))}"},
	{"from 00", "00"},
	{"times", "2 3 3"},
	{"in 2", "00,10,20 -"},
	{"report 0", "mlmlmr"},
	{"run 0 mlmlmr", "error 6"},
	{"trace 0 mlmle", "3 6"},
	{"choices 0 ok 6", "mlmle"},
	{"choices 0 error 6", "mlmlmr"},
	{"unroll 1", "(.|((x+|([x=2];!));.))"},
	{"simplify", "(.|(x+|([x=2];!)))"},
	{"same {(x+|([x=2];!))}", "false"},
	{"below {(x+|([x=2];!))}", "true"},
	{"if x=2 x0", "(([x=2];(.|(x+|([x=2];!))))|([x#2];x0))"},
	{"table", "00:00/-;01:01/-;02:02/-;10:00/-;11:01/-;12:02/-;20:00,20/20;21:01,21/21;22:02,22/22"},
	{"program (x0;x1)", "(x0;x1)"},
	{"top", "x1"},
	{"shortest", "x1"},
	{"then !", "(x1;!)"},
	{"proof", allText + " x1 ok 10,11,12 atom\n10,11,12 ! error 10,11,12 atom\n" + allText + " (x1;!) error 10,11,12 seq 0 1"},
	{"or x+", "((x1;!)|x+)"},
	{"loop", "{((x1;!)|x+)}"},
	{"cut", "."},
	{"where x<y", "01,02,12"},
	{"report 0", "no"},
	{"foo", "what"},
}

// TestP12DocumentExample takes the document's script, and each of its beginnings,
// with a newline behind the last line and without one.
func TestP12DocumentExample(t *testing.T) {
	table := newBenchTable()
	script, want := "", ""
	for _, row := range documentLines {
		script, want = script+row.line, want+row.output+"\n"
		checkScript(t, script, want)
		script += "\n"
		checkScript(t, script, want)
		checkScript(t, "\n\n"+strings.ReplaceAll(script, "\n", "\n\n")+"\n", want)
		if got := table.output(script); got != want {
			t.Fatalf("the test takes %q for the output of %q", got, script)
		}
	}
}

// scriptRows are scripts with their outputs, written out so that they depend on
// nothing.
var scriptRows = []struct{ script, output string }{
	// what there is at first
	{"", ""},
	{"program", ".\n"},
	{"from", allText + "\n"},
	{"program\nfrom\nprogram", ".\n" + allText + "\n.\n"},

	// what changes, and what it is afterwards
	{"program x+\nprogram", "x+\nx+\n"},
	{"program x+\nprogram y+\nprogram\nfrom", "x+\ny+\ny+\n" + allText + "\n"},
	{"from 00,12\nfrom\nprogram", "00,12\n00,12\n.\n"},
	{"from -\nfrom\nok\nerror", "-\n-\n-\n-\n"},
	{"from 00\nfrom 11\nfrom", "00\n11\n11\n"},
	{"from " + allText + "\nfrom", allText + "\n" + allText + "\n"},
	{"program x+\nthen y+\nprogram", "x+\n(x+;y+)\n(x+;y+)\n"},
	{"program x+\nor y+\nprogram", "x+\n(x+|y+)\n(x+|y+)\n"},
	{"then x+\nthen y+\nor !", "(.;x+)\n((.;x+);y+)\n(((.;x+);y+)|!)\n"},
	{"loop\nloop\nprogram", "{.}\n{{.}}\n{{.}}\n"},
	{"program x+\nif x<1 y+\nprogram", "x+\n(([x<1];x+)|([x#0];y+))\n(([x<1];x+)|([x#0];y+))\n"},
	{"program x+\nif x#0 y+", "x+\n(([x#0];x+)|([x=0];y+))\n"},
	{"program {x+}\nunroll 2\nprogram", "{x+}\n(.|(x+;(.|(x+;.))))\n(.|(x+;(.|(x+;.))))\n"},
	{"program {x+}\nunroll 0\nprogram", "{x+}\n.\n.\n"},
	{"program ({x+};!)\ncut\nprogram", "({x+};!)\n(.;!)\n(.;!)\n"},
	{"program ((x+;x0);{.})\nsimplify\nprogram", "((x+;x0);{.})\nx0\nx0\n"},
	{"program ((x+;x0);{.})\ntop\ntop\ntop\nprogram", "((x+;x0);{.})\n(x+;(x0;{.}))\nno\nno\n(x+;(x0;{.}))\n"},
	{"program (.;(.;x+))\ntop\ntop\ntop\nprogram", "(.;(.;x+))\n(.;x+)\nx+\nno\nx+\n"},

	// what is told
	{"program x+\nfrom 00,11\nok\nerror", "x+\n00,11\n10,21\n-\n"},
	{"program !\nfrom 00,11\nok\nerror", "!\n00,11\n-\n00,11\n"},
	{"program (x0|!)\nfrom 11,22\nok\nerror", "(x0|!)\n11,22\n01,02\n11,22\n"},
	{"program (x0|!)\nfrom 11,22\ntable", "(x0|!)\n11,22\n00:00/00;01:01/01;02:02/02;10:00/10;11:01/11;12:02/12;20:00/20;21:01/21;22:02/22\n"},
	{"kinds", "false false true false true\n"},
	{"program !\nkinds", "!\ntrue false true true true\n"},
	{"program [x=0]\nkinds", "[x=0]\nfalse true true false true\n"},
	{"program x?\nkinds", "x?\nfalse false false false true\n"},
	{"program (.;.)\nkinds", "(.;.)\nfalse false true false false\n"},
	{"program (!;!)\nkinds", "(!;!)\ntrue false true true false\n"},
	{"program (.|!)\nkinds", "(.|!)\ntrue false false true true\n"},
	{"program ([x=0];!)\nkinds", "([x=0];!)\ntrue true true false true\n"},
	{"sizes", "1 0 0\n"},
	{"program {({x+}|(.;.))}\nsizes", "{({x+}|(.;.))}\n7 2 1\n"},
	{"program {{{x+}}}\nsizes", "{{{x+}}}\n4 3 2\n"},
	{"fails\nsafe", "-\n" + allText + "\n"},
	{"program ([x<y];!)\nfrom 00\nfails\nsafe", "([x<y];!)\n00\n01,02,12\n00,10,11,20,21,22\n"},
	{"program x?\ncan ok 00\nonly ok 00,10,20\ncan error 00\nonly error -", "x?\n00,10,20\n00,10,20\n-\n" + allText + "\n"},
	{"program [x=0]\ncan ok 00\nonly ok 00\ncan ok -", "[x=0]\n00\n00,10,11,12,20,21,22\n-\n"},
	{"program x?\nfrom 00\nsure ok 00\nsure ok 00,10,20\nsure ok 11\nsure ok -\nsure error -\nsure ok " + allText, "x?\n00\ntrue false true\ntrue true true\nfalse false false\ntrue false false\ntrue true false\nfalse true true\n"},
	{"program x?\nfrom -\nsure ok -\nsure ok 00", "x?\n-\ntrue true true\nfalse true true\n"},
	{"program x0\nleast ok 00\nleast ok 00,01\nleast ok -\nleast ok 10", "x0\n00 x0 ok 00\n00,01 x0 ok 00,01\n- x0 ok -\nno\n"},
	{"program x0\nfrom 10,20\nleast ok 00\nfrom", "x0\n10,20\n10 x0 ok 00\n10,20\n"},
	{"program x?\nfrom 00\nprove ok 10", "x?\n00\n00 x? ok 00,10,20 atom\n00 x? ok 10 less 0\n"},
	{"program x?\nfrom 00\nprove ok -\nprove ok 11\nprove error 00", "x?\n00\n00 x? ok 00,10,20 atom\n00 x? ok - less 0\nno\nno\n"},
	{"program (.|!)\nfrom 00\nprove error 00\nprogram", "(.|!)\n00\n00 ! error 00 atom\n00 (.|!) error 00 right 0\n(.|!)\n"},
	{"proof", "no\n"},
	{"program !\nfrom 00\nproof\nfrom", "!\n00\n" + allText + " ! error " + allText + " atom\n00\n"},
	{"times", "0 0 -1\n"},
	{"program {x+}\ntimes\nfrom 00\ntimes", "{x+}\n0 0 -1\n00\n2 0 -1\n"},
	{"program {!}\ntimes\nfrom -\ntimes", "{!}\n0 1 1\n-\n0 0 -1\n"},
	{"program {x+}\nfrom 00\nin 0\nin 1\nin 2\nin 12", "{x+}\n00\n00 -\n00,10 -\n00,10,20 -\n00,10,20 -\n"},
	{"program (.|!)\nfrom 00,22\nin 0", "(.|!)\n00,22\n00,22 00,22\n"},
	{"program ([x=0];!)\nreport 0\nreport 3\nreports", "([x=0];!)\n\nno\n00:;01:;02:\n"},
	{"program (.|!)\nreport 8\nreports", "(.|!)\nr\n00:r;01:r;02:r;10:r;11:r;12:r;20:r;21:r;22:r\n"},
	{"program x?\nreports", "x?\n-\n"},
	{"program x?\nrun 0 2\ntrace 0 2\nrun 8 0\ntrace 8 0", "x?\nok 6\n6\nok 2\n2\n"},
	{"program (x+;!)\nrun 8 \ntrace 8 ", "(x+;!)\nerror 2\n2 2\n"},
	{"program {.}\nrun 4 e\ntrace 4 e\ntrace 4 mme", "{.}\nok 4\n-\n4 4\n"},
	{"program {.}\nchoices 4 ok 4\nchoices 4 ok 5", "{.}\ne\nno\n"},
	{"choices 4 ok 4\nprogram", "\n.\n"},
	{"program (x?;y?)\nchoices 0 ok 5\nchoices 0 ok 8\nchoices 0 error 8", "(x?;y?)\n12\n22\nno\n"},
	{"program !\nchoices 7 error 7\nchoices 7 error 6\nchoices 7 ok 7", "!\n\nno\nno\n"},
	{"same .\nsame {.}\nsame x+\nbelow .\nbelow x?\nbelow x+", "true\ntrue\nfalse\ntrue\ntrue\nfalse\n"},
	{"program x?\nbelow x0\nbelow (x?|!)\nsame {x+}", "x?\nfalse\ntrue\ntrue\n"},
	{"program {x+}\nshortest\nprogram\nprogram (x0|x1)\nshortest\nprogram", "{x+}\nx?\n{x+}\n(x0|x1)\nno\n(x0|x1)\n"},
	{"where x=y\nwhere y<2\nfrom -\nwhere x=y", "00,11,22\n00,01,10,11,20,21\n-\n00,11,22\n"},

	// empty lines, and newlines behind the last line
	{"\n", ""},
	{"\n\n\n", ""},
	{"program\n", ".\n"},
	{"\nprogram", ".\n"},
	{"\n\nprogram\n\n\nprogram\n\n", ".\n.\n"},
	{"foo\n\nfoo", "what\nwhat\n"},

	// lines that are wrong do not end a script
	{"foo\nprogram q\nprogram x+\nfoo\nprogram", "what\nno\nx+\nwhat\nx+\n"},
	{"if x<y .\nunroll 13\nprove error 00\nfrom q\nprogram", "no\nno\nno\nno\n.\n"},
}

func TestP12Scripts(t *testing.T) {
	table := newBenchTable()
	for _, row := range scriptRows {
		checkScript(t, row.script, row.output)
		if got := table.output(row.script); got != row.output {
			t.Fatalf("the test takes %q for the output of %q", got, row.script)
		}
	}
}

// benchPlaces are programs and sets that the interpreter has ahead of a line.
var benchPlaces = []struct{ p, s string }{
	{".", allText},
	{"!", "00,12"},
	{"x?", "-"},
	{"(x+;([x=0];!))", "10,20"},
	{"{(x+|([x=2];!))}", "00"},
	{"((x+;x0);{.})", "22"},
	{"(x?|!)", "01,02,10,20"},
	{"{([x=0];{(y+|!)})}", "00,01"},
	{"([x=0];[x=1])", allText},
	{loopsOf(6, "(x+|!)"), "11"},
	{programOfBytes(60), "20,21,22"},
}

// TestP12LinesOfTheTable takes each line of the table by itself, with each rest, and
// with the output that the functions of the other chapters make of the same
// arguments.
func TestP12LinesOfTheTable(t *testing.T) {
	table := newBenchTable()
	right := map[string]int{}
	for _, place := range benchPlaces {
		for _, row := range table.rows {
			lines := []string{row.word}
			if row.letters != "" {
				lines = pairsOf(lines, row.rests)
			}
			for _, line := range lines {
				script := "program " + place.p + "\nfrom " + place.s + "\n" + line
				want := table.output(script)
				if !strings.HasSuffix(want, "\nno\n") {
					right[row.word+" "+row.letters]++
				}
				checkScript(t, script, want)
				script += "\nprogram\nfrom\n"
				checkScript(t, script, table.output(script))
			}
		}
	}
	if len(right) != len(table.rows) || len(right) != 36 {
		t.Fatalf("the test has right lines only of %v", right)
	}
}

// badThings are words that are not what a letter of the table stands for.
var badThings = map[byte][]string{
	'P': {"", "q", "x", "x3", "..", "(.;.", "{.", "[x=3]", "(.,.)", "X+", ".\r", ".\t", "\x00", "\xff", programOfBytes(61), loopsOf(7, "."), "00", "ok", "-"},
	'S': {"", "0", "00,", ",00", "12,00", "00,00", "33", "03", "--", "all", "00;12", "00,12\r", "ok", "1", "511", "\xff"},
	'E': {"", "okay", "OK", "Error", "errors", "0", "1", "-", "no", "ok,", "ok\r", "\x00"},
	'T': {"", "x", "x=3", "x<0", "y=x", "[x=0]", "x=0\r", "X=0", "x>1", "x==", "xx0", "x=00", "."},
	'K': {"", "x", "-", "-0", "+0", "+1", "00", "01", "001", "0x1", "1.0", "1e0", "1_0", "1,0", "-01", "--1", "1-", "one", "٠", "0\r", "0\t", "-1", "13", "99999999999999999", "100000000000000000", "999999999999999999", "99999999999999999999", "00000000000000001", "000000000000000001"},
	'A': {"", "x", "-", "-0", "+0", "+1", "00", "01", "001", "0x1", "1.0", "1e0", "1_0", "1,0", "-01", "--1", "1-", "one", "٠", "0\r", "0\t", "-1", "9", "10", "99999999999999999", "100000000000000000", "999999999999999999", "99999999999999999999", "00000000000000000", "000000000000000000"},
	'C': {"q", "m", "L", "0 ", "\x00", "l\r", "-", strings.Repeat("m", 41)},
}

// goodThings are words that are what a letter of the table stands for, with which
// no function returns false.
var goodThings = map[byte]string{'P': "x+", 'S': "00", 'E': "ok", 'T': "x=0", 'K': "1", 'A': "0", 'B': "0", 'C': ""}

// goodWords returns good words for letters.
func goodWords(letters string) []string {
	var words []string
	for _, letter := range []byte(letters) {
		words = append(words, goodThings[letter])
	}
	return words
}

// restRows returns the lines of the table that have a rest.
func restRows(table benchTable) []benchRow {
	return slices.DeleteFunc(slices.Clone(table.rows), func(row benchRow) bool { return row.letters == "" })
}

// TestP12RestsWithOtherThings puts a word that is wrong in the place of each thing.
func TestP12RestsWithOtherThings(t *testing.T) {
	badThings['B'] = badThings['A']
	for _, row := range restRows(newBenchTable()) {
		words := goodWords(row.letters)
		script := "program .\n" + row.word + " " + strings.Join(words, " ")
		if row.word == "report" {
			script = strings.Replace(script, ".", "!", 1)
		}
		if got := impl.RunScript(script); strings.HasSuffix(got, "no\n") || strings.HasSuffix(got, "what\n") {
			t.Errorf("RunScript(%q) = %q", script, got)
		}
		for i, letter := range []byte(row.letters) {
			for _, bad := range badThings[letter] {
				changed := slices.Clone(words)
				changed[i] = bad
				checkLine(t, row.word+" "+strings.Join(changed, " "), "no")
			}
		}
	}
}

// TestP12RestsOfOtherSizes takes rests with too many things and with too few, with
// spaces that are too many, and with other white space.
func TestP12RestsOfOtherSizes(t *testing.T) {
	for _, row := range restRows(newBenchTable()) {
		words := goodWords(row.letters)
		rest := strings.Join(words, " ")
		var rests []string
		for _, more := range []string{"", "x", "0", "ok", "00", ".", "x=0", "-", "\r", "\t", "\x00", rest} {
			rests = append(rests, rest+" "+more, more+" "+rest)
			for i := range words {
				rests = append(rests, strings.Join(slices.Insert(slices.Clone(words), i, more), " "))
			}
		}
		rests = append(rests, rest+"\r", rest+"\t", "\t"+rest, rest+" \r", rest+"  ", "  "+rest, "", " ", "  ", "   ", "\t")
		for i := range words {
			if len(words) > 1 {
				rests = append(rests, strings.Join(slices.Delete(slices.Clone(words), i, i+1), " "))
			}
			if i > 0 {
				first, second := strings.Join(words[:i], " "), strings.Join(words[i:], " ")
				for _, space := range []string{"  ", "\t", ",", "\u00a0", "\r", ""} {
					rests = append(rests, first+space+second)
				}
			}
		}
		for _, rest := range rests {
			checkLine(t, row.word+" "+rest, "no")
		}
	}
}

// TestP12Words takes words that are none of the table, words that need a rest
// without one, and words that need none with one.
func TestP12Words(t *testing.T) {
	table := newBenchTable()
	forms := map[string]bool{}
	for _, row := range table.rows {
		forms[row.word+textIf(row.letters != "", " ")] = true
	}
	others := []string{
		" ", "  ", "\t", "\r", "\x00", "\xff", "-", "0", ".", "x+", "foo", "what", "no", "full", "long", "true", "quit", "help", "#", "//",
		"programs", "progra", "p", "then!", "program.", "from00", "report0", "if,", "in1", "unroll1", "loops", "cuts", "simple", "simplify,", "tops", "oks", "errors", "tables", "kind", "size", "fail", "safes", "can't", "onlyok", "surely", "lease", "proves", "proofs", "time", "runs", "traces", "choice", "sames", "belows", "shorter", "wheres", "Reached", "RunScript",
	}
	for form := range forms {
		word := strings.TrimSuffix(form, " ")
		for _, rest := range []string{"", " ", "x", "0", "ok", ".", "ok 00", "0 ", "x=0 .", "0 ok 0"} {
			if !forms[word+" "] {
				checkLine(t, word+" "+rest, "what")
			}
		}
		if !forms[word] {
			checkLine(t, word, "what")
		}
		others = append(others, strings.ToUpper(word), strings.ToUpper(word[:1])+word[1:], word+word, word+"\t", word+"\r", word+"\x00", "\t"+word, "\x00"+word, word+".", word+",", word+"\u00a0", word+"\t0", word+",0")
	}
	for _, word := range others {
		checkLine(t, word, "what")
		for _, rest := range []string{"", " ", "x", "0", "ok 00", "."} {
			checkLine(t, word+" "+rest, "what")
		}
	}
	for form := range forms {
		for _, space := range []string{" ", "  "} {
			checkLine(t, space+form, "what")
			checkLine(t, space+form+"0", "what")
			checkLine(t, space+form+".", "what")
		}
	}
}

// TestP12Numbers takes numbers that are written otherwise, and those of 17 digits
// and of more.
func TestP12Numbers(t *testing.T) {
	for text, want := range map[string]string{
		"0": "00", "1": "00,10", "2": "00,10,20", "9": "00,10,20", "10": "00,10,20", "11": "00,10,20", "12": "00,10,20",
		"13": "", "14": "", "100": "", "-1": "", "-2": "", "-12": "", "-0": "", "+0": "", "+1": "", "+": "", "-": "", "00": "", "01": "", "012": "", "0012": "", "-01": "",
		"1 ": "", " 1": "", "1.": "", ".1": "", "1,2": "", "0x1": "", "1e1": "", "1_0": "", "0b1": "", "0o1": "", "\u0661": "",
		"99999999999999999": "", "100000000000000000": "", "-99999999999999999": "", "-100000000000000000": "", "00000000000000001": "", "000000000000000001": "",
		"9223372036854775807": "", "9223372036854775808": "", "-9223372036854775808": "", "-9223372036854775809": "", "18446744073709551616": "", "18446744073709551617": "", "4294967297": "", "36893488147419103233": "",
		strings.Repeat("0", 1000) + "1": "", strings.Repeat("1", 1000): "", "1" + strings.Repeat("0", 1000): "",
	} {
		output := "no\n"
		if want != "" {
			output = want + " -\n"
		}
		checkScript(t, "program {x+}\nfrom 00\nin "+text, "{x+}\n00\n"+output)
		unrolled, ok := impl.Unroll("{x+}", map[string]int{"1": 1, "2": 2, "9": 9, "10": 10, "11": 11, "12": 12}[text])
		if want == "" || !ok {
			unrolled = "no"
		}
		checkScript(t, "program {x+}\nunroll "+text, "{x+}\n"+unrolled+"\n")
	}
	for text := range map[string]bool{"9": true, "10": true, "-1": true, "-0": true, "+0": true, "00": true, "01": true, "": true, "0x0": true, "0 ": true, " 0": true, "18446744073709551616": true, "4294967296": true, "00000000000000000": true, "000000000000000000": true, "100000000000000000": true} {
		for _, line := range []string{"report " + text, "run " + text + " r", "trace " + text + " r", "choices " + text + " error 0", "choices 0 error " + text} {
			checkScript(t, "program (.|!)\n"+line, "(.|!)\nno\n")
		}
	}
	for state := range 9 {
		text := strconv.Itoa(state)
		want := "(.|!)\nr\nerror " + text + "\n" + text + "\nr\n"
		checkScript(t, "program (.|!)\nreport "+text+"\nrun "+text+" r\ntrace "+text+" r\nchoices "+text+" error "+text, want)
	}
}

// TestP12Choices takes choices that are empty, with the space ahead of them and
// without it.
func TestP12Choices(t *testing.T) {
	for _, row := range []struct{ p, line, want string }{
		{".", "run 0 ", "ok 0"},
		{".", "trace 0 ", "0"},
		{".", "run 8 ", "ok 8"},
		{"x+", "run 8 ", "ok 2"},
		{"(x+;y+)", "trace 0 ", "3 4"},
		{"!", "run 5 ", "error 5"},
		{"!", "trace 5 ", "5"},
		{".", "run 0", "no"},
		{".", "trace 0", "no"},
		{".", "run 0  ", "no"},
		{".", "trace 0  ", "no"},
		{".", "run  ", "no"},
		{".", "run  0", "no"},
		{".", "run  0 ", "no"},
		{".", "run ", "no"},
		{".", "trace ", "no"},
		{".", "run", "what"},
		{".", "trace", "what"},
		{".", "run 0 l", "no"},
		{".", "run 0 e", "no"},
		{"{.}", "run 0 ", "no"},
		{"{.}", "trace 0 ", "no"},
		{"{.}", "run 0", "no"},
		{"{.}", "run 0 e", "ok 0"},
		{"{.}", "trace 0 e", "-"},
		{"{.}", "run 0 me", "ok 0"},
		{"{.}", "run 0 m e", "no"},
		{"{.}", "trace 0 m e", "no"},
		{"{.}", "run 0 me ", "no"},
		{"{.}", "run 0  me", "no"},
		{"{.}", "run 0 me\r", "no"},
		{"{.}", "run 0 E", "no"},
		{"{.}", "run 0 " + strings.Repeat("m", 39) + "e", "ok 0"},
		{"{.}", "run 0 " + strings.Repeat("m", 40) + "e", "no"},
		{"{.}", "trace 0 " + strings.Repeat("m", 39) + "e", "0" + strings.Repeat(" 0", 38)},
		{"(.|!)", "run 3 l", "ok 3"},
		{"(.|!)", "run 3 r", "error 3"},
		{"(.|!)", "run 3 ", "no"},
		{"y?", "run 3 2", "ok 5"},
		{"y?", "run 3 3", "no"},
		{"[x=0]", "run 2 ", "ok 2"},
		{"[x=0]", "run 3 ", "no"},
		{"[x=0]", "trace 3 ", "no"},
	} {
		checkScript(t, "program "+row.p+"\n"+row.line+"\nprogram", row.p+"\n"+row.want+"\n"+row.p+"\n")
	}
}

// TestP12NothingChanges takes lines for which a function returns false, since what
// is made would be no program, or since there is nothing to tell.
func TestP12NothingChanges(t *testing.T) {
	for _, row := range []struct {
		p     string
		lines []string
	}{
		{programOfBytes(60), []string{"then .", "or .", "loop", "if x=0 .", "then " + programOfBytes(60)}},
		{programOfBytes(57), []string{"then x+", "or x+", "if x=0 .", "then {.}"}},
		{programOfBytes(41), []string{"if x=0 .", "if x=0 {.}", "then " + programOfBytes(17)}},
		{loopsOf(6, "."), []string{"loop", "unroll 2", "unroll 12"}},
		{"{x+}", []string{"unroll 7", "unroll 13", "unroll -1", "top", "if x<y .", "if y<x .", "proof", "report 0", "prove error 00", "least error 00", "choices 0 error 0", "run 0 m", "in 13", "in -1"}},
		{".", []string{"top", "proof", "report 0", "report 9", "choices 0 ok 1", "choices 0 error 0", "choices 9 ok 9", "prove ok - -", "if x<y !", "unroll 13"}},
		{"(x0|x1)", []string{"shortest", "top"}},
		{"(x+;x0)", []string{"prove ok 11", "least ok 11", "prove ok 00,01", "run 0 0", "trace 0 0"}},
	} {
		const from = "00,12,20"
		ahead, behind := "program "+row.p+"\nfrom "+from+"\n", row.p+"\n"+from+"\n"
		script, want := ahead, behind
		for _, line := range row.lines {
			checkScript(t, ahead+line+"\nprogram\nfrom", behind+"no\n"+behind)
			script, want = script+line+"\n", want+"no\n"
		}
		checkScript(t, script+"program\nfrom", want+behind)
	}
	for p, line := range map[string]string{programOfBytes(56): "then .", programOfBytes(55): "or x+", programOfBytes(58): "loop", programOfBytes(40): "if x=0 .", loopsOf(5, "."): "loop", "{x+}": "unroll 6"} {
		if got := impl.RunScript("program " + p + "\n" + line); strings.HasSuffix(got, "no\n") {
			t.Errorf("RunScript(program %s, %s) = %q", p, line, got)
		}
	}
}

// TestP12LongScripts takes scripts up to those that are as long as they may be, and
// longer ones.
func TestP12LongScripts(t *testing.T) {
	for _, row := range []struct{ begin, fill, end, output string }{
		{"", "\n", "", ""},
		{"", "x", "", "what\n"},
		{"", " ", "", "what\n"},
		{"program ", "x", "", "no\n"},
		{"program ", " ", "", "no\n"},
		{"run 0 ", "m", "", "no\n"},
		{"in ", "0", "1", "no\n"},
		{"program\n", "\n", "", ".\n"},
		{"program x+\nfoo ", "y", "\nprogram", "x+\nwhat\nx+\n"},
		{"program x+\nfoo ", "y", "\nprogram\n", "x+\nwhat\nx+\n"},
		{"program x+\n", "\n", "program", "x+\nfull\n"},
		{"", "\xff", "", "what\n"},
		{"", "\x00", "", "what\n"},
	} {
		rest := 20000 - len(row.begin) - len(row.end)
		for _, fill := range []int{rest - 1, rest} {
			checkScript(t, row.begin+strings.Repeat(row.fill, fill)+row.end, row.output)
		}
		for _, fill := range []int{rest + 1, rest + 2, rest + 20000, 1000000} {
			checkScript(t, row.begin+strings.Repeat(row.fill, fill)+row.end, "long\n")
		}
	}
}

// TestP12Bytes takes bytes as they are, not as characters: two of them are longer
// than one.
func TestP12Bytes(t *testing.T) {
	checkScript(t, strings.Repeat("\u00e9", 10000), "what\n")
	checkScript(t, strings.Repeat("\u00e9", 10000)+"x", "long\n")
	checkScript(t, strings.Repeat("\u00e9", 10001), "long\n")
	for c := range 256 {
		if c != '\n' {
			checkLine(t, "program"+string([]byte{byte(c)}), textIf(c != ' ', "what")+textIf(c == ' ', "no"))
			checkLine(t, string([]byte{byte(c)}), "what")
		}
	}
}

// TestP12ManyLines takes scripts of as many lines as there may be, and of more,
// empty ones among them.
func TestP12ManyLines(t *testing.T) {
	for lines := range 130 {
		output := strings.Repeat("what\n", min(lines, 100)) + textIf(lines > 100, "full\n")
		checkScript(t, strings.Repeat("x\n", lines), output)
		checkScript(t, strings.TrimSuffix(strings.Repeat("x\n", lines), "\n"), output)
		checkScript(t, strings.Repeat("x\n", lines)+strings.Repeat("\n", 50), output)
		last := textIf(lines < 100, ".\n") + textIf(lines >= 100, "full\n")
		checkScript(t, strings.Repeat("\n", lines)+"program", last)
		checkScript(t, strings.Repeat("\n", lines)+"program\n", last)
		checkScript(t, strings.Repeat("\n", lines), "")
		checkScript(t, "program\n"+strings.Repeat("\n", lines)+"program", ".\n"+textIf(lines < 99, ".\n")+textIf(lines >= 99, "full\n"))
	}
	half := strings.Repeat("program\n\n", 50)
	checkScript(t, half, strings.Repeat(".\n", 50))
	checkScript(t, half+"program", strings.Repeat(".\n", 50)+"full\n")
	checkScript(t, half+"program x+\nprogram\nfoo\nprogram", strings.Repeat(".\n", 50)+"full\n")
	checkScript(t, half+"\n\n\nfoo\nfoo", strings.Repeat(".\n", 50)+"full\n")
	checkScript(t, half[1:]+"\nprogram", "what\n"+strings.Repeat(".\n", 49)+"full\n")
	checkScript(t, strings.Repeat("\n", 98)+"program x+\nprogram\nprogram", "x+\nx+\nfull\n")
	checkScript(t, strings.Repeat("\n", 100)+" ", "full\n")
	checkScript(t, strings.Repeat("program q\n", 100)+"program q", strings.Repeat("no\n", 100)+"full\n")
	checkScript(t, strings.Repeat("loop\n", 101), "{.}\n{{.}}\n{{{.}}}\n{{{{.}}}}\n{{{{{.}}}}}\n{{{{{{.}}}}}}\n"+strings.Repeat("no\n", 94)+"full\n")
}

// filledTo returns a script of less than 95 lines, and its output of so many bytes,
// which are many. The last line has an output of about 60 of them.
func filledTo(t *testing.T, bytes int) (string, string) {
	t.Helper()
	const wide = "((x?;y?);(.|!))"
	rows := make([]string, len(stateTexts))
	for i, state := range stateTexts {
		rows[i] = state + ":" + allText + "/" + allText
	}
	table := strings.Join(rows, ";") + "\n"
	script, output := "program "+wide+"\n", wide+"\n"
	for len(output)+len(table)+62 <= bytes {
		script, output = script+"table\n", output+table
	}
	for rest := bytes - len(output); rest > 0; rest = bytes - len(output) {
		size := rest % 61
		switch size {
		case 0:
			size = 61
		case 1:
			size = 2
		}
		line := programOfBytes(size - 1)
		script, output = script+"program "+line+"\n", output+line+"\n"
	}
	if len(output) != bytes || strings.Count(script, "\n") >= 95 || len(script) > 19000 {
		t.Fatalf("the test fills %d bytes with %d lines", len(output), strings.Count(script, "\n"))
	}
	return script, output
}

// TestP12LargeOutputs takes outputs up to those that are as long as they may be
// ahead of a line, and longer ones.
func TestP12LargeOutputs(t *testing.T) {
	for _, bytes := range []int{39000, 39900, 39990, 39996, 39997, 39998, 39999, 40000, 40001, 40002, 40003, 40004, 40010, 40059, 40060} {
		script, output := filledTo(t, bytes)
		full := bytes > 40000
		checkScript(t, script, output)
		checkScript(t, script+"\n\n", output)
		for _, row := range []struct{ line, output string }{{"foo", "what\n"}, {"program q", "no\n"}, {"from", allText + "\n"}, {"where x<y", "01,02,12\n"}} {
			checkScript(t, script+row.line, output+textIf(!full, row.output)+textIf(full, "full\n"))
			checkScript(t, script+"\n\n"+row.line+"\n\n", output+textIf(!full, row.output)+textIf(full, "full\n"))
		}
	}
	script, output := filledTo(t, 39998)
	checkScript(t, script+"program .\nprogram .\nprogram .", output+".\n.\nfull\n")
	checkScript(t, script+"no\nno\nno\n", output+"what\nfull\n")
	checkScript(t, script+"program !\nreport 0\nprogram", output+"!\n\nfull\n")
	script, output = filledTo(t, 40000)
	const wide = "((x?;y?);(.|!))"
	table, _ := impl.Table(wide)
	checkScript(t, script+"program "+wide+"\ntable", output+wide+"\nfull\n")
	script, output = filledTo(t, 40000-len(wide)-1)
	checkScript(t, script+"program "+wide+"\ntable", output+wide+"\n"+table+"\n")
	checkScript(t, script+"program "+wide+"\ntable\ntable", output+wide+"\n"+table+"\nfull\n")
	checkScript(t, script+"program "+wide+"\ntable\n\n", output+wide+"\n"+table+"\n")
}

// TestP12LargeOutputsOfFewLines takes long proofs, which are written as a whole.
func TestP12LargeOutputsOfFewLines(t *testing.T) {
	row := longRows[0]
	for _, other := range longRows {
		if other.needed > row.needed {
			row = other
		}
	}
	behind, _ := impl.Reached(row.p, row.from, row.exit)
	proof, _ := impl.ProveSure(impl.Triple{Before: row.from, Program: row.p, Exit: row.exit, Behind: behind})
	text := proofText(proof) + "\n"
	if strings.Count(text, "\n") != 120 || len(text) < 3000 {
		t.Fatalf("the test takes %q for a long proof", text)
	}
	script, output := "program "+row.p+"\nfrom "+textOf(row.from)+"\n", row.p+"\n"+textOf(row.from)+"\n"
	for len(output) <= 40000 {
		checkScript(t, script, output)
		script += "prove " + exitTexts[row.exit] + " " + textOf(behind) + "\n"
		output += text
	}
	checkScript(t, script, output)
	checkScript(t, script+"program", output+"full\n")
	checkScript(t, script+"\n\nprove error 00\nfoo", output+"full\n")
}

// drawnLine returns a line that is drawn, most often a right one of the table, and
// now and then one that is changed in one place.
func drawnLine(draw *rand.Rand, rows []benchRow) string {
	row := rows[draw.Intn(len(rows))]
	line := row.word
	if row.letters != "" {
		line += " " + row.rests[draw.Intn(len(row.rests))]
		if row.letters == "P" && draw.Intn(2) == 0 {
			line = row.word + " " + drawnToSimplify(draw, 2)
		}
		if row.letters == "S" {
			line = row.word + " " + textOf(draw.Intn(512))
		}
	}
	if draw.Intn(6) == 0 {
		i := draw.Intn(len(line) + 1)
		c := " \n\t0-1.x;okP"[draw.Intn(11):][:1]
		switch draw.Intn(3) {
		case 0:
			line = line[:i] + c + line[i:]
		case 1:
			line = line[:max(i-1, 0)] + line[i:]
		default:
			line = line[:max(i-1, 0)] + c + line[i:]
		}
	}
	return line
}

// TestP12DrawnScripts takes scripts that are always drawn in the same way.
func TestP12DrawnScripts(t *testing.T) {
	draw := rand.New(rand.NewSource(12))
	table := newBenchTable()
	for range 400 {
		var lines []string
		for range 1 + draw.Intn(30) {
			lines = append(lines, drawnLine(draw, table.rows))
		}
		script := strings.Join(lines, "\n")
		want := table.output(script)
		if strings.Count(script, "\n") > 99 || len(want) > 40000 {
			t.Fatalf("the test draws a script of %d bytes with an output of %d bytes", len(script), len(want))
		}
		checkScript(t, script, want)
		checkScript(t, script+"\n", want)
	}
}

// TestP12DeepProgramsTakeNotLong has scripts that ask for all that there is of
// programs whose runs are very many.
func TestP12DeepProgramsTakeNotLong(t *testing.T) {
	asking := "ok\nerror\ntable\nkinds\nsizes\nfails\nsafe\nproof\ntimes\nreports\nshortest\nin 12\nprove ok 00\nleast ok 00\nunroll 12\nsimplify\nreport 0\nchoices 0 ok 8\n"
	for _, p := range []string{loopsOf(6, "(x+|(y+|!))"), loopsOf(6, roundOfStates), "({{{{{{x+}}}}}};({{{{{{y+}}}}}};{{{{{{(x+|!)}}}}}}))"} {
		script := strings.Repeat("program "+p+"\nfrom 00\n"+asking, 5)
		if got := strings.Count(script, "\n"); got != 100 || len(script) > 20000 {
			t.Fatalf("the test has %d lines", got)
		}
		once := impl.RunScript("program " + p + "\nfrom 00\n" + asking)
		checkScript(t, script, strings.Repeat(once, 5))
		checkScript(t, script+"program", strings.Repeat(once, 5)+"full\n")
	}
}

// TestP12CallsBesideEachOther runs several scripts at the same time, over and over:
// each has the output that it has by itself, and nothing is kept.
func TestP12CallsBesideEachOther(t *testing.T) {
	var working sync.WaitGroup
	wrong := make([]string, len(scriptRows))
	for i, row := range scriptRows {
		working.Add(1)
		go func() {
			defer working.Done()
			for range 20 {
				if got := impl.RunScript(row.script); got != row.output {
					wrong[i] = "wrong " + got
				}
			}
		}()
	}
	working.Wait()
	for i, got := range wrong {
		if got != "" {
			t.Errorf("RunScript(%q) has a %q beside others", scriptRows[i].script, got)
		}
	}
}
