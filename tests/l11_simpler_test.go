package tests

import (
	"math/rand"
	"strings"
	"sync"
	"testing"

	"loop.example/surelywrong/impl"
)

// allAtomTexts returns all atoms, in the order in which they are tried.
func allAtomTexts() []string {
	texts := append([]string{}, atomTexts...)
	for _, row := range testRows {
		texts = append(texts, "["+row.test+"]")
	}
	return texts
}

// topInText returns what a whole program becomes by the first rule that fits it,
// told from its text and those of its parts. Assignments are the only programs of
// two bytes.
func topInText(p string) (string, bool) {
	switch kindInText(p) {
	case ';':
		a, b := partsInText(p)[0], partsInText(p)[1]
		switch {
		case a == ".":
			return b, true
		case b == ".":
			return a, true
		case a == "!":
			return "!", true
		case a == b && a[0] == '[':
			return a, true
		case len(a) == 2 && len(b) == 2 && a[0] == b[0] && b[1] != '+':
			return b, true
		case kindInText(a) == ';':
			return "(" + partsInText(a)[0] + ";(" + partsInText(a)[1] + ";" + b + "))", true
		}
	case '|':
		if parts := partsInText(p); parts[0] == parts[1] {
			return parts[0], true
		}
	case '{':
		switch body := p[1 : len(p)-1]; body[0] {
		case '.', '[':
			return ".", true
		case '{':
			return body, true
		}
	}
	return "", false
}

// stepInText returns a program in which a rule is used once, in the first of those
// places where one fits and none does in the parts.
func stepInText(p string) (string, bool) {
	if kindInText(p) == 0 {
		return "", false
	}
	start := 1
	for _, part := range partsInText(p) {
		if next, ok := stepInText(part); ok {
			return p[:start] + next + p[start+len(part):], true
		}
		start += len(part) + 1
	}
	return topInText(p)
}

// simplestInText returns what a program becomes by one step after the other, and
// how many there are.
func simplestInText(p string) (string, int) {
	count := 0
	for {
		next, ok := stepInText(p)
		if !ok {
			return p, count
		}
		p, count = next, count+1
	}
}

// shortestAtomInRows returns the first atom that has results.
func shortestAtomInRows(rows [9][2]int) string {
	for _, text := range allAtomTexts() {
		if rowsBySteps(text) == rows {
			return text
		}
	}
	return ""
}

// checkTop checks what a whole program becomes, where nothing is wanted by "".
func checkTop(t *testing.T, p string, want string) {
	t.Helper()
	if got, ok := impl.SimplerTop(p); got != want || ok != (want != "") {
		t.Errorf("SimplerTop(%q) = %q, %v, want %q", p, got, ok, want)
	}
}

// checkSimplified checks what a program is made simpler to, and how often a rule is
// used in this.
func checkSimplified(t *testing.T, p string, want string, count int) {
	t.Helper()
	if got, ok := impl.Simplify(p); got != want || !ok {
		t.Errorf("Simplify(%q) = %q, %v, want %q", p, got, ok, want)
	}
	if got := impl.CountSimpler(p); got != count {
		t.Errorf("CountSimpler(%q) = %d, want %d", p, got, count)
	}
	if got := impl.IsPlain(p); got != (count == 0) {
		t.Errorf("IsPlain(%q) = %v", p, got)
	}
}

// checkSimpler checks how a program is made simpler.
func checkSimpler(t *testing.T, p string) {
	t.Helper()
	top, _ := topInText(p)
	checkTop(t, p, top)
	want, count := simplestInText(p)
	checkSimplified(t, p, want, count)
	if !impl.SameResults(p, want) {
		t.Errorf("SameResults(%q, %q) = false", p, want)
	}
}

// checkShortest checks the first atom with the results of a program, where none is
// wanted by "".
func checkShortest(t *testing.T, p string, want string) {
	t.Helper()
	if got, ok := impl.Shortest(p); got != want || ok != (want != "") {
		t.Errorf("Shortest(%q) = %q, %v, want %q", p, got, ok, want)
	}
}

// firstOther returns the first state from which results are others, -1 if there is
// none.
func firstOther(a [9][2]int, b [9][2]int) int {
	for state := range a {
		if a[state] != b[state] {
			return state
		}
	}
	return -1
}

// isBelowInRows reports whether no results are left over.
func isBelowInRows(a [9][2]int, b [9][2]int) bool {
	for state := range a {
		for exit := range 2 {
			if withoutStates(a[state][exit], b[state][exit]) != 0 {
				return false
			}
		}
	}
	return true
}

// checkCompared checks how the results of two programs compare, where no state is
// wanted by -1.
func checkCompared(t *testing.T, p string, q string, below bool, differs int) {
	t.Helper()
	if got := impl.SameResults(p, q); got != (differs < 0) {
		t.Errorf("SameResults(%q, %q) = %v", p, q, got)
	}
	if got := impl.IsBelow(p, q); got != below {
		t.Errorf("IsBelow(%q, %q) = %v", p, q, got)
	}
	if got, ok := impl.Differs(p, q); got != max(differs, 0) || ok != (differs >= 0) {
		t.Errorf("Differs(%q, %q) = %d, %v, want %d", p, q, got, ok, differs)
	}
}

// checkPairs compares each of some programs with each of them.
func checkPairs(t *testing.T, programs []string) {
	t.Helper()
	rows := map[string][9][2]int{}
	for _, p := range programs {
		rows[p] = rowsBySteps(p)
	}
	for _, p := range programs {
		for _, q := range programs {
			checkCompared(t, p, q, isBelowInRows(rows[p], rows[q]), firstOther(rows[p], rows[q]))
		}
	}
}

// comparedRows are pairs of programs, written out so that they depend on nothing:
// whether the first one is below the second one, whether the second one is below
// the first one, and the first state from which they differ, "" if there is none.
var comparedRows = []struct {
	p, q          string
	below, behind bool
	differs       string
}{
	// the same results
	{".", ".", true, true, ""},
	{"(x0;x1)", "x1", true, true, ""},
	{"{x+}", "x?", true, true, ""},
	{"[x=0]", "[x<1]", true, true, ""},
	{"([x=0]|[x=1])", "[x<2]", true, true, ""},
	{"(x0|(x1|x2))", "x?", true, true, ""},
	{"(x?;y?)", "(y?;x?)", true, true, ""},
	{"{(x+;y+)}", "{(y+;x+)}", true, true, ""},
	{"(!;x0)", "!", true, true, ""},
	{"(x0|x1)", "(x1|x0)", true, true, ""},
	{"{(!|.)}", "(.|!)", true, true, ""},

	// no results from any state
	{"([x=0];[x=1])", "([y<x];[x<y])", true, true, ""},
	{"([x=0];[x=1])", "(([x=0];[x=1]);!)", true, true, ""},
	{"([x=0];[x=1])", ".", true, false, "00"},
	{"([x=0];[x=1])", "!", true, false, "00"},
	{"([x=0];[x=1])", "x?", true, false, "00"},
	{"([x=0];[x=1])", "[x=y]", true, false, "00"},
	{"([x=0];[x=1])", "[y=2]", true, false, "02"},
	{"([x=0];[x=1])", "([x=2];([y=2];!))", true, false, "22"},

	// below one of them only
	{"x+", "x?", true, false, "00"},
	{"x1", "x?", true, false, "00"},
	{"x+", "{x+}", true, false, "00"},
	{".", "{x+}", true, false, "00"},
	{".", "(.|!)", true, false, "00"},
	{"!", "(.|!)", true, false, "00"},
	{"[x=0]", ".", true, false, "10"},
	{"[x<2]", ".", true, false, "20"},
	{"[x=y]", ".", true, false, "01"},
	{"[x<y]", "[x#y]", true, false, "10"},
	{"[y=0]", "[y#2]", true, false, "01"},
	{"([x=2];!)", "!", true, false, "00"},
	{"([x=0];!)", "!", true, false, "10"},
	{"x?", "(x?;y?)", true, false, "00"},
	{"(x?|([x=2];([y=2];!)))", "(x?|!)", true, false, "00"},
	{"([x=y];x+)", "x+", true, false, "01"},
	{"(([x#2]|[y#2]);x+)", "x+", true, false, "22"},

	// below neither
	{".", "!", false, false, "00"},
	{"x0", "x1", false, false, "00"},
	{"x0", "y0", false, false, "01"},
	{"x0", ".", false, false, "10"},
	{"y0", ".", false, false, "01"},
	{"xy", "yx", false, false, "01"},
	{"xy", "x0", false, false, "01"},
	{"x?", "y?", false, false, "00"},
	{"x?", "(x0|!)", false, false, "00"},
	{"[x=0]", "[x=1]", false, false, "00"},
	{"[x<y]", "[y<x]", false, false, "01"},
	{"[x=0]", "([x=0];!)", false, false, "00"},
	{"(x0|!)", "(x1|!)", false, false, "00"},
	{"([x=0]|([x=1];x0))", "([x=0]|([x=1];x2))", false, false, "10"},
	{"([x#2]|([x=2];!))", ".", false, false, "20"},
	{"(([x#2]|[y#2])|([x=2];([y=2];!)))", ".", false, false, "22"},

	// results from some states only
	{"([x=0];y0)", "([x=0];y1)", false, false, "00"},
	{"([x=2];y0)", "([x=2];y1)", false, false, "20"},
	{"([x=2];y0)", "([x=2];(y0|!))", true, false, "20"},

	// the same states with another exit
	{"(x0;!)", "x0", false, false, "00"},
	{"(x0;!)", "(x0|(x0;!))", true, false, "00"},
	{"(x?;!)", "(x?;(.|!))", true, false, "00"},
	{"(x+;([x=0];!))", "x+", false, false, "00"},
	{"(x+;([x=0];!))", "(x+;!)", true, false, "00"},
	{"(x+;([x=0];!))", "(x+;(.|!))", true, false, "00"},
}

func TestP11Compared(t *testing.T) {
	for _, row := range comparedRows {
		differs := -1
		for state, text := range stateTexts {
			if text == row.differs {
				differs = state
			}
		}
		checkCompared(t, row.p, row.q, row.below, differs)
		checkCompared(t, row.q, row.p, row.behind, differs)
		p, q := rowsBySteps(row.p), rowsBySteps(row.q)
		if isBelowInRows(p, q) != row.below || isBelowInRows(q, p) != row.behind || firstOther(p, q) != differs {
			t.Fatalf("the test takes other results for those of %q and %q", row.p, row.q)
		}
	}
}

func TestP11ComparedAtoms(t *testing.T) {
	checkPairs(t, allAtomTexts())
}

// TestP11ComparedPrograms compares programs that are near to each other, and ones
// that are made in many ways.
func TestP11ComparedPrograms(t *testing.T) {
	programs := []string{"([x=0];[x=1])", "(.|!)", "(!|.)", "{!}", "{x+}", "{x?}", "{{x+}}", "(x?;y?)", "{(x?;y?)}", "(x+;(x+;x+))", "(x+;x+)", "(x0|x1)", "(x+;([x=0];!))", "(x+;!)"}
	for _, row := range programRows()[40:] {
		if len(programs) < 90 {
			programs = append(programs, row.text)
		}
	}
	checkPairs(t, programs)
}

// TestP11FirstOfSeveralStates takes programs that fail from each set of states, and
// compares them with one that never fails and with one that always does.
func TestP11FirstOfSeveralStates(t *testing.T) {
	for _, a := range testRows {
		for _, b := range testRows {
			p := "([" + a.test + "];([" + b.test + "];!))"
			var both, others int
			for state, text := range stateTexts {
				if strings.Contains(a.where, text) && strings.Contains(b.where, text) {
					both |= 1 << state
				} else {
					others |= 1 << state
				}
			}
			first, firstOfOthers := append(statesOf(both), -1)[0], append(statesOf(others), -1)[0]
			checkCompared(t, p, "([x=0];[x=1])", both == 0, first)
			checkCompared(t, p, "!", true, firstOfOthers)
			checkCompared(t, "!", p, others == 0, firstOfOthers)
		}
	}
}

// topRows are programs with what they become by the first rule that fits them as a
// whole, "" if none does.
var topRows = map[string]string{
	// (.;p) and (p;.)
	"(.;.)":               ".",
	"(.;x+)":              "x+",
	"(x+;.)":              "x+",
	"(.;!)":               "!",
	"([x=0];.)":           "[x=0]",
	"(.;(.;.))":           "(.;.)",
	"(.;(x0|(.;.)))":      "(x0|(.;.))",
	"({{.}};.)":           "{{.}}",
	"(.|x+)":              "",
	"(x+|.)":              "",
	"((.|.);x+)":          "",
	"(x+;(.|.))":          "",
	"({.};x+)":            "",
	"(x+;{.})":            "",
	"((.;x0)|x+)":         "",
	"(x+;(.;x0))":         "",
	"{(.;x0)}":            "",
	"([x=y];(x+;(y+;.)))": "",

	// (!;p)
	"(!;x+)":          "!",
	"(!;!)":           "!",
	"(!;(x0;(.;.)))":  "!",
	"(!;{{x+}})":      "!",
	"(x+;!)":          "",
	"([x=0];!)":       "",
	"(!|x+)":          "",
	"(x+|!)":          "",
	"({!};x+)":        "",
	"((!|!);x+)":      "",
	"((x+|!);!)":      "",
	"((!|(!;x0));x0)": "",

	// ([t];[t])
	"([x=0];[x=0])":         "[x=0]",
	"([x<y];[x<y])":         "[x<y]",
	"([y#2];[y#2])":         "[y#2]",
	"([x=0];[x<1])":         "",
	"([x<1];[x=0])":         "",
	"([x=2];[x#0])":         "",
	"([x=0];[y=0])":         "",
	"([x<y];[y<x])":         "",
	"([x=0];([x=0];x+))":    "",
	"([x=0];([x=0];[x=0]))": "",
	"(([x=0]|!);([x=0]|!))": "",
	"({[x=0]};{[x=0]})":     "",
	"({x+};{x+})":           "",
	"((x+|y+);(x+|y+))":     "",

	// (a;b)
	"(x0;x0)":      "x0",
	"(x0;x1)":      "x1",
	"(x+;x0)":      "x0",
	"(x+;xy)":      "xy",
	"(xy;xy)":      "xy",
	"(x?;xy)":      "xy",
	"(x?;x2)":      "x2",
	"(x2;x?)":      "x?",
	"(x+;x?)":      "x?",
	"(x?;x?)":      "x?",
	"(y0;y1)":      "y1",
	"(y+;yx)":      "yx",
	"(y2;y?)":      "y?",
	"(x0;x+)":      "",
	"(x+;x+)":      "",
	"(x?;x+)":      "",
	"(xy;x+)":      "",
	"(y0;y+)":      "",
	"(y+;y+)":      "",
	"(y?;y+)":      "",
	"(x0;y0)":      "",
	"(y0;x0)":      "",
	"(x+;y0)":      "",
	"(y+;x0)":      "",
	"(x+;y+)":      "",
	"(xy;yx)":      "",
	"(yx;xy)":      "",
	"(x0;yx)":      "",
	"(y0;xy)":      "",
	"(x?;y?)":      "",
	"(x0|x1)":      "",
	"(x0;[x=0])":   "",
	"([x=0];x0)":   "",
	"(x0;!)":       "",
	"(x0;(x1|x2))": "",
	"((x1|x2);x0)": "",
	"(x0;{x1})":    "",
	"({x1};x0)":    "",
	"(x0;(x1;y0))": "",
	"(x0;(x1;x2))": "",

	// ((p;q);r)
	"((x+;y+);x0)":        "(x+;(y+;x0))",
	"((x0;x1);x2)":        "(x0;(x1;x2))",
	"((.;.);x0)":          "(.;(.;x0))",
	"((!;x0);x1)":         "(!;(x0;x1))",
	"((x0;x1);(y0;y1))":   "(x0;(x1;(y0;y1)))",
	"(((x0;y0);x1);y1)":   "((x0;y0);(x1;y1))",
	"((x+;y+);(x+;y+))":   "(x+;(y+;(x+;y+)))",
	"(([x=0];!);[x=0])":   "([x=0];(!;[x=0]))",
	"(({.};(.|.));(.|.))": "({.};((.|.);(.|.)))",
	"((x0;x1)|x2)":        "",
	"((x0|x1);x2)":        "",
	"(x0;(y0;x1))":        "",
	"({(x0;y0)};x1)":      "",
	"(((x0;y0)|x0);x1)":   "",

	// the first one of several that fit
	"((x+;y+);.)":     "(x+;y+)",
	"((.;.);.)":       "(.;.)",
	"((!;x0);.)":      "(!;x0)",
	"((x0;x1);.)":     "(x0;x1)",
	"(.;(x+;y+))":     "(x+;y+)",
	"(.;((x+;y+);.))": "((x+;y+);.)",
	"(!;.)":           "!",

	// (p|p)
	"(.|.)":             ".",
	"(x+|x+)":           "x+",
	"(!|!)":             "!",
	"([x=0]|[x=0])":     "[x=0]",
	"((x0;x1)|(x0;x1))": "(x0;x1)",
	"({{.}}|{{.}})":     "{{.}}",
	"((x0|x1)|(x0|x1))": "(x0|x1)",
	"((.|.)|(.|.))":     "(.|.)",
	"([x=0]|[x<1])":     "",
	"(x0|(x0|x0))":      "",
	"((x0|x0)|x0)":      "",
	"((x0|x1)|(x1|x0))": "",
	"(x0|(.;x0))":       "",
	"((.|.)|.)":         "",

	// {.} and {[t]}
	"{.}":             ".",
	"{[x=0]}":         ".",
	"{[y#1]}":         ".",
	"{[y<x]}":         ".",
	"{!}":             "",
	"{x+}":            "",
	"{x0}":            "",
	"{x?}":            "",
	"{yx}":            "",
	"{(.;.)}":         "",
	"{(.|.)}":         "",
	"{([x=0];[x=1])}": "",
	"{([x=0];[x=0])}": "",
	"{([x=0]|[x=1])}": "",

	// {{p}}
	"{{.}}":         "{.}",
	"{{[x=0]}}":     "{[x=0]}",
	"{{x+}}":        "{x+}",
	"{{!}}":         "{!}",
	"{{{x+}}}":      "{{x+}}",
	"{{(x0;x1)}}":   "{(x0;x1)}",
	"{({x+};{x+})}": "",
	"{({x+}|{x+})}": "",
	"{({x+};.)}":    "",
	"({{x+}};x0)":   "",
	"({x+}|x0)":     "",

	// atoms
	".": "", "!": "", "x0": "", "x+": "", "xy": "", "x?": "", "y+": "", "yx": "", "[x=0]": "", "[x#y]": "",
}

func TestP11Tops(t *testing.T) {
	for p, want := range topRows {
		if got, _ := topInText(p); got != want || !isProgram(p) {
			t.Fatalf("the test takes %q for what %q becomes", got, p)
		}
		checkTop(t, p, want)
		checkSimpler(t, p)
	}
}

// placedPrograms returns programs that are put in the place of p, q and r: all
// atoms, and programs that are made in many ways.
func placedPrograms() []string {
	programs := allAtomTexts()
	rows := programRows()
	for i := len(programs); i < len(rows); i += 17 {
		programs = append(programs, rows[i].text)
	}
	return programs
}

// textIf returns a text if something is so, and else "".
func textIf(isSo bool, text string) string {
	if isSo {
		return text
	}
	return ""
}

// checkTopOf checks what becomes of a text, if it is a program.
func checkTopOf(t *testing.T, text string, want string) {
	t.Helper()
	if isProgram(text) {
		checkTop(t, text, want)
	}
}

// TestP11RulesOfOneProgram uses each rule that has just one program in it.
func TestP11RulesOfOneProgram(t *testing.T) {
	for _, p := range placedPrograms() {
		checkTopOf(t, "(.;"+p+")", p)
		checkTopOf(t, "("+p+";.)", p)
		checkTopOf(t, "(!;"+p+")", "!")
		checkTopOf(t, "("+p+"|"+p+")", p)
		checkTopOf(t, "{{"+p+"}}", "{"+p+"}")
		if p == "." {
			checkTop(t, "((x+;y+);.)", "(x+;y+)")
		} else {
			checkTopOf(t, "((x+;y+);"+p+")", "(x+;(y+;"+p+"))")
		}
		checkTopOf(t, "((x+;"+p+");y+)", "(x+;("+p+";y+))")
		checkTopOf(t, "(("+p+";x+);y+)", "("+p+";(x+;y+))")
		if p != "." && p[0] != '[' && p[0] != '{' {
			checkTopOf(t, "{"+p+"}", "")
		}
		if p != "." && p != "!" && (p[0] != '(' || kindInText(p) != ';') {
			checkTopOf(t, "("+p+";!)", "")
		}
	}
}

// TestP11RulesOfAtoms takes each sequence and each choice of two atoms, and each
// loop of one.
func TestP11RulesOfAtoms(t *testing.T) {
	for i, a := range allAtomTexts() {
		isTest := i >= len(atomTexts)
		checkTop(t, "{"+a+"}", textIf(a == "." || isTest, "."))
		for k, b := range allAtomTexts() {
			want := ""
			switch {
			case a == ".":
				want = b
			case b == ".":
				want = a
			case a == "!":
				want = "!"
			case isTest && i == k:
				want = a
			case 2 <= i && i < 8 && 2 <= k && k < 8 && b != "x+", 8 <= i && i < 14 && 8 <= k && k < 14 && b != "y+":
				want = b
			}
			checkTop(t, "("+a+";"+b+")", want)
			checkTop(t, "("+a+"|"+b+")", textIf(i == k, a))
			checkSimpler(t, "("+a+";"+b+")")
			checkSimpler(t, "("+a+"|"+b+")")
		}
	}
}

// TestP11RulesOfThreePrograms puts programs in the place of p, q and r at the same
// time.
func TestP11RulesOfThreePrograms(t *testing.T) {
	draw := rand.New(rand.NewSource(11))
	programs := placedPrograms()
	for range 4000 {
		p, q, r := programs[draw.Intn(len(programs))], programs[draw.Intn(len(programs))], programs[draw.Intn(len(programs))]
		want := "(" + p + ";(" + q + ";" + r + "))"
		if r == "." {
			want = "(" + p + ";" + q + ")"
		}
		checkTopOf(t, "(("+p+";"+q+");"+r+")", want)
		if p != q {
			checkTopOf(t, "("+p+"|"+q+")", "")
		}
	}
}

// simplerRows are programs with what they are made simpler to, and how often a rule
// is used in this, written out so that they depend on nothing.
var simplerRows = []struct {
	p, want string
	count   int
}{
	// the document's example
	{"((x+;x0);{.})", "x0", 3},

	// programs that are plain
	{".", ".", 0},
	{"!", "!", 0},
	{"x+", "x+", 0},
	{"[x=0]", "[x=0]", 0},
	{"(x0;x+)", "(x0;x+)", 0},
	{"(x+;y0)", "(x+;y0)", 0},
	{"(x0|x1)", "(x0|x1)", 0},
	{"{x+}", "{x+}", 0},
	{"([x=0];[x<1])", "([x=0];[x<1])", 0},
	{"([x=0];[x=1])", "([x=0];[x=1])", 0},
	{"(x+;([x=0];!))", "(x+;([x=0];!))", 0},
	{"(([x=2];(.|(x+|([x=2];!))))|([x#2];x0))", "(([x=2];(.|(x+|([x=2];!))))|([x#2];x0))", 0},
	{"{(x+;{(y+;{(!|{yx})})})}", "{(x+;{(y+;{(!|{yx})})})}", 0},
	{"((x0|x1);(x0|x1))", "((x0|x1);(x0|x1))", 0},
	{"({x+};{x+})", "({x+};{x+})", 0},

	// one rule within something else
	{"(x+;(.;y+))", "(x+;y+)", 1},
	{"((.;y+)|x+)", "(y+|x+)", 1},
	{"(x+|(y+;.))", "(x+|y+)", 1},
	{"{(.;x+)}", "{x+}", 1},
	{"{(!;x+)}", "{!}", 1},
	{"(x+|(!;x+))", "(x+|!)", 1},
	{"(x+;(y0|y0))", "(x+;y0)", 1},
	{"(x+|{{x+}})", "(x+|{x+})", 1},
	{"(x+|{[y=0]})", "(x+|.)", 1},
	{"(x+;{(x0|{(x+;x0)})})", "(x+;{(x0|{x0})})", 1},

	// a rule that fits only after the parts are simpler
	{"((.|.);x+)", "x+", 2},
	{"(x+;(.|.))", "x+", 2},
	{"({.};x+)", "x+", 2},
	{"(x+;{[x=0]})", "x+", 2},
	{"((!|!);x+)", "!", 2},
	{"((!;y0);x+)", "!", 2},
	{"(([x=0]|[x=0]);[x=0])", "[x=0]", 2},
	{"([x=0];(.;[x=0]))", "[x=0]", 2},
	{"(x0;(.;x1))", "x1", 2},
	{"((x0|x0);x1)", "x1", 2},
	{"(x0|(.;x0))", "x0", 2},
	{"((x0;x1)|x1)", "x1", 2},
	{"{(.;.)}", ".", 2},
	{"{(.|.)}", ".", 2},
	{"{([x=0];[x=0])}", ".", 2},
	{"{({x+};.)}", "{x+}", 2},
	{"{({x+}|{x+})}", "{x+}", 2},
	{"{(.;(.|.))}", ".", 3},
	{"({.};{.})", ".", 3},
	{"({.}|{.})", ".", 3},
	{"({.}|.)", ".", 2},
	{"(({.}|.);x+)", "x+", 3},
	{"((x+;.)|(.;x+))", "x+", 3},
	{"({{x+}}|{x+})", "{x+}", 2},

	// a rule that fits no more after the parts are simpler
	{"((x1;x2);x+)", "(x2;x+)", 1},
	{"((.;x0);y0)", "(x0;y0)", 1},
	{"((x0;.);y0)", "(x0;y0)", 1},
	{"(({.};x0);y0)", "(x0;y0)", 2},
	{"((!;x0);y0)", "!", 2},
	{"{{.}}", ".", 2},
	{"{{[x=0]}}", ".", 2},
	{"{{(.|.)}}", ".", 3},

	// the parts first, then the rule, though it leaves them out
	{"(!;(.;x0))", "!", 2},
	{"(!;{{{x+}}})", "!", 3},
	{"(!;((x0;x1)|(x0;x1)))", "!", 4},
	{"((.;x0)|(.;x0))", "x0", 3},
	{"((x0;x1)|(x0;x1))", "x1", 3},
	{"({{x+}}|{{x+}})", "{x+}", 3},
	{"((.|.)|(.|.))", ".", 3},
	{"(((.|.)|(.|.))|((.|.)|(.|.)))", ".", 7},
	{"({.};(x+;{.}))", "x+", 4},

	// the first one of several rules that fit
	{"((x+;y+);.)", "(x+;y+)", 1},
	{"((x+;y+);(.|.))", "(x+;y+)", 2},
	{"(((x+;y+);x0);.)", "(x+;(y+;x0))", 2},
	{"((.;.);.)", ".", 2},
	{"(!;.)", "!", 1},
	{"(.;!)", "!", 1},
	{"(.;(!;.))", "!", 2},

	// a rule that fits only after another one has been used
	{"((y+;x0);x1)", "(y+;x1)", 2},
	{"((y+;[x=0]);[x=0])", "(y+;[x=0])", 2},
	{"((y+;!);x0)", "(y+;!)", 2},
	{"((x+;y+);(y0;x0))", "(x+;(y+;(y0;x0)))", 1},
	{"((x0;x+);x1)", "x1", 3},
	{"((x0;x+);x+)", "(x0;(x+;x+))", 1},
	{"((y0;y+);y1)", "y1", 3},
	{"((x+;(y+;x0));x1)", "(x+;(y+;x1))", 3},
	{"((x?;y?);{x+})", "(x?;(y?;{x+}))", 1},
	{"{((y+;x0);x1)}", "{(y+;x1)}", 2},
	{"(((y+;x0);x1)|(y+;x1))", "(y+;x1)", 3},
	{"(([x=0];(!;x0));x1)", "([x=0];!)", 3},

	// rules that do not look past what lies between
	{"(x0;(x1;x+))", "(x0;(x1;x+))", 0},
	{"(x0;(x1;y0))", "(x0;(x1;y0))", 0},
	{"([x=0];([x=0];x+))", "([x=0];([x=0];x+))", 0},
	{"(x0;([x=0];x1))", "(x0;([x=0];x1))", 0},
	{"(x0;(y0;x1))", "(x0;(y0;x1))", 0},
	{"(x0|(x0|x1))", "(x0|(x0|x1))", 0},
	{"(x0;(!|x1))", "(x0;(!|x1))", 0},

	// sequences that lean to the left
	{"((x+;y+);x+)", "(x+;(y+;x+))", 1},
	{"(((x+;y+);x+);y+)", "(x+;(y+;(x+;y+)))", 3},
	{"((((x+;y+);x+);y+);x+)", "(x+;(y+;(x+;(y+;x+))))", 6},
	{"(((((x+;y+);x+);y+);x+);y+)", "(x+;(y+;(x+;(y+;(x+;y+)))))", 10},
	{"((x+;y+);(x+;y+))", "(x+;(y+;(x+;y+)))", 1},
	{"(((x+;y+);(x+;y+));(x+;y+))", "(x+;(y+;(x+;(y+;(x+;y+)))))", 4},
	{"((x+;(y+;x+));y+)", "(x+;(y+;(x+;y+)))", 2},
	{"(((x0;y0);x1);y1)", "(x0;(y0;(x1;y1)))", 3},
	{"(((y0;x0);x1);x2)", "(y0;x2)", 4},
	{"(((x0;x1);x2);x+)", "(x2;x+)", 2},
	{"(((x+;x0);x+);x0)", "x0", 4},
	{"(((.;.);.);.)", ".", 3},
	{"(((!;.);.);.)", "!", 3},
	{"(((x+;!);x+);x+)", "(x+;!)", 4},
	{"(((!;x+);x+);x+)", "!", 3},
	{"{((x+;y+);x0)}", "{(x+;(y+;x0))}", 1},
	{"(((x+;y+);x0)|((x+;y+);x0))", "(x+;(y+;x0))", 3},
	{"(((x+;y+)|x0);y0)", "(((x+;y+)|x0);y0)", 0},

	// assignments to the same variable and to different ones
	{"(x0;(x1;x2))", "x2", 2},
	{"(x0;(x+;x2))", "x2", 2},
	{"(x0;(x1;(x+;x+)))", "(x0;(x1;(x+;x+)))", 0},
	{"(x0;(y1;x2))", "(x0;(y1;x2))", 0},
	{"(x0;(y1;y2))", "(x0;y2)", 1},
	{"(y?;(x?;y?))", "(y?;(x?;y?))", 0},
	{"(xy;(xy;xy))", "xy", 2},
	{"(xy;(yx;xy))", "(xy;(yx;xy))", 0},

	// programs without results, and ones that fail
	{"(([x=0];[x=1]);!)", "([x=0];([x=1];!))", 1},
	{"(([x=0];[x=1])|([x=0];[x=1]))", "([x=0];[x=1])", 1},
	{"{([x=0];[x=1])}", "{([x=0];[x=1])}", 0},
	{"(!|(!;!))", "!", 2},
	{"{(!;!)}", "{!}", 1},
}

func TestP11Simplified(t *testing.T) {
	for _, row := range simplerRows {
		checkSimplified(t, row.p, row.want, row.count)
		checkSimplified(t, row.want, row.want, 0)
		if got, count := simplestInText(row.p); got != row.want || count != row.count {
			t.Fatalf("the test takes %q by %d rules for %q", got, count, row.p)
		}
		if rowsBySteps(row.p) != rowsBySteps(row.want) {
			t.Fatalf("the test takes other results for those of %q", row.p)
		}
		checkSimpler(t, row.p)
	}
}

func TestP11DocumentExample(t *testing.T) {
	const p = "((x+;x0);{.})"
	checkTop(t, p, "(x+;(x0;{.}))")
	checkSimplified(t, p, "x0", 3)
	checkShortest(t, p, "x0")
	checkCompared(t, p, "x0", true, -1)
}

// leftChain returns a sequence that leans to the left as far as it can.
func leftChain(programs []string) string {
	p := programs[0]
	for _, next := range programs[1:] {
		p = "(" + p + ";" + next + ")"
	}
	return p
}

// rightChain returns a sequence that leans to the right.
func rightChain(programs []string) string {
	p := programs[len(programs)-1]
	for i := len(programs) - 2; i >= 0; i-- {
		p = "(" + programs[i] + ";" + p + ")"
	}
	return p
}

// TestP11LongSequences takes sequences up to those that are as long as a program may
// be. Each program behind the first two ones is moved past all that are ahead of it.
func TestP11LongSequences(t *testing.T) {
	for length := 2; length <= 12; length++ {
		var programs []string
		for i := range length {
			programs = append(programs, []string{"x+", "y+"}[i%2])
		}
		count := (length - 1) * (length - 2) / 2
		checkSimplified(t, leftChain(programs), rightChain(programs), count)
		programs[length/2] = "[x=0]"
		if p := leftChain(programs); len(p) > 60 || !isProgram(p) {
			t.Fatalf("the test takes %q for a program", p)
		}
		checkSimplified(t, leftChain(programs), rightChain(programs), count)
		checkSimpler(t, leftChain(programs))
		checkSimplified(t, rightChain(programs), rightChain(programs), 0)
		programs[0] = "!"
		checkSimplified(t, leftChain(programs), "!", length-1)
		checkSimplified(t, rightChain(programs), "!", 1)
	}
}

// TestP11Lengths takes programs of each length that they may have.
func TestP11Lengths(t *testing.T) {
	for bytes := 1; bytes <= 60; bytes++ {
		p := programOfBytes(bytes)
		want, count := []string{"{x+}", ".", "x+", "."}[bytes%4], (bytes-1)/4
		if bytes%4 == 3 {
			count++
		}
		checkSimplified(t, p, want, count)
		checkSimpler(t, p)
		checkShortest(t, p, shortestAtomInRows(rowsBySteps(want)))
		checkCompared(t, p, want, true, -1)
	}
	const choices = "((((x0|x0)|(x0|x0))|((x0|x0)|(x0|x0)))|((x0|x0)|x0))"
	const assigned = "(x0;(x1;(x2;(x0;(x1;(x2;(x0;(x1;(x2;(x0;(x1;"
	for _, row := range []struct {
		p, want string
		count   int
	}{
		{"((((((((((((((.;.);.);.);.);.);.);.);.);.);.);.);.);.);x0)", "x0", 14},
		{"((((((((((((((x0;.);.);.);.);.);.);.);.);.);.);.);.);.);.)", "x0", 14},
		{"(.;{{" + choices + "}})", "{x0}", 12},
		{assigned + "[x=0])))))))))))", assigned + "[x=0])))))))))))", 0},
		{assigned + "x?)))))))))))", "x?", 11},
	} {
		if len(row.p) < 57 || !isProgram(row.p) {
			t.Fatalf("the test takes %q for a long program", row.p)
		}
		checkSimplified(t, row.p, row.want, row.count)
		checkSimpler(t, row.p)
	}
}

// TestP11LoopsWithinEachOther takes as many loops within each other as there may be.
func TestP11LoopsWithinEachOther(t *testing.T) {
	for loops := 1; loops <= 6; loops++ {
		checkSimplified(t, loopsOf(loops, "x+"), "{x+}", loops-1)
		checkSimplified(t, loopsOf(loops, "!"), "{!}", loops-1)
		checkSimplified(t, loopsOf(loops, "."), ".", loops)
		checkSimplified(t, loopsOf(loops, "[y<x]"), ".", loops)
		checkSimplified(t, loopsOf(loops, "(.;.)"), ".", loops+1)
		checkSimplified(t, loopsOf(loops, "(x0;x1)"), "{x1}", loops)
		checkSimplified(t, loopsOf(loops, "(x0|x1)"), "{(x0|x1)}", loops-1)
		checkSimplified(t, "(.;"+loopsOf(loops, "x+")+")", "{x+}", loops)
		checkSimplified(t, "("+loopsOf(loops, "x+")+"|"+loopsOf(loops, "x+")+")", "{x+}", 2*loops-1)
		checkTop(t, loopsOf(loops, "x+"), textIf(loops > 1, loopsOf(loops-1, "x+")))
		checkCompared(t, loopsOf(loops, "x+"), "x?", true, -1)
		checkCompared(t, loopsOf(loops, "!"), "(.|!)", true, -1)
		checkShortest(t, loopsOf(loops, "x+"), "x?")
		checkShortest(t, loopsOf(loops, "[x=0]"), ".")
		checkShortest(t, loopsOf(loops, "!"), "")
	}
	checkSimplified(t, "{(.;{(.;{(.;{(.;{(.;{x+})})})})})}", "{x+}", 10)
	checkSimplified(t, "{(!|{(!|{(!|{(!|{(!|{x+})})})})})}", "{(!|{(!|{(!|{(!|{(!|{x+})})})})})}", 0)
}

// checkMadeSimpler checks what holds of each program that has been made simpler,
// and by the results of both, one step at a time.
func checkMadeSimpler(t *testing.T, p string) {
	t.Helper()
	checkSimpler(t, p)
	rows := rowsBySteps(p)
	checkShortest(t, p, shortestAtomInRows(rows))
	simpler, _ := impl.Simplify(p)
	if !isProgram(simpler) || len(simpler) > len(p) || rowsBySteps(simpler) != rows {
		t.Errorf("Simplify(%q) = %q, which has other results", p, simpler)
	}
	checkSimplified(t, simpler, simpler, 0)
	checkTop(t, simpler, "")
	if top, ok := impl.SimplerTop(p); ok && (!isProgram(top) || rowsBySteps(top) != rows) {
		t.Errorf("SimplerTop(%q) = %q, which has other results", p, top)
	}
	if atom, ok := impl.Shortest(p); ok {
		checkCompared(t, p, atom, true, -1)
	}
}

func TestP11MadePrograms(t *testing.T) {
	for i, row := range programRows() {
		checkSimpler(t, row.text)
		if i%6 == 0 {
			checkMadeSimpler(t, row.text)
		}
	}
}

// drawnToSimplify returns a program that is drawn, in which rules often fit.
func drawnToSimplify(draw *rand.Rand, depth int) string {
	atoms := []string{".", "!", "x0", "x1", "x+", "x+", "xy", "y+", "y?", "[x=0]", "[x=0]", "[x<y]"}
	if depth == 0 || draw.Intn(9) == 0 {
		return atoms[draw.Intn(len(atoms))]
	}
	p := drawnToSimplify(draw, depth-1)
	switch draw.Intn(7) {
	case 0:
		return "{" + p + "}"
	case 1:
		return "(" + p + "|" + p + ")"
	case 2:
		return "(" + p + "|" + drawnToSimplify(draw, depth-1) + ")"
	}
	return "(" + p + ";" + drawnToSimplify(draw, depth-1) + ")"
}

// TestP11DrawnPrograms takes programs that are always drawn in the same way.
func TestP11DrawnPrograms(t *testing.T) {
	draw := rand.New(rand.NewSource(1))
	for count := 0; count < 6000; {
		p := drawnToSimplify(draw, 2+count%4)
		if !isProgram(p) {
			continue
		}
		count++
		checkSimpler(t, p)
		if count%6 == 0 {
			checkMadeSimpler(t, p)
		}
	}
}

// shortestAtomRows are programs with the first atoms that have the same results, ""
// if there are none.
var shortestAtomRows = map[string]string{
	// the atoms themselves, and those ahead of them
	".": ".", "!": "!", "x0": "x0", "xy": "xy", "x+": "x+", "x?": "x?", "y1": "y1", "yx": "yx", "y+": "y+", "y?": "y?",
	"[x=0]": "[x=0]", "[x<1]": "[x=0]", "[x#2]": "[x#2]", "[x<2]": "[x#2]", "[y<1]": "[y=0]", "[y<2]": "[y#2]", "[x#0]": "[x#0]", "[x=y]": "[x=y]", "[y<x]": "[y<x]",

	// programs that do nothing
	"{.}": ".", "(.|.)": ".", "(x+;(x+;x+))": ".", "{[x=0]}": ".", "([x=0]|[x#0])": ".", "{([x=0];[x=1])}": ".", "([x<y]|([x=y]|[y<x]))": ".",

	// programs that fail at once
	"(!;.)": "!", "(!|!)": "!", "([x=0];!)": "", "(([x=0];!)|([x#0];!))": "!", "(.|!)": "", "(x0;!)": "", "(x+;(x+;(x+;!)))": "!", "(!;{x+})": "!",

	// assignments
	"(x0;x1)": "x1", "(x0;x+)": "x1", "(x0;(x+;x+))": "x2", "(x2;x+)": "x0", "(y1;y+)": "y2", "{x+}": "x?", "{x?}": "x?", "(x?|x0)": "x?", "(x0|(x1|x2))": "x?", "{{y+}}": "y?", "(x?;x+)": "x?",
	"(x+;x+)": "", "(xy;yx)": "xy", "(yx;xy)": "yx", "(x0;y0)": "", "(x0|x1)": "", "(x?;y?)": "", "([x=0]|([x=1];x0))": "", "(([x=0];x1)|(([x=1];x2)|([x=2];x0)))": "x+",

	// tests
	"([x#0];[x#1])": "[x=2]", "([x=0]|[x=1])": "[x#2]", "([x=1]|[x=2])": "[x#0]", "([x<y]|[y<x])": "[x#y]", "([y#0];[y#2])": "[y=1]", "([x=y]|([x<y]|[y<x]))": ".", "([x=0];.)": "[x=0]", "([x=0];x0)": "[x=0]", "([x=y];xy)": "[x=y]", "(([x=0];[y=0])|(([x=1];[y=1])|([x=2];[y=2])))": "[x=y]",
	"([x=0];[y=0])": "", "([x#0]|[y#0])": "", "([x=0];x1)": "",

	// no results at all
	"([x<y];[y<x])": "", "([x=0];[x=1])": "", "(([x=0];[x=1]);!)": "",
}

func TestP11Shortest(t *testing.T) {
	for p, want := range shortestAtomRows {
		checkShortest(t, p, want)
		if got := shortestAtomInRows(rowsBySteps(p)); got != want {
			t.Fatalf("the test takes %q for the shortest one of %q", got, p)
		}
	}
}

// TestP11ShortestOfPairs takes each sequence and each choice of two atoms.
func TestP11ShortestOfPairs(t *testing.T) {
	first := map[[9][2]int]string{}
	atoms := allAtomTexts()
	for i := len(atoms) - 1; i >= 0; i-- {
		first[rowsBySteps(atoms[i])] = atoms[i]
	}
	for _, a := range atoms {
		checkShortest(t, a, first[rowsBySteps(a)])
		for _, b := range atoms {
			for _, p := range []string{"(" + a + ";" + b + ")", "(" + a + "|" + b + ")"} {
				checkShortest(t, p, first[rowsBySteps(p)])
			}
		}
	}
}

// TestP11DeepProgramsTakeNotLong takes programs whose runs are very many, and that
// are made simpler in many steps.
func TestP11DeepProgramsTakeNotLong(t *testing.T) {
	long := leftChain([]string{"x+", "y+", "x+", "y+", "x+", "y+", "x+", "y+", "x+", "y+", "x+", "[x=0]"})
	for _, p := range []string{loopsOf(6, "x+"), loopsOf(6, "(x+|(y+|!))"), loopsOf(6, roundOfStates), "({{{{{{x+}}}}}};({{{{{{y+}}}}}};{{{{{{(x+|!)}}}}}}))", "{({({({({({x+};{y+})};{y+})};{x+})};{y+})};{x+})}", long, "(x?;(x?;(x?;(x?;(x?;(x?;(x?;(x?;(x?;(x?;(x?;!)))))))))))", programOfBytes(60)} {
		if !isProgram(p) {
			t.Fatalf("the test takes %q for a program", p)
		}
		checkMadeSimpler(t, p)
		for range 50 {
			impl.Simplify(p)
			impl.Shortest(p)
			impl.SameResults(p, p)
		}
	}
}

// checkNotCompared checks that nothing is told of two texts of which one is no
// program.
func checkNotCompared(t *testing.T, p string, q string) {
	t.Helper()
	if impl.SameResults(p, q) {
		t.Errorf("SameResults(%.70q, %.70q) = true", p, q)
	}
	if impl.IsBelow(p, q) {
		t.Errorf("IsBelow(%.70q, %.70q) = true", p, q)
	}
	if state, ok := impl.Differs(p, q); state != 0 || ok {
		t.Errorf("Differs(%.70q, %.70q) = %d, %v", p, q, state, ok)
	}
}

// TestP11NoPrograms takes texts that are no programs, as the first argument, as the
// second one and as both. Programs without results are not the same as these.
func TestP11NoPrograms(t *testing.T) {
	for _, text := range append([]string{"{" + programOfBytes(59) + "}", loopsOf(7, "."), "(.;" + programOfBytes(57) + ")", "(.;x3)", "(!;q)", "([x=3];[x=3])", "(xx;x0)", "(.;.;.)", "(x0|x0", "{{x+}", "{.};."}, noPrograms...) {
		for _, p := range []string{".", "!", "x?", "(.|!)", "([x=0];[x=1])", "{(x?|(y?|!))}"} {
			checkNotCompared(t, text, p)
			checkNotCompared(t, p, text)
		}
		checkNotCompared(t, text, text)
		checkNotCompared(t, text, "q")
		if got, ok := impl.Simplify(text); got != "" || ok {
			t.Errorf("Simplify(%.70q) = %q, %v", text, got, ok)
		}
		if got, ok := impl.SimplerTop(text); got != "" || ok {
			t.Errorf("SimplerTop(%.70q) = %q, %v", text, got, ok)
		}
		if got, ok := impl.Shortest(text); got != "" || ok {
			t.Errorf("Shortest(%.70q) = %q, %v", text, got, ok)
		}
		if got := impl.CountSimpler(text); got != -1 {
			t.Errorf("CountSimpler(%.70q) = %d", text, got)
		}
		if impl.IsPlain(text) {
			t.Errorf("IsPlain(%.70q) = true", text)
		}
	}
}

// TestP11CallsBesideEachOther makes several programs simpler at the same time, over
// and over: each becomes what it does by itself, and nothing is kept.
func TestP11CallsBesideEachOther(t *testing.T) {
	var working sync.WaitGroup
	wrong := make([]string, len(simplerRows))
	for i, row := range simplerRows {
		working.Add(1)
		go func() {
			defer working.Done()
			for range 30 {
				got, _ := impl.Simplify(row.p)
				if got != row.want || impl.CountSimpler(row.p) != row.count {
					wrong[i] = got + " "
				}
			}
		}()
	}
	working.Wait()
	for i, got := range wrong {
		if got != "" {
			t.Errorf("Simplify(%q) = %q beside others", simplerRows[i].p, got)
		}
	}
}
