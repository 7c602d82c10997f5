package tests

import (
	"math/rand"
	"slices"
	"strings"
	"testing"

	"loop.example/surelywrong/impl"
)

// maxChoices is how many choices are made in a run at most.
const maxChoices = 40

// A told is what choices tell of a run: its exit, the text of the state in which
// it ends, and those behind the atoms that are done in it.
type told struct {
	exit  int
	end   string
	trace []string
}

// lettersOf returns what is chosen for the steps that there are from a place, in
// their order, and "" where nothing is chosen.
func lettersOf(p string) []string {
	switch {
	case p[0] == '{':
		return []string{"e", "m"}
	case kindInText(p) == '|':
		return []string{"l", "r"}
	case strings.HasSuffix(p, "?"):
		return []string{"0", "1", "2"}
	}
	return []string{""}
}

// toldInText follows a run one step at a time, as choices tell it, and reports
// whether they are right.
func toldInText(p string, state int, choices string) (told, bool) {
	var run told
	isRight := len(choices) <= maxChoices
	for c := (config{stateTexts[state], p}); ; {
		if c.todo == "" || c.todo[0] == '!' {
			if c.todo != "" {
				run.exit, run.trace = 1, append(run.trace, c.state)
			}
			run.end = c.state
			return run, isRight && choices == ""
		}
		p, _, _ := strings.Cut(c.todo, " ")
		letters, chosen := lettersOf(p), -1
		for i := range steps(c) {
			if strings.HasPrefix(choices, letters[i]) {
				chosen = i
			}
		}
		if chosen < 0 {
			return told{}, false
		}
		c, choices = steps(c)[chosen], choices[len(letters[chosen]):]
		if kindInText(p) == 0 {
			run.trace = append(run.trace, c.state)
		}
	}
}

// A toldPlace is a place to which choices lead.
type toldPlace struct {
	choices string
	config
}

// shortestInText returns the shortest choices, of any length, by the exit and the
// text of the state with which runs from a state end. It goes through all places,
// those that are come to by fewer choices first, and by choices of one length in
// the order of bytes, since letters of one place are in this order.
func shortestInText(p string, state int) [2]map[string]string {
	shortest := [2]map[string]string{{}, {}}
	seen := map[config]bool{}
	for level := []toldPlace{{"", config{stateTexts[state], p}}}; len(level) > 0; {
		var next []toldPlace
		for _, place := range level {
			next = append(next, placesBehind(place, seen, shortest)...)
		}
		level = next
	}
	return shortest
}

// placesBehind returns the places to which one more choice leads, and notes that
// a run ends if it does so ahead of it.
func placesBehind(place toldPlace, seen map[config]bool, shortest [2]map[string]string) []toldPlace {
	for !seen[place.config] {
		seen[place.config] = true
		if place.todo == "" {
			shortest[0][place.state] = place.choices
			return nil
		}
		if place.todo[0] == '!' {
			if _, found := shortest[1][place.state]; !found {
				shortest[1][place.state] = place.choices
			}
			return nil
		}
		p, _, _ := strings.Cut(place.todo, " ")
		letters, next := lettersOf(p), steps(place.config)
		if len(next) == 0 {
			return nil
		}
		if len(letters) > 1 {
			var places []toldPlace
			for i, letter := range letters {
				places = append(places, toldPlace{place.choices + letter, next[i]})
			}
			return places
		}
		place.config = next[0]
	}
	return nil
}

// isAhead reports whether choices are shorter than others, or as long and ahead of
// them in the order of bytes.
func isAhead(a string, b string) bool {
	return len(a) < len(b) || len(a) == len(b) && a < b
}

// reportInText returns the report that is made of the shortest choices.
func reportInText(shortest [2]map[string]string) (string, bool) {
	report, found := "", false
	for _, choices := range shortest[1] {
		if !found || isAhead(choices, report) {
			report, found = choices, true
		}
	}
	if len(report) > maxChoices {
		return "", false
	}
	return report, found
}

// textsOfStates returns the texts of states.
func textsOfStates(states []int) []string {
	var texts []string
	for _, state := range states {
		if state < 0 || state >= len(stateTexts) {
			return []string{"none"}
		}
		texts = append(texts, stateTexts[state])
	}
	return texts
}

// checkRun checks what is told of a run whose choices are right.
func checkRun(t *testing.T, p string, state int, choices string, want told) {
	t.Helper()
	exit, end, ok := impl.RunWith(p, state, choices)
	if exit != want.exit || !ok || !slices.Equal(textsOfStates([]int{end}), []string{want.end}) {
		t.Errorf("RunWith(%q, %d, %q) = %d, %d, %v, want %d, %s", p, state, choices, exit, end, ok, want.exit, want.end)
	}
	if trace, ok := impl.TraceOf(p, state, choices); !slices.Equal(textsOfStates(trace), want.trace) || !ok {
		t.Errorf("TraceOf(%q, %d, %q) = %v, %v, want %v", p, state, choices, trace, ok, want.trace)
	}
	if !impl.ChoicesRight(p, state, choices) {
		t.Errorf("ChoicesRight(%q, %d, %q) = false", p, state, choices)
	}
}

// checkNoRun checks that nothing is told where choices are not right.
func checkNoRun(t *testing.T, p string, state int, choices string) {
	t.Helper()
	if exit, end, ok := impl.RunWith(p, state, choices); exit != 0 || end != 0 || ok {
		t.Errorf("RunWith(%.70q, %d, %.70q) = %d, %d, %v", p, state, choices, exit, end, ok)
	}
	if trace, ok := impl.TraceOf(p, state, choices); len(trace) != 0 || ok {
		t.Errorf("TraceOf(%.70q, %d, %.70q) = %v, %v", p, state, choices, trace, ok)
	}
	if impl.ChoicesRight(p, state, choices) {
		t.Errorf("ChoicesRight(%.70q, %d, %.70q) = true", p, state, choices)
	}
}

// checkTold checks what is told by choices, right or not.
func checkTold(t *testing.T, p string, state int, choices string) {
	t.Helper()
	if want, isRight := toldInText(p, state, choices); isRight {
		checkRun(t, p, state, choices, want)
	} else {
		checkNoRun(t, p, state, choices)
	}
}

// checkChoicesFor checks the shortest choices from a state to another one.
func checkChoicesFor(t *testing.T, p string, state int, exit int, end int, want string, found bool) {
	t.Helper()
	if got, ok := impl.ChoicesFor(p, state, exit, end); got != want || ok != found {
		t.Errorf("ChoicesFor(%.70q, %d, %d, %d) = %q, %v, want %q, %v", p, state, exit, end, got, ok, want, found)
	}
}

// checkReport checks the report of a program from a state.
func checkReport(t *testing.T, p string, state int, want string, found bool) {
	t.Helper()
	if got, ok := impl.ReportOf(p, state); got != want || ok != found {
		t.Errorf("ReportOf(%.70q, %d) = %q, %v, want %q, %v", p, state, got, ok, want, found)
	}
}

// checkAllReports checks the reports of a program from all states.
func checkAllReports(t *testing.T, p string, want string) {
	t.Helper()
	if got, ok := impl.AllReports(p); got != want || !ok {
		t.Errorf("AllReports(%q) = %q, %v, want %q", p, got, ok, want)
	}
}

// checkChanged checks choices in which one is left out, added or another one.
func checkChanged(t *testing.T, p string, state int, choices string) {
	t.Helper()
	for i := range len(choices) + 1 {
		for _, letter := range strings.Split("0 1 2 e l m r", " ") {
			checkTold(t, p, state, choices[:i]+letter+choices[i:])
			if i < len(choices) {
				checkTold(t, p, state, choices[:i]+letter+choices[i+1:])
			}
		}
		if i < len(choices) {
			checkTold(t, p, state, choices[:i]+choices[i+1:])
		}
	}
}

// checkReports checks all that is told of a program, from each state, by runs that
// are followed one step at a time.
func checkReports(t *testing.T, p string) {
	t.Helper()
	var reports []string
	for state := range 9 {
		shortest := shortestInText(p, state)
		for exit := range 2 {
			for end := range 9 {
				choices, found := shortest[exit][stateTexts[end]]
				if len(choices) > maxChoices {
					checkNoRun(t, p, state, choices)
					choices, found = "", false
				}
				checkChoicesFor(t, p, state, exit, end, choices, found)
				if found {
					checkTold(t, p, state, choices)
				}
			}
		}
		report, found := reportInText(shortest)
		checkReport(t, p, state, report, found)
		if found {
			reports = append(reports, stateTexts[state]+":"+report)
			checkChanged(t, p, state, report)
		}
	}
	if len(reports) == 0 {
		reports = []string{"-"}
	}
	checkAllReports(t, p, strings.Join(reports, ";"))
}

// runRows are runs by right choices, written out so that they depend on nothing.
var runRows = []struct {
	p, from, choices string
	exit             int
	end, trace       string
}{
	// atoms
	{".", "12", "", 0, "12", "12"},
	{"!", "12", "", 1, "12", "12"},
	{"x0", "12", "", 0, "02", "02"},
	{"y1", "12", "", 0, "11", "11"},
	{"xy", "12", "", 0, "22", "22"},
	{"yx", "12", "", 0, "11", "11"},
	{"x+", "12", "", 0, "22", "22"},
	{"x+", "22", "", 0, "02", "02"},
	{"y+", "12", "", 0, "10", "10"},
	{"x?", "12", "0", 0, "02", "02"},
	{"x?", "12", "1", 0, "12", "12"},
	{"x?", "12", "2", 0, "22", "22"},
	{"y?", "12", "0", 0, "10", "10"},
	{"y?", "12", "1", 0, "11", "11"},
	{"y?", "12", "2", 0, "12", "12"},
	{"[x=1]", "12", "", 0, "12", "12"},
	{"[x<y]", "12", "", 0, "12", "12"},

	// sequences, of which the first part may fail
	{"(x+;y+)", "00", "", 0, "11", "10 11"},
	{"(x0;(y0;.))", "21", "", 0, "00", "01 00 00"},
	{"((x0;y0);.)", "21", "", 0, "00", "01 00 00"},
	{"(x?;y?)", "00", "12", 0, "12", "10 12"},
	{"(y?;x?)", "00", "12", 0, "21", "01 21"},
	{"(x?;x?)", "00", "20", 0, "00", "20 00"},
	{"(x+;!)", "00", "", 1, "10", "10 10"},
	{"(!;x+)", "11", "", 1, "11", "11"},
	{"(!;x?)", "11", "", 1, "11", "11"},
	{"(!;!)", "11", "", 1, "11", "11"},
	{"(x?;(!;y?))", "11", "2", 1, "21", "21 21"},
	{"(!;{x+})", "00", "", 1, "00", "00"},
	{"(!;(x0|x1))", "00", "", 1, "00", "00"},
	{"((!;x?);(x?;y?))", "00", "", 1, "00", "00"},
	{"(x+;([x=0];!))", "20", "", 1, "00", "00 00 00"},
	{"([x=0];([y=1];!))", "01", "", 1, "01", "01 01 01"},
	{"(x?;[x=y])", "02", "2", 0, "22", "22 22"},

	// choices
	{"(x0|!)", "11", "l", 0, "01", "01"},
	{"(x0|!)", "11", "r", 1, "11", "11"},
	{"(!|x0)", "11", "l", 1, "11", "11"},
	{"(!|x0)", "11", "r", 0, "01", "01"},
	{"(x?|y?)", "00", "l2", 0, "20", "20"},
	{"(x?|y?)", "00", "r2", 0, "02", "02"},
	{"((x0|x1)|x2)", "11", "ll", 0, "01", "01"},
	{"((x0|x1)|x2)", "11", "lr", 0, "11", "11"},
	{"((x0|x1)|x2)", "11", "r", 0, "21", "21"},
	{"((x0|x1);(y0|y2))", "11", "lr", 0, "02", "01 02"},
	{"((x0|x1);(y0|y2))", "11", "rl", 0, "10", "11 10"},
	{"([x=0]|[x=1])", "00", "l", 0, "00", "00"},
	{"([x=0]|[x=1])", "10", "r", 0, "10", "10"},
	{"(x+;((y+;.)|!))", "00", "l", 0, "11", "10 11 11"},

	// loops
	{"{x+}", "00", "e", 0, "00", ""},
	{"{x+}", "00", "me", 0, "10", "10"},
	{"{x+}", "00", "mmmme", 0, "10", "10 20 00 10"},
	{"{.}", "22", "mme", 0, "22", "22 22"},
	{"{[x=0]}", "01", "mme", 0, "01", "01 01"},
	{"{[x=0]}", "11", "e", 0, "11", ""},
	{"{x?}", "00", "m2m1e", 0, "10", "20 10"},
	{"{(x+|y+)}", "00", "mlmrmle", 0, "21", "10 11 21"},
	{"({x+};y+)", "00", "me", 0, "11", "10 11"},
	{"({x+};{y+})", "00", "mmeme", 0, "21", "10 20 21"},
	{"({x+};!)", "00", "me", 1, "10", "10 10"},
	{"({x+}|{y+})", "00", "rmme", 0, "02", "01 02"},

	// loops whose body fails the first time, and later
	{"{!}", "00", "e", 0, "00", ""},
	{"{!}", "00", "m", 1, "00", "00"},
	{"{(x+;!)}", "00", "m", 1, "10", "10 10"},
	{"{(!;x+)}", "00", "m", 1, "00", "00"},
	{"({!};x?)", "00", "m", 1, "00", "00"},
	{"({!};x?)", "00", "e1", 0, "10", "10"},
	{"{(!|x+)}", "00", "ml", 1, "00", "00"},
	{"{(!|x+)}", "00", "mrmrml", 1, "20", "10 20 20"},
	{"{(x+|([x=2];!))}", "00", "mlmlmr", 1, "20", "10 20 20 20"},
	{"{(x+|([x=2];!))}", "00", "mlmlmlmlmlmr", 1, "20", "10 20 00 10 20 20 20"},
	{"{(x+|([x=2];!))}", "00", "mlmle", 0, "20", "10 20"},

	// loops within loops
	{"{{x+}}", "00", "e", 0, "00", ""},
	{"{{x+}}", "00", "mee", 0, "00", ""},
	{"{{x+}}", "00", "memee", 0, "00", ""},
	{"{{x+}}", "00", "mmemmmee", 0, "00", "10 20 00"},
	{"{{!}}", "00", "mm", 1, "00", "00"},
	{"{{!}}", "00", "memm", 1, "00", "00"},
	{"{({x+};y+)}", "00", "mmemee", 0, "12", "10 11 12"},
	{"{({x+};{(y+|!)})}", "00", "mmemlmr", 1, "11", "10 11 11"},
	{"{{{{{{x+}}}}}}", "00", "mmmmmmeeeeee", 0, "10", "10"},
	{"{{{{{{!}}}}}}", "00", "mmmmmm", 1, "00", "00"},

	// the set of choices that is as large as it may be
	{"{x+}", "00", "mmmmmmmmmmmmmmmmmmmmmmmmmmmmmmmmmmmmmmme", 0, "00", "10 20 00 10 20 00 10 20 00 10 20 00 10 20 00 10 20 00 10 20 00 10 20 00 10 20 00 10 20 00 10 20 00 10 20 00 10 20 00"},
	{"{(y+|!)}", "00", "mlmlmlmlmlmlmlmlmlmlmlmlmlmlmlmlmlmlmlmr", 1, "01", "01 02 00 01 02 00 01 02 00 01 02 00 01 02 00 01 02 00 01 01"},
}

func TestP10MaxChoices(t *testing.T) {
	if impl.MaxChoices != maxChoices {
		t.Errorf("MaxChoices = %d", impl.MaxChoices)
	}
}

func TestP10Runs(t *testing.T) {
	for _, row := range runRows {
		state := slices.Index(stateTexts, row.from)
		want := told{row.exit, row.end, strings.Fields(row.trace)}
		checkRun(t, row.p, state, row.choices, want)
		got, isRight := toldInText(row.p, state, row.choices)
		if got.exit != want.exit || got.end != want.end || !slices.Equal(got.trace, want.trace) || !isRight {
			t.Fatalf("the test takes %v, %v for what %q tells of %q", got, isRight, row.choices, row.p)
		}
		checkChanged(t, row.p, state, row.choices)
	}
}

// TestP10NotRight takes choices that are not right, written out.
func TestP10NotRight(t *testing.T) {
	for _, c := range []struct{ p, from, choices string }{
		// left over behind the program
		{".", "00", "e"}, {".", "00", "0"}, {"x+", "00", "1"}, {"x0", "00", "0"}, {"[x=0]", "00", "l"},
		{"x?", "00", "00"}, {"x?", "00", "0e"}, {"(x+;y+)", "00", "l"}, {"(x?;y?)", "00", "012"},
		{"(x0|!)", "00", "ll"}, {"(x0|!)", "00", "lr"}, {"{x+}", "00", "ee"}, {"{x+}", "00", "em"}, {"{x+}", "00", "mee"}, {"{{x+}}", "00", "meee"},

		// left over when it has failed
		{"!", "00", "e"}, {"!", "00", "0"}, {"(x0|!)", "00", "rr"}, {"(!;x?)", "00", "0"}, {"(!;{x+})", "00", "e"}, {"(!;{x+})", "00", "me"},
		{"(!;(x0|x1))", "00", "l"}, {"{!}", "00", "me"}, {"{!}", "00", "mm"}, {"{{!}}", "00", "mmee"}, {"({!};x?)", "00", "m0"}, {"{(!|x+)}", "00", "mle"},
		{"(x+;([x=0];!))", "20", "e"}, {"({x+};!)", "00", "ee"}, {"{(x+|([x=2];!))}", "00", "mlmlmre"},

		// too few
		{"x?", "00", ""}, {"y?", "00", ""}, {"(x?;y?)", "00", "0"}, {"(x?;y?)", "00", ""}, {"(x0|!)", "00", ""}, {"((x0|x1)|x2)", "00", "l"},
		{"((x0|x1);(y0|y1))", "00", "l"}, {"{x+}", "00", ""}, {"{x+}", "00", "m"}, {"{x+}", "00", "mm"}, {"{x?}", "00", "m"}, {"{x?}", "00", "m0"},
		{"{{x+}}", "00", "m"}, {"{{x+}}", "00", "me"}, {"{{x+}}", "00", "mm"}, {"{{x+}}", "00", "mme"}, {"({x+};!)", "00", "m"}, {"({.};{.})", "00", "e"}, {"{(!|x+)}", "00", "m"}, {"{(!|x+)}", "00", "mr"},

		// choices that there are not at that place
		{"x?", "00", "3"}, {"x?", "00", "/"}, {"x?", "00", "l"}, {"x?", "00", "e"}, {"x?", "00", "x"}, {"x?", "00", "+"}, {"x?", "00", "?"}, {"y?", "00", "9"}, {"y?", "00", " "}, {"y?", "00", "x"}, {"y?", "00", "m"},
		{"(x0|!)", "00", "x"}, {"(x0|!)", "00", "m"}, {"(x0|!)", "00", "e"}, {"(x0|!)", "00", "0"}, {"(x0|!)", "00", "L"}, {"(x0|!)", "00", "R"}, {"(x0|!)", "00", "1"},
		{"{x+}", "00", "l"}, {"{x+}", "00", "r"}, {"{x+}", "00", "0"}, {"{x+}", "00", "me0"}, {"{x+}", "00", "E"}, {"{x+}", "00", "M"}, {"{x+}", "00", "ml"}, {"{x+}", "00", "mr"},
		{"{(!|x+)}", "00", "lm"}, {"{(!|x+)}", "00", "mm"}, {"(x?|{y?})", "00", "re0"}, {"(x?|{y?})", "00", "l3"}, {"(x?|{y?})", "00", "rml"},
		{"{x+}", "00", " e"}, {"{x+}", "00", "e "}, {"{x+}", "00", "m e"}, {"{x+}", "00", "me\n"}, {"{x+}", "00", "\x00e"}, {"{x+}", "00", "\xff"},

		// choices for what is not done
		{"(x0|y?)", "00", "l0"}, {"(x?|y0)", "00", "r0"}, {"{x?}", "00", "e0"}, {"([x=1];x?)", "00", "0"}, {"([x=1];(.|!))", "00", "r"},

		// tests that do not hold
		{"[x=1]", "00", ""}, {"[x<y]", "11", ""}, {"(x+;([x=0];!))", "00", ""}, {"([x=0];[x=1])", "00", ""}, {"(x?;[x=y])", "01", "2"}, {"(x?;[x=y])", "01", "0"},
		{"([x=0]|[x=1])", "00", "r"}, {"([x=0]|[x=1])", "10", "l"}, {"([x=1];!)", "00", ""}, {"([x=1]|!)", "00", "l"}, {"{[x=0]}", "11", "me"}, {"{([x<2];x+)}", "00", "mmme"},
		{"{(x+|([x=2];!))}", "00", "mlmr"}, {"{(x+|([x=2];!))}", "00", "mr"}, {"{(x+|([x=2];!))}", "00", "mlmlmlmr"}, {"({x+};[x=2])", "00", "me"}, {"{({x+};[x=2])}", "00", "mmee"},
	} {
		state := slices.Index(stateTexts, c.from)
		checkNoRun(t, c.p, state, c.choices)
		if got, isRight := toldInText(c.p, state, c.choices); isRight {
			t.Fatalf("the test takes %v for what %q tells of %q", got, c.choices, c.p)
		}
	}
}

// TestP10ShortChoices takes all choices of up to four bytes with some programs: of
// those that are right, the first ones that end in the same way are the shortest.
func TestP10ShortChoices(t *testing.T) {
	texts := []string{""}
	for first := 0; len(texts[first]) < 4; first++ {
		for _, letter := range []byte("012elmr?") {
			texts = append(texts, texts[first]+string(letter))
		}
	}
	for i, p := range []string{
		".", "!", "x?", "(x?;y?)", "(x?|y?)", "((.|.)|.)", "((!|.);(.|!))", "((x?;[x=y])|{y+})", "(x?;([x=y];!))",
		"{x+}", "{!}", "{(x+|!)}", "{{x+}}", "{({x+}|!)}", "({x+};{y+})", "({!};x?)", "{x?}", "{(x?;[x#0])}", "{((.|!)|(x+;y?))}",
	} {
		state := i * 5 % 9
		first := [2]map[string]string{{}, {}}
		for _, choices := range texts {
			want, isRight := toldInText(p, state, choices)
			if _, found := first[want.exit][want.end]; isRight && !found {
				first[want.exit][want.end] = choices
			}
			checkTold(t, p, state, choices)
		}
		for exit := range 2 {
			for end, text := range stateTexts {
				if choices, found := first[exit][text]; found {
					checkChoicesFor(t, p, state, exit, end, choices, true)
				} else if choices, ok := impl.ChoicesFor(p, state, exit, end); ok && len(choices) <= 4 {
					t.Errorf("ChoicesFor(%q, %d, %d, %d) = %q", p, state, exit, end, choices)
				}
			}
		}
	}
}

// TestP10AllBytes takes each byte where there is something to choose.
func TestP10AllBytes(t *testing.T) {
	for c := range 256 {
		letter := string([]byte{byte(c)})
		for _, p := range []string{".", "!", "x+", "x?", "y?", "(x+|!)", "{x+}", "{!}", "[x=1]"} {
			checkTold(t, p, 4, letter)
			checkTold(t, p, 4, letter+"e")
			checkTold(t, p, 4, "m"+letter)
			checkTold(t, "("+p+";x?)", 4, letter+"1")
		}
	}
}

func TestP10Atoms(t *testing.T) {
	for _, row := range atomRows() {
		checkReports(t, row.text)
		checkReports(t, "{"+row.text+"}")
		checkReports(t, "({"+row.text+"};!)")
		checkReports(t, "{("+row.text+";!)}")
	}
}

func TestP10PairsOfAtoms(t *testing.T) {
	rows := atomRows()
	for i, p := range rows {
		for j, q := range rows {
			if (i+j)%3 == 0 {
				checkReports(t, "("+p.text+"|"+q.text+")")
				checkReports(t, "("+p.text+";"+q.text+")")
				checkReports(t, "{("+p.text+"|("+q.text+";!))}")
			}
		}
	}
}

func TestP10MadePrograms(t *testing.T) {
	for i, row := range programRows() {
		if i%4 == 0 {
			checkReports(t, row.text)
		}
	}
}

// TestP10DrawnPrograms takes programs that are always drawn in the same way.
func TestP10DrawnPrograms(t *testing.T) {
	draw := rand.New(rand.NewSource(10))
	counts := map[int]int{}
	for count := 0; count < 700; {
		p := drawnProgram(draw, 3+count%5)
		if !isProgram(p) {
			continue
		}
		checkReports(t, p)
		if report, ok := impl.ReportOf(p, count%9); ok {
			counts[min(len(report), 6)]++
		}
		count++
	}
	for length := range 7 {
		if counts[length] < 5 {
			t.Errorf("%d drawn programs have reports of %d choices", counts[length], length)
		}
	}
}

// TestP10EachReportIsOfARunThatFails takes the promise by its word, and the other
// way round: where a program fails there is a report.
func TestP10EachReportIsOfARunThatFails(t *testing.T) {
	for i, row := range programRows() {
		for _, state := range []int{i % 9, i * 5 % 9} {
			failed, _ := impl.ErrorsOf(row.text, state)
			report, ok := impl.ReportOf(row.text, state)
			if ok != (failed != 0) {
				t.Errorf("ReportOf(%q, %d) = %q, %v, and it fails in %s", row.text, state, report, ok, textOf(failed))
			}
			if !ok {
				continue
			}
			exit, end, isRight := impl.RunWith(row.text, state, report)
			if exit != 1 || !isRight || withoutStates(1<<end, failed) != 0 {
				t.Errorf("RunWith(%q, %d, %q) = %d, %d, %v, and it fails in %s", row.text, state, report, exit, end, isRight, textOf(failed))
			}
		}
	}
}

// TestP10ChoicesForAllResults takes each result of programs: there are choices for
// it, which lead to it, and there are none for other states.
func TestP10ChoicesForAllResults(t *testing.T) {
	for i, row := range programRows() {
		state := i * 7 % 9
		for exit := range 2 {
			reached, _ := impl.Reached(row.text, 1<<state, exit)
			for end := range 9 {
				choices, ok := impl.ChoicesFor(row.text, state, exit, end)
				if ok != slices.Contains(statesOf(reached), end) {
					t.Errorf("ChoicesFor(%q, %d, %d, %d) = %q, %v, and %s is reached", row.text, state, exit, end, choices, ok, textOf(reached))
				}
				if gotExit, gotEnd, right := impl.RunWith(row.text, state, choices); ok && (gotExit != exit || gotEnd != end || !right) {
					t.Errorf("RunWith(%q, %d, %q) = %d, %d, %v, want %d, %d", row.text, state, choices, gotExit, gotEnd, right, exit, end)
				}
			}
		}
	}
}

// shortestRows are programs with the shortest choices from a state to another one,
// "none" if there are none.
var shortestRows = []struct {
	p, from string
	exit    int
	end     string
	want    string
}{
	// atoms
	{".", "12", 0, "12", ""},
	{".", "12", 0, "11", "none"},
	{".", "12", 1, "12", "none"},
	{"!", "12", 1, "12", ""},
	{"!", "12", 0, "12", "none"},
	{"x+", "00", 0, "10", ""},
	{"x+", "00", 0, "00", "none"},
	{"x?", "01", 0, "21", "2"},
	{"x?", "01", 0, "01", "0"},
	{"x?", "01", 0, "20", "none"},
	{"y?", "01", 0, "02", "2"},
	{"[x=0]", "01", 0, "01", ""},
	{"[x=1]", "01", 0, "01", "none"},

	// sequences and choices
	{"(x?;y?)", "00", 0, "12", "12"},
	{"(y?;x?)", "00", 0, "12", "21"},
	{"(x+|x1)", "00", 0, "10", "l"},
	{"(x+|x1)", "10", 0, "10", "r"},
	{"(!|!)", "10", 1, "10", "l"},
	{"(!;x?)", "10", 1, "10", ""},
	{"((x?;!)|!)", "10", 1, "10", "r"},
	{"((x?;!)|!)", "10", 1, "00", "l0"},
	{"(x?;(!|y?))", "11", 1, "21", "2l"},
	{"(x?;(!|y?))", "11", 0, "20", "2r0"},

	// shorter ones that are not the first in the order of bytes
	{"((.|.)|.)", "00", 0, "00", "r"},
	{"({.}|.)", "00", 0, "00", "r"},
	{"((x?|y?)|x+)", "00", 0, "10", "r"},
	{"((x+;(.|.))|x1)", "00", 0, "10", "r"},
	{"(((.|.)|(.|.))|(.|.))", "00", 0, "00", "rl"},
	{"({x+};[x=0])", "10", 0, "00", "mme"},
	{"{(x+|(x?;.))}", "00", 0, "20", "mr2e"},
	{"{(x+|x2)}", "00", 0, "20", "mre"},

	// several ones of the same length
	{"(.|.)", "00", 0, "00", "l"},
	{"(x?;x0)", "00", 0, "00", "0"},
	{"(x?;([x#0];x0))", "00", 0, "00", "1"},
	{"((x?;x0)|(y?;y0))", "00", 0, "00", "l0"},
	{"((x?;[x=1])|x1)", "00", 0, "10", "r"},
	{"({x1};{x1})", "00", 0, "10", "eme"},
	{"({x+};{x+})", "00", 0, "20", "emme"},
	{"({x+};({y+};{x+}))", "00", 0, "21", "ememme"},
	{"({.};{(x+|x1)})", "00", 0, "10", "emle"},
	{"{(x1|x+)}", "00", 0, "20", "mlmre"},
	{"{(x+|y+)}", "00", 0, "11", "mlmre"},
	{"{(y+|x+)}", "00", 0, "12", "mlmlmre"},
	{"{x?}", "00", 0, "20", "m2e"},
	{"({x?}|{x?})", "00", 0, "20", "lm2e"},
	{"{(!|(x+;!))}", "00", 1, "10", "mr"},
	{"{(!|(x+|!))}", "00", 1, "00", "ml"},

	// the best way to a state between is not the first part's best one
	{"(((.|x1)|(.|.));(([x=0];(.|(.|(.|.))))|[x=1]))", "10", 0, "10", "llr"},
	{"((x?;y?);(([x#y];[x=y])|x0))", "00", 0, "02", "02r"},
	{"(x?;(([x=0];({.};x+))|([x#0];x1)))", "00", 0, "10", "1r"},

	// loops, also ones whose body fails the first time
	{"{x+}", "00", 0, "00", "e"},
	{"{x+}", "00", 0, "20", "mme"},
	{"{x+}", "20", 0, "10", "mme"},
	{"{!}", "00", 0, "00", "e"},
	{"{!}", "00", 1, "00", "m"},
	{"{(x+;!)}", "00", 1, "10", "m"},
	{"{(x+;!)}", "00", 0, "10", "none"},
	{"{(x+|([x=2];!))}", "00", 1, "20", "mlmlmr"},
	{"{(x+|([x=2];!))}", "20", 1, "20", "mr"},
	{"{(x+|([x=2];!))}", "20", 1, "10", "none"},
	{"{(x+|(!;x0))}", "00", 1, "20", "mlmlmr"},

	// loops within loops
	{"{{x+}}", "00", 0, "00", "e"},
	{"{{x+}}", "00", 0, "20", "mmmee"},
	{"{{!}}", "00", 1, "00", "mm"},
	{"{{{{{{!}}}}}}", "00", 1, "00", "mmmmmm"},
	{"{{{{{{x+}}}}}}", "00", 0, "10", "mmmmmmeeeeee"},
	{"{({x+};y+)}", "00", 0, "11", "mmee"},
	{"{({x+};y+)}", "00", 0, "12", "memmee"},
	{"{({x+};([x=2];!))}", "00", 1, "20", "mmme"},
	{"{{(x+|([x=2];!))}}", "00", 1, "20", "mmlmlmr"},

	// from where nothing is reached
	{"([x=0];[x=1])", "00", 0, "00", "none"},
	{"([x=0];[x=1])", "00", 1, "00", "none"},
	{"([x=1];!)", "00", 1, "00", "none"},
	{"(!;x0)", "10", 0, "00", "none"},
	{"({x+};([x=0];[x=1]))", "10", 0, "00", "none"},
}

func TestP10Shortest(t *testing.T) {
	for _, row := range shortestRows {
		state, end := slices.Index(stateTexts, row.from), slices.Index(stateTexts, row.end)
		want, found := row.want, row.want != "none"
		if !found {
			want = ""
		}
		checkChoicesFor(t, row.p, state, row.exit, end, want, found)
		if got, ok := shortestInText(row.p, state)[row.exit][row.end]; got != want || ok != found {
			t.Fatalf("the test takes %q for the shortest choices of %q from %s to %s", got, row.p, row.from, row.end)
		}
		checkReports(t, row.p)
	}
}

// reportRows are programs with their reports from all states.
var reportRows = map[string]string{
	// programs that never fail
	".": "-", "x+": "-", "x?": "-", "[x=0]": "-", "{x+}": "-", "{{x?}}": "-", "([x=0];([x=1];!))": "-", "([x=0];[x=1])": "-", "(([x=0];[x=1]);!)": "-", "{(x0;([x#0];!))}": "-",

	// ones that fail without any choice
	"!":                 "00:;01:;02:;10:;11:;12:;20:;21:;22:",
	"(x?|!)":            "00:r;01:r;02:r;10:r;11:r;12:r;20:r;21:r;22:r",
	"(!;x?)":            "00:;01:;02:;10:;11:;12:;20:;21:;22:",
	"(x+;([x=0];!))":    "20:;21:;22:",
	"([x=0];([y=1];!))": "01:",

	// the first report of several states, which are not asked for
	"(x?;([x=y];!))":                       "00:0;01:1;02:2;10:0;11:1;12:2;20:0;21:1;22:2",
	"(x?;!)":                               "00:0;01:0;02:0;10:0;11:0;12:0;20:0;21:0;22:0",
	"(x?;([x#0];!))":                       "00:1;01:1;02:1;10:1;11:1;12:1;20:1;21:1;22:1",
	"([x=y];(((.|.);(x0;!))|(x1;!)))":      "00:r;11:r;22:r",
	"([x=y];((x2;!)|(x1;!)))":              "00:l;11:l;22:l",
	"([y=0];((x0;(!|.))|((.|!);x2)))":      "00:ll;10:ll;20:ll",
	"([y=0];({(x+|([x=2];!))}|([x=1];!)))": "00:lmlmlmr;10:r;20:lmr",

	// loops
	"{(x+|([x=2];!))}":   "00:mlmlmr;01:mlmlmr;02:mlmlmr;10:mlmr;11:mlmr;12:mlmr;20:mr;21:mr;22:mr",
	"{!}":                "00:m;01:m;02:m;10:m;11:m;12:m;20:m;21:m;22:m",
	"{(x+;!)}":           "00:m;01:m;02:m;10:m;11:m;12:m;20:m;21:m;22:m",
	"({x+};([x=y];!))":   "00:e;01:me;02:mme;10:mme;11:e;12:me;20:me;21:mme;22:e",
	"{({x+};([x=y];!))}": "00:me;01:mme;02:mmme;10:mmme;11:me;12:mme;20:mme;21:mmme;22:me",
	"({!};([x=y];!))":    "00:e;01:m;02:m;10:m;11:e;12:m;20:m;21:m;22:e",
	"{([x<y];{!})}":      "01:mm;02:mm;12:mm",
	"{(y+|([x<y];!))}":   "00:mlmr;01:mr;02:mr;10:mlmlmr;11:mlmr;12:mr",
}

func TestP10Reports(t *testing.T) {
	for p, want := range reportRows {
		checkAllReports(t, p, want)
		for state, text := range stateTexts {
			report, found := "", false
			for _, word := range strings.Split(want, ";") {
				if rest, ok := strings.CutPrefix(word, text+":"); ok {
					report, found = rest, true
				}
			}
			checkReport(t, p, state, report, found)
			if got, ok := reportInText(shortestInText(p, state)); got != report || ok != found {
				t.Fatalf("the test takes %q for the report of %q from %s", got, p, text)
			}
		}
	}
}

func TestP10DocumentExample(t *testing.T) {
	const p = "{(x+|([x=2];!))}"
	checkReport(t, p, 0, "mlmlmr", true)
	checkRun(t, p, 0, "mlmlmr", told{1, "20", []string{"10", "20", "20", "20"}})
	checkRun(t, p, 0, "mlmle", told{0, "20", []string{"10", "20"}})
	checkChoicesFor(t, p, 0, 0, 6, "mlmle", true)
	checkChoicesFor(t, p, 0, 1, 6, "mlmlmr", true)
	checkAllReports(t, "(x+;([x=0];!))", "20:;21:;22:")
}

// failingRound goes through all states with few choices, and can fail when it comes
// to 00 again. In a loop, its shortest report from 00 has 39 choices.
const failingRound = "({.};({.};(y+;([y#0]|([y=0];(x+;(.|([x=0];!))))))))"

// TestP10LongReports takes programs whose shortest reports have less choices than
// MaxChoices, as many, and more.
func TestP10LongReports(t *testing.T) {
	const from00 = "meelmeelmeerlmeelmeelmeerlmeelmeelmeerr"
	for loops, want := range []string{1: from00, 2: "m" + from00, 3: "", 4: ""} {
		if loops == 0 {
			continue
		}
		p := loopsOf(loops, failingRound)
		if !isProgram(p) {
			t.Fatalf("the test takes %q for a program", p)
		}
		checkReport(t, p, 0, want, want != "")
		checkChoicesFor(t, p, 0, 1, 0, want, want != "")
		checkTold(t, p, 0, strings.Repeat("m", loops-1)+from00)
		reports, _ := impl.AllReports(p)
		if strings.HasPrefix(reports, "00:") != (want != "") || !strings.Contains(reports, "01:") {
			t.Errorf("AllReports(%q) = %q", p, reports)
		}
		checkReports(t, p)
	}
}

// TestP10LongChoices takes results whose shortest choices are as many as there may
// be, and one more.
func TestP10LongChoices(t *testing.T) {
	const round = "{({.};({.};(" + roundOfStates + ";(.|!))))}"
	const seven = "meellmeellmeerlmeellmeellmeerlmeell"
	checkChoicesFor(t, round, 0, 1, 8, seven+"meelr", true)
	checkChoicesFor(t, round, 0, 0, 8, "", false)
	checkChoicesFor(t, round, 0, 0, 7, seven+"e", true)
	checkChoicesFor(t, "({.};"+round+")", 0, 1, 8, "", false)
	checkChoicesFor(t, "({.};"+round+")", 0, 0, 7, "e"+seven+"e", true)
	checkTold(t, round, 0, seven+"meelr")
	checkNoRun(t, round, 0, seven+"meelle")
	checkNoRun(t, "({.};"+round+")", 0, "e"+seven+"meelr")
	checkReports(t, round)
	checkReports(t, "({.};"+round+")")
}

// TestP10TooLong takes choices that would be right, were they not longer than
// MaxChoices.
func TestP10TooLong(t *testing.T) {
	for _, c := range []struct{ p, more, end string }{
		{"{.}", "m", "e"}, {"{x+}", "m", "e"}, {"{(x+|!)}", "ml", "mr"}, {"{(x+|!)}", "ml", "e"}, {"{x?}", "m0", "e"}, {"{{.}}", "me", "e"}, {"{{!}}", "me", "mm"}, {"{(!|{y+})}", "mre", "ml"},
	} {
		for count := range 60 {
			choices := strings.Repeat(c.more, count) + c.end
			if len(choices) <= maxChoices {
				if !impl.ChoicesRight(c.p, 4, choices) {
					t.Errorf("ChoicesRight(%q, 4, %q) = false", c.p, choices)
				}
				checkTold(t, c.p, 4, choices)
			} else {
				checkNoRun(t, c.p, 4, choices)
			}
		}
	}
	for _, choices := range []string{strings.Repeat("m", 1000000) + "e", strings.Repeat("m", 1000000), strings.Repeat("e", 1000000), strings.Repeat(" ", 41)} {
		for _, p := range []string{".", "!", "{.}", "{!}", "(!;{.})"} {
			checkNoRun(t, p, 0, choices)
		}
	}
}

// TestP10DeepProgramsTakeNotLong takes programs whose runs are very many.
func TestP10DeepProgramsTakeNotLong(t *testing.T) {
	for _, p := range []string{loopsOf(6, "x+"), loopsOf(6, "!"), loopsOf(6, "(x+|(y+|!))"), loopsOf(6, roundOfStates), "({{{{{{x+}}}}}};({{{{{{y+}}}}}};{{{{{{(x+|!)}}}}}}))", "{({({({({({x+};{y+})};{y+})};{x+})};{y+})};{x+})}", "((x?|y?);((x?|y?);((x?|y?);((x?|y?);((x?|y?);(x?;[x<y]))))))", "(x?;(x?;(x?;(x?;(x?;(x?;(x?;(x?;(x?;(x?;(x?;!)))))))))))", programOfBytes(60)} {
		if !isProgram(p) {
			t.Fatalf("the test takes %q for a program", p)
		}
		checkReports(t, p)
		for range 50 {
			impl.AllReports(p)
		}
	}
}

func TestP10NoPrograms(t *testing.T) {
	for _, p := range append([]string{"{" + programOfBytes(59) + "}", loopsOf(7, "!"), "({x+};.", "{x+};!", "{{x+}", "({x+}&!)", "{[x=3]}", "x3", "x0|x1"}, noPrograms...) {
		for _, choices := range []string{"", "e", "m", "me", "l", "r", "0", "eeeeeee", "mmmmmmm"} {
			checkNoRun(t, p, 0, choices)
		}
		for exit := range 2 {
			checkChoicesFor(t, p, 0, exit, 0, "", false)
			checkChoicesFor(t, p, 8, exit, 8, "", false)
		}
		checkReport(t, p, 0, "", false)
		checkReport(t, p, 8, "", false)
		if got, ok := impl.AllReports(p); got != "" || ok {
			t.Errorf("AllReports(%.70q) = %q, %v", p, got, ok)
		}
	}
}

func TestP10NoStates(t *testing.T) {
	for _, state := range append([]int{63, 64, -64, 1 << 32}, noStates...) {
		for p, choices := range map[string]string{".": "", "!": "", "x0": "", "x?": "1", "[x=0]": "", "(.|!)": "r", "{x+}": "e", "{!}": "m", "{(x+|!)}": "mr", "q": "", "": ""} {
			checkNoRun(t, p, state, choices)
			checkReport(t, p, state, "", false)
			for exit := range 2 {
				checkChoicesFor(t, p, state, exit, 0, "", false)
				checkChoicesFor(t, p, 0, exit, state, "", false)
				checkChoicesFor(t, p, state, exit, state, "", false)
			}
		}
	}
}

func TestP10NoExits(t *testing.T) {
	for _, exit := range noExits {
		for _, p := range []string{".", "!", "x?", "[x=0]", "(.|!)", "{x+}", "{!}", "q"} {
			for state := range 9 {
				checkChoicesFor(t, p, state, exit, state, "", false)
			}
			checkChoicesFor(t, p, 9, exit, -1, "", false)
		}
	}
}

// TestP10TraceOfIsNewMemory writes over a trace, that past its length included.
func TestP10TraceOfIsNewMemory(t *testing.T) {
	for _, row := range runRows {
		state := slices.Index(stateTexts, row.from)
		one, _ := impl.TraceOf(row.p, state, row.choices)
		two, _ := impl.TraceOf(row.p, state, row.choices)
		for i := range one[:cap(one)] {
			one[:cap(one)][i] = -77
		}
		three, _ := impl.TraceOf(row.p, state, row.choices)
		for _, trace := range [][]int{two, three} {
			if !slices.Equal(textsOfStates(trace), strings.Fields(row.trace)) {
				t.Errorf("TraceOf(%q, %s, %q) = %v after a write to another result", row.p, row.from, row.choices, trace)
			}
		}
	}
}
