package tests

import (
	"math"
	"math/rand"
	"slices"
	"strings"
	"sync"
	"testing"

	"loop.example/surelywrong/impl"
)

// noExits are numbers that are no exit.
var noExits = []int{-1, -2, 2, 3, 10, 256, 1 << 32, math.MaxInt, math.MinInt}

// A config is a place in a run: the digits of a state, and the programs that
// are still to be done, the next one last.
type config struct{ state, todo string }

// partsInText returns the parts of a program that is no atom, which it tells
// by counting brackets.
func partsInText(p string) []string {
	inner := p[1 : len(p)-1]
	if p[0] == '{' {
		return []string{inner}
	}
	depth := 0
	for i, c := range []byte(inner) {
		switch c {
		case '(', '{', '[':
			depth++
		case ')', '}', ']':
			depth--
		case ';', '|':
			if depth == 0 {
				return []string{inner[:i], inner[i+1:]}
			}
		}
	}
	return nil
}

// setVariable returns the digits of a state in which a variable has a value.
func setVariable(state string, variable byte, value byte) string {
	if variable == 'x' {
		return string(value) + state[1:]
	}
	return state[:1] + string(value)
}

// statesBehind returns the states in which an atom other than ! goes on.
func statesBehind(atom string, state string) []string {
	switch {
	case atom == ".":
		return []string{state}
	case atom[0] == '[':
		where := ""
		for _, row := range testRows {
			if row.test == atom[1:len(atom)-1] {
				where = row.where
			}
		}
		if strings.Contains(where, state) {
			return []string{state}
		}
		return nil
	case atom[1] == '?':
		return []string{setVariable(state, atom[0], '0'), setVariable(state, atom[0], '1'), setVariable(state, atom[0], '2')}
	case atom[1] == '+':
		next := map[byte]byte{'0': '1', '1': '2', '2': '0'}
		return []string{setVariable(state, atom[0], next[state[atom[0]-'x']])}
	case atom[1] == 'x' || atom[1] == 'y':
		return []string{setVariable(state, atom[0], state[atom[1]-'x'])}
	}
	return []string{setVariable(state, atom[0], atom[1])}
}

// steps returns where a run can be one step later. A program is put before
// what is still to be done with a blank, which is in no program.
func steps(c config) []config {
	words := strings.Split(c.todo, " ")
	p, rest := words[0], words[1:]
	put := func(state string, programs ...string) config {
		return config{state, strings.Join(append(programs, rest...), " ")}
	}
	switch p[0] {
	case '{':
		return []config{put(c.state), put(c.state, partsInText(p)[0], p)}
	case '(':
		parts := partsInText(p)
		if p[1+len(parts[0])] == ';' {
			return []config{put(c.state, parts...)}
		}
		return []config{put(c.state, parts[0]), put(c.state, parts[1])}
	}
	var next []config
	for _, state := range statesBehind(p, c.state) {
		next = append(next, put(state))
	}
	return next
}

// resultsBySteps returns the sets of states with ok and with error that all
// runs of a program from a state have, found one step at a time.
func resultsBySteps(p string, state int) [2]int {
	return resultsFollowing(config{stateTexts[state], p}, steps)
}

// resultsFollowing returns the sets of states with ok and with error in which all
// runs end that follow steps from a place.
func resultsFollowing(first config, stepsFrom func(config) []config) [2]int {
	var results [2]int
	seen := map[config]bool{first: true}
	for work := []config{first}; len(work) > 0; {
		c := work[len(work)-1]
		work = work[:len(work)-1]
		switch {
		case c.todo == "":
			results[0] |= setOfText(c.state)
		case c.todo[0] == '!':
			results[1] |= setOfText(c.state)
		default:
			for _, next := range stepsFrom(c) {
				if !seen[next] {
					seen[next] = true
					work = append(work, next)
				}
			}
		}
	}
	return results
}

// rowsBySteps returns the results of a program from each state.
func rowsBySteps(p string) [9][2]int {
	var rows [9][2]int
	for state := range rows {
		rows[state] = resultsBySteps(p, state)
	}
	return rows
}

// tableOf returns the text of the results from all states.
func tableOf(rows [9][2]int) string {
	var words []string
	for state, results := range rows {
		words = append(words, stateTexts[state]+":"+textOf(results[0])+"/"+textOf(results[1]))
	}
	return strings.Join(words, ";")
}

// checkReached checks what a program reaches from a set.
func checkReached(t *testing.T, p string, from int, want [2]int) {
	t.Helper()
	for exit := range 2 {
		if got, ok := impl.Reached(p, from, exit); got != want[exit] || !ok {
			t.Errorf("Reached(%q, %s, %d) = %s, %v, want %s", p, textOf(from), exit, impl.FormatSet(got), ok, textOf(want[exit]))
		}
	}
}

// checkResults checks all that is told of a program by its results.
func checkResults(t *testing.T, p string, rows [9][2]int) {
	t.Helper()
	fails, sticks, single := false, false, true
	for state, want := range rows {
		if got, ok := impl.NextOf(p, state); got != want[0] || !ok {
			t.Errorf("NextOf(%q, %d) = %s, %v, want %s", p, state, impl.FormatSet(got), ok, textOf(want[0]))
		}
		if got, ok := impl.ErrorsOf(p, state); got != want[1] || !ok {
			t.Errorf("ErrorsOf(%q, %d) = %s, %v, want %s", p, state, impl.FormatSet(got), ok, textOf(want[1]))
		}
		checkReached(t, p, 1<<state, want)
		count := len(statesOf(want[0])) + len(statesOf(want[1]))
		fails = fails || want[1] != 0
		sticks = sticks || count == 0
		single = single && count <= 1
	}
	if got := impl.CanFail(p); got != fails {
		t.Errorf("CanFail(%q) = %v", p, got)
	}
	if got := impl.CanStick(p); got != sticks {
		t.Errorf("CanStick(%q) = %v", p, got)
	}
	if got := impl.IsSingle(p); got != single {
		t.Errorf("IsSingle(%q) = %v", p, got)
	}
	if got, ok := impl.Table(p); got != tableOf(rows) || !ok {
		t.Errorf("Table(%q) = %q, %v, want %q", p, got, ok, tableOf(rows))
	}
}

// checkAll checks a program from each state, and from some sets of them.
func checkAll(t *testing.T, p string, sets []int) {
	t.Helper()
	rows := rowsBySteps(p)
	checkResults(t, p, rows)
	for _, from := range sets {
		var want [2]int
		for _, state := range statesOf(from) {
			want[0] |= rows[state][0]
			want[1] |= rows[state][1]
		}
		checkReached(t, p, from, want)
	}
}

// allSets returns all sets of states.
func allSets() []int {
	var sets []int
	for set := range 512 {
		sets = append(sets, set)
	}
	return sets
}

// tableRows are programs with their tables, written out so that they depend on
// nothing, and what is told by these.
var tableRows = []struct {
	p                     string
	fails, sticks, single bool
	table                 string
}{
	{".", false, false, true, "00:00/-;01:01/-;02:02/-;10:10/-;11:11/-;12:12/-;20:20/-;21:21/-;22:22/-"},
	{"!", true, false, true, "00:-/00;01:-/01;02:-/02;10:-/10;11:-/11;12:-/12;20:-/20;21:-/21;22:-/22"},
	{"x0", false, false, true, "00:00/-;01:01/-;02:02/-;10:00/-;11:01/-;12:02/-;20:00/-;21:01/-;22:02/-"},
	{"y2", false, false, true, "00:02/-;01:02/-;02:02/-;10:12/-;11:12/-;12:12/-;20:22/-;21:22/-;22:22/-"},
	{"xy", false, false, true, "00:00/-;01:11/-;02:22/-;10:00/-;11:11/-;12:22/-;20:00/-;21:11/-;22:22/-"},
	{"yx", false, false, true, "00:00/-;01:00/-;02:00/-;10:11/-;11:11/-;12:11/-;20:22/-;21:22/-;22:22/-"},
	{"x+", false, false, true, "00:10/-;01:11/-;02:12/-;10:20/-;11:21/-;12:22/-;20:00/-;21:01/-;22:02/-"},
	{"y+", false, false, true, "00:01/-;01:02/-;02:00/-;10:11/-;11:12/-;12:10/-;20:21/-;21:22/-;22:20/-"},
	{"x?", false, false, false, "00:00,10,20/-;01:01,11,21/-;02:02,12,22/-;10:00,10,20/-;11:01,11,21/-;12:02,12,22/-;20:00,10,20/-;21:01,11,21/-;22:02,12,22/-"},
	{"y?", false, false, false, "00:00,01,02/-;01:00,01,02/-;02:00,01,02/-;10:10,11,12/-;11:10,11,12/-;12:10,11,12/-;20:20,21,22/-;21:20,21,22/-;22:20,21,22/-"},
	{"[x<y]", false, true, true, "00:-/-;01:01/-;02:02/-;10:-/-;11:-/-;12:12/-;20:-/-;21:-/-;22:-/-"},
	{"(x+;([x=0];!))", true, true, true, "00:-/-;01:-/-;02:-/-;10:-/-;11:-/-;12:-/-;20:-/00;21:-/01;22:-/02"},
	{"(x1;([y=0];!))", true, true, true, "00:-/10;01:-/-;02:-/-;10:-/10;11:-/-;12:-/-;20:-/10;21:-/-;22:-/-"},
	{"(.|!)", true, false, false, "00:00/00;01:01/01;02:02/02;10:10/10;11:11/11;12:12/12;20:20/20;21:21/21;22:22/22"},
	{"(!;x0)", true, false, true, "00:-/00;01:-/01;02:-/02;10:-/10;11:-/11;12:-/12;20:-/20;21:-/21;22:-/22"},
	{"([x=0];[x=1])", false, true, true, "00:-/-;01:-/-;02:-/-;10:-/-;11:-/-;12:-/-;20:-/-;21:-/-;22:-/-"},
	{"{x+}", false, false, false, "00:00,10,20/-;01:01,11,21/-;02:02,12,22/-;10:00,10,20/-;11:01,11,21/-;12:02,12,22/-;20:00,10,20/-;21:01,11,21/-;22:02,12,22/-"},
	{"{!}", true, false, false, "00:00/00;01:01/01;02:02/02;10:10/10;11:11/11;12:12/12;20:20/20;21:21/21;22:22/22"},
	{"{.}", false, false, true, "00:00/-;01:01/-;02:02/-;10:10/-;11:11/-;12:12/-;20:20/-;21:21/-;22:22/-"},
	{"{([x=0];[x=1])}", false, false, true, "00:00/-;01:01/-;02:02/-;10:10/-;11:11/-;12:12/-;20:20/-;21:21/-;22:22/-"},
	{"{(x+|([x=2];!))}", true, false, false, "00:00,10,20/20;01:01,11,21/21;02:02,12,22/22;10:00,10,20/20;11:01,11,21/21;12:02,12,22/22;20:00,10,20/20;21:01,11,21/21;22:02,12,22/22"},
	{"(([x=2];(.|(x+|([x=2];!))))|([x#2];x0))", true, false, false, "00:00/-;01:01/-;02:02/-;10:00/-;11:01/-;12:02/-;20:00,20/20;21:01,21/21;22:02,22/22"},
}

func TestP4Exits(t *testing.T) {
	if impl.ExitOk != 0 || impl.ExitError != 1 {
		t.Errorf("ExitOk = %d, ExitError = %d", impl.ExitOk, impl.ExitError)
	}
	if ok, failed := impl.NameOfExit(impl.ExitOk), impl.NameOfExit(impl.ExitError); ok != "ok" || failed != "error" {
		t.Errorf("NameOfExit = %q, %q", ok, failed)
	}
	for _, exit := range noExits {
		if got := impl.NameOfExit(exit); got != "" {
			t.Errorf("NameOfExit(%d) = %q", exit, got)
		}
	}
}

func TestP4Tables(t *testing.T) {
	for _, row := range tableRows {
		if got, ok := impl.Table(row.p); got != row.table || !ok {
			t.Errorf("Table(%q) = %q, %v, want %q", row.p, got, ok, row.table)
		}
		if got := impl.CanFail(row.p); got != row.fails {
			t.Errorf("CanFail(%q) = %v", row.p, got)
		}
		if got := impl.CanStick(row.p); got != row.sticks {
			t.Errorf("CanStick(%q) = %v", row.p, got)
		}
		if got := impl.IsSingle(row.p); got != row.single {
			t.Errorf("IsSingle(%q) = %v", row.p, got)
		}
		if steps := tableOf(rowsBySteps(row.p)); steps != row.table {
			t.Fatalf("the test takes %q for the table of %q", steps, row.p)
		}
	}
}

func TestP4DocumentExample(t *testing.T) {
	const p = "(x+;([x=0];!))"
	if got, ok := impl.ErrorsOf(p, 6); impl.FormatSet(got) != "00" || !ok {
		t.Errorf("ErrorsOf(%q, 6) = %d, %v", p, got, ok)
	}
	checkReached(t, p, setOfText("20"), [2]int{0, setOfText("00")})
	checkReached(t, p, setOfText("10,20"), [2]int{0, setOfText("00")})
	checkReached(t, "x+", setOfText("00,10,20"), [2]int{setOfText("00,10,20"), 0})
}

// TestP4AtomsFromAllSets takes each atom from each set, and each loop of one.
func TestP4AtomsFromAllSets(t *testing.T) {
	sets := allSets()
	for _, row := range atomRows() {
		checkAll(t, row.text, sets)
		checkAll(t, "{"+row.text+"}", sets)
	}
}

// TestP4PairsOfAtoms takes each sequence and each choice of two atoms.
func TestP4PairsOfAtoms(t *testing.T) {
	rows := atomRows()
	for _, p := range rows {
		for _, q := range rows {
			checkAll(t, "("+p.text+";"+q.text+")", []int{0, 511, 33})
			checkAll(t, "("+p.text+"|"+q.text+")", []int{0, 511, 33})
		}
	}
}

func TestP4MadePrograms(t *testing.T) {
	for i, row := range programRows() {
		checkAll(t, row.text, []int{0, 511, i % 512, i * 7 % 512})
	}
}

// drawnProgram returns a program that is drawn, with more of the atoms that
// make loops go on, and that end them, than of the others.
func drawnProgram(draw *rand.Rand, depth int) string {
	atoms := []string{"x+", "y+", "x?", "yx", "xy", "x0", "y1", "!", ".", "[x=2]", "[x#2]", "[y<1]", "[x<y]", "[y<x]", "[x=y]", "[y=2]", "[x<2]"}
	if depth == 0 || draw.Intn(7) == 0 {
		return atoms[draw.Intn(len(atoms))]
	}
	switch draw.Intn(3) {
	case 0:
		return "{" + drawnProgram(draw, depth-1) + "}"
	case 1:
		return "(" + drawnProgram(draw, depth-1) + "|" + drawnProgram(draw, depth-1) + ")"
	}
	return "(" + drawnProgram(draw, depth-1) + ";" + drawnProgram(draw, depth-1) + ")"
}

// TestP4DrawnPrograms takes programs that are always drawn in the same way.
func TestP4DrawnPrograms(t *testing.T) {
	draw := rand.New(rand.NewSource(4))
	for count := 0; count < 3000; {
		p := drawnProgram(draw, 3+count%5)
		if isProgram(p) {
			checkAll(t, p, []int{0, 511, draw.Intn(512)})
			count++
		}
	}
}

// TestP4Assignments takes values that go on from 2 to 0, and variables that
// become what the other one is.
func TestP4Assignments(t *testing.T) {
	for _, c := range []struct{ p, from, behind string }{
		{"x+", "20", "00"}, {"x+", "22", "02"}, {"y+", "02", "00"}, {"y+", "22", "20"},
		{"(x+;(x+;x+))", "11", "11"}, {"(y+;(y+;y+))", "11", "11"}, {"(x+;y+)", "22", "00"}, {"(x+;y+)", "12,21", "02,20"},
		{"xy", "02,20,11", "00,11,22"}, {"yx", "02,20,11", "00,11,22"}, {"(xy;yx)", "12", "22"}, {"(yx;xy)", "12", "11"}, {"(xy;x+)", "02", "02"},
		{"(x?;[x=y])", "01,12", "11,22"}, {"(x?;y?)", "11", textOf(511)}, {"(x?;(yx;[y=2]))", "00", "22"},
	} {
		checkReached(t, c.p, setOfText(c.from), [2]int{setOfText(c.behind), 0})
	}
}

// TestP4ErrorsInLoops takes loops whose part fails at once, after some times,
// and never, and what is behind them.
func TestP4ErrorsInLoops(t *testing.T) {
	for _, c := range []struct{ p, from, ok, failed string }{
		{"{!}", "00,12", "00,12", "00,12"},
		{"{(!|x+)}", "00", "00,10,20", "00,10,20"},
		{"{(!;x+)}", "00", "00", "00"},
		{"{(x+;!)}", "00", "00", "10"},
		{"{(x+;([x=2];!))}", "00", "00", "-"},
		{"{(x+;([x=2];!))}", "10", "10", "20"},
		{"{(x+;(([x=2];!)|[x#2]))}", "00", "00,10", "20"},
		{"{(x+;(([x=0];!)|[x#0]))}", "00", "00,10,20", "00"},
		{"{(([x=2];!)|x+)}", "11", "01,11,21", "21"},
		{"{([x=2];!)}", "00,10", "00,10", "-"},
		{"{([x=2];!)}", "00,20", "00,20", "20"},
		{"{([x<2];(x+;(.|([x=2];!))))}", "00", "00,10,20", "20"},
		{"{(x0;([x=1];!))}", "11", "11", "-"},
		{"{(x+;(y+;([x=0];([y=2];!))))}", "00", "00", "-"},
		{"{(x+;(y+;(([x=y];!)|[x#y])))}", "00", "00", "11"},
		{"{((x+;y+)|([x=0];([y=2];!)))}", "00", "00,11,22", "-"},
		{"{((x+;y+)|([x=0];([y=2];!)))}", "10", "02,10,21", "02"},
		{"({!};x0)", "10", "00", "10"},
		{"({(x+|!)};[x=1])", "00", "10", "00,10,20"},
		{"({x+};!)", "01", "-", "01,11,21"},
		{"({x+};([x=2];!))", "01", "-", "21"},
		{"(!;{x+})", "01", "-", "01"},
		{"([x=0];{!})", "10", "-", "-"},
		{"({(x+;!)}|x2)", "00", "00,20", "10"},
	} {
		checkReached(t, c.p, setOfText(c.from), [2]int{setOfText(c.ok), setOfText(c.failed)})
		checkAll(t, c.p, []int{0, 511})
	}
}

func TestP4LoopsWithinLoops(t *testing.T) {
	for _, c := range []struct{ p, from, ok, failed string }{
		{loopsOf(6, "x+"), "01", "01,11,21", "-"},
		{loopsOf(6, "!"), "01", "01", "01"},
		{loopsOf(6, "[x=0]"), "01,10", "01,10", "-"},
		{"{({x+};y+)}", "00", textOf(511), "-"},
		{"{({x+};([x=y];y+))}", "00", "00,01,12,20", "-"},
		{"{([x=2];{y+})}", "00,20", "00,20,21,22", "-"},
		{"{([x=0];{(y+|([y=2];!))})}", "00,11", "00,01,02,11", "02"},
		{"{({([x<2];x+)};([x=2];(y+;x0)))}", "00", "00,01,02", "-"},
		{"{({([x<2];x+)};([x=2];(y+;(x0|([y=0];!)))))}", "00", "00,01,02", "20"},
		{"{([x=1];{([y=1];{!})})}", "10,01", "01,10", "-"},
		{"{([x=1];{([y=1];{!})})}", "11", "11", "11"},
		{"({{x+}};{{y+}})", "11", textOf(511), "-"},
	} {
		checkReached(t, c.p, setOfText(c.from), [2]int{setOfText(c.ok), setOfText(c.failed)})
		checkAll(t, c.p, []int{0, 511})
	}
	for _, body := range []string{"(x+;(y?;[x<y]))", "([x<y];(y+|!))", "(x0|(y+;([y=0];x+)))"} {
		for loops := range 7 {
			checkAll(t, loopsOf(loops, body), []int{0, 511, 16})
		}
	}
}

// TestP4DeepPrograms takes programs that are as long as they may be.
func TestP4DeepPrograms(t *testing.T) {
	for _, p := range []string{
		programOfBytes(60),
		"(x+;(x+;(x+;(x+;(x+;(x+;(x+;(x+;(x+;(x+;(x+;[x=0])))))))))))",
		"(x+|(x+|(x+|(x+|(x+|(x+|(x+|(x+|(x+|(x+|(x+|[x=0])))))))))))",
		"{(x+|{{({({({((!;!);(x?;.))};(y2;{(.;y1)}))}|y+)};yx)}})}",
		"{(x+;{(y+;{([x<y];{(x?|{(yx;{([y=2];!)})})})})})}",
		"{([x=0];(y+;{([y=1];(x+;{([x<2];(x+;{(yx;!)}))}))}))}",
	} {
		if !isProgram(p) {
			t.Fatalf("the test takes %q for a program", p)
		}
		checkAll(t, p, allSets())
	}
}

// TestP4Stuck takes programs without any result from a state, from some of
// them, and from all.
func TestP4Stuck(t *testing.T) {
	for p, sticks := range map[string]bool{
		".": false, "!": false, "x?": false, "(.|!)": false,
		"[x=0]": true, "[x#y]": true, "([x=0];!)": true, "(x0;[x=0])": false, "(x0;[x=1])": true,
		"(!;[x=0])": false, "([x=0];[x=1])": true, "{[x=0]}": false, "{([x=0];[x=1])}": false,
		"({x+};[x=0])": false, "({[y=0]};[x=0])": true, "([x=0]|[x#0])": false, "([x=0]|[x=1])": true,
		"([x=0]|!)": false, "([x<y]|([y<x]|[x=y]))": false, "([x<y]|[y<x])": true, "([x<y]|([y<x]|([x=y];!)))": false,
		"({y+};[y=2])": false, "({([x=0];y+)};[y=2])": true, "(x?;[x=y])": false, "(([x<2]|[y<2])|([x=2];[y=1]))": true,
	} {
		if got := impl.CanStick(p); got != sticks {
			t.Errorf("CanStick(%q) = %v", p, got)
		}
	}
	checkResults(t, "([x=0];[x=1])", [9][2]int{})
	checkReached(t, "([x=0];[x=1])", 511, [2]int{})
	checkReached(t, "([x=0];!)", setOfText("10,11,20"), [2]int{})
}

// TestP4Single takes programs with several results from one state: of one
// exit, of both, and of both in the same state.
func TestP4Single(t *testing.T) {
	for p, single := range map[string]bool{
		".": true, "!": true, "x+": true, "[x=0]": true, "x?": false, "y?": false,
		"(.|!)": false, "(.|.)": true, "(!|!)": true, "(x0|x1)": false, "(x0|([x=0];.))": true, "(x0|.)": false,
		"([x=0]|[x#0])": true, "([x=0]|[x<2])": true, "([x=0]|([x#0];!))": true, "([x=0]|([x<2];!))": false,
		"(x?;x0)": true, "(x?;[x=y])": true, "(x?;!)": false, "(x?;(x1;!))": true, "(x?;[x<y])": false, "(x?;(.|!))": false,
		"{.}": true, "{x+}": false, "{!}": false, "{[y=2]}": true, "{([x=0];x0)}": true, "{([x=0];x1)}": false, "({x+};x0)": true,
		"(!;x?)": true, "([x=0];([x=1];x?))": true, "([x=2];([y=2];x?))": false, "((x1;!)|(x2;!))": false, "([x=0];([y=0];(x1|!)))": false,
		"(x+;(([x=0];!)|[x#0]))": true, "(xy|yx)": false, "(xy|([x=y];yx))": true,
	} {
		if got := impl.IsSingle(p); got != single {
			t.Errorf("IsSingle(%q) = %v", p, got)
		}
	}
}

// TestP4CanFail takes programs that fail from all states, from one, and from
// none.
func TestP4CanFail(t *testing.T) {
	for p, fails := range map[string]bool{
		".": false, "!": true, "x?": false, "[x=0]": false, "(.|!)": true, "(!|.)": true, "(!;.)": true, "(.;!)": true, "{!}": true, "{.}": false,
		"([x=0];!)": true, "([x=2];([y=2];!))": true, "([x=0];([y=0];!))": true, "([x=0];([x=1];!))": false, "(([x=0];[x=1]);!)": false,
		"(x0;([x#0];!))": false, "{(x0;([x#0];!))}": false, "(x0;{(x+;([x=2];!))})": false, "(x0;{(x+|([x=2];!))})": true,
		"(!;([x=0];[x=1]))": true, "{([x<y];([y<x];!))}": false, "(x?;([x=y];!))": true, "({x+};{([x=0];{!})})": true,
	} {
		if got := impl.CanFail(p); got != fails {
			t.Errorf("CanFail(%q) = %v", p, got)
		}
	}
}

func TestP4SetWithoutStates(t *testing.T) {
	for _, p := range []string{".", "!", "x+", "x?", "[x=0]", "{!}", "{x+}", "(.|!)", "(!;x0)", "{(x+|([x=2];!))}"} {
		checkReached(t, p, 0, [2]int{})
	}
}

// TestP4ResultsOfParts makes the results of a program of those of its parts,
// as the document says it.
func TestP4ResultsOfParts(t *testing.T) {
	reached := func(p string, from int, exit int) int {
		set, ok := impl.Reached(p, from, exit)
		if !ok {
			t.Errorf("Reached(%q, %d, %d) = false", p, from, exit)
		}
		return set
	}
	rows := programRows()
	for i, row := range rows {
		from := i * 13 % 512
		switch row.kind {
		case ";":
			between := reached(row.parts[0], from, 0)
			checkReached(t, row.text, from, [2]int{
				reached(row.parts[1], between, 0),
				reached(row.parts[0], from, 1) | reached(row.parts[1], between, 1),
			})
		case "|":
			checkReached(t, row.text, from, [2]int{
				reached(row.parts[0], from, 0) | reached(row.parts[1], from, 0),
				reached(row.parts[0], from, 1) | reached(row.parts[1], from, 1),
			})
		case "{":
			behind, before := from, -1
			for before != behind {
				before, behind = behind, behind|reached(row.parts[0], behind, 0)
			}
			checkReached(t, row.text, from, [2]int{behind, reached(row.parts[0], behind, 1)})
		}
	}
}

func TestP4NoPrograms(t *testing.T) {
	for _, p := range noPrograms {
		for _, from := range []int{0, 1, 511} {
			for exit := range 2 {
				if got, ok := impl.Reached(p, from, exit); got != 0 || ok {
					t.Errorf("Reached(%.40q, %d, %d) = %d, %v", p, from, exit, got, ok)
				}
			}
		}
		for _, state := range []int{0, 8} {
			if got, ok := impl.NextOf(p, state); got != 0 || ok {
				t.Errorf("NextOf(%.40q, %d) = %d, %v", p, state, got, ok)
			}
			if got, ok := impl.ErrorsOf(p, state); got != 0 || ok {
				t.Errorf("ErrorsOf(%.40q, %d) = %d, %v", p, state, got, ok)
			}
		}
		if impl.CanFail(p) || impl.CanStick(p) || impl.IsSingle(p) {
			t.Errorf("of %.40q, CanFail = %v, CanStick = %v, IsSingle = %v", p, impl.CanFail(p), impl.CanStick(p), impl.IsSingle(p))
		}
		if got, ok := impl.Table(p); got != "" || ok {
			t.Errorf("Table(%.40q) = %q, %v", p, got, ok)
		}
	}
}

// checkNotReached checks that nothing is told from a set with an exit.
func checkNotReached(t *testing.T, p string, from int, exit int) {
	t.Helper()
	if got, ok := impl.Reached(p, from, exit); got != 0 || ok {
		t.Errorf("Reached(%q, %d, %d) = %d, %v", p, from, exit, got, ok)
	}
}

func TestP4NoSetsNoStatesNoExits(t *testing.T) {
	for _, p := range []string{".", "!", "x?", "{(x+|!)}", "q"} {
		for _, from := range noSets {
			for _, exit := range append([]int{0, 1}, noExits...) {
				checkNotReached(t, p, from, exit)
			}
		}
		for _, exit := range noExits {
			for _, from := range []int{0, 1, 33, 511} {
				checkNotReached(t, p, from, exit)
			}
		}
		for _, state := range append([]int{63, 64, -64, 1 << 32}, noStates...) {
			if got, ok := impl.NextOf(p, state); got != 0 || ok {
				t.Errorf("NextOf(%q, %d) = %d, %v", p, state, got, ok)
			}
			if got, ok := impl.ErrorsOf(p, state); got != 0 || ok {
				t.Errorf("ErrorsOf(%q, %d) = %d, %v", p, state, got, ok)
			}
		}
	}
}

// TestP4CallsBesideEachOther makes tables of several programs at the same
// time, over and over: each is the one that it is by itself.
func TestP4CallsBesideEachOther(t *testing.T) {
	var working sync.WaitGroup
	wrong := make([]string, len(tableRows))
	for i, row := range tableRows {
		working.Add(1)
		go func() {
			defer working.Done()
			for range 200 {
				if got, _ := impl.Table(row.p); got != row.table {
					wrong[i] = got
				}
			}
		}()
	}
	working.Wait()
	if i := slices.IndexFunc(wrong, func(got string) bool { return got != "" }); i >= 0 {
		t.Errorf("Table(%q) = %q, want %q", tableRows[i].p, wrong[i], tableRows[i].table)
	}
}
