package tests

import (
	"math/rand"
	"slices"
	"strings"
	"sync"
	"testing"

	"loop.example/surelywrong/impl"
)

// canInRows returns the states from which a program has a result with an exit
// that is in a set, of its results from each state.
func canInRows(rows [9][2]int, exit int, set int) int {
	can := 0
	for state, results := range rows {
		if withoutStates(results[exit], set) != results[exit] {
			can += 1 << state
		}
	}
	return can
}

// onlyInRows returns the states from which it has none that is not in a set.
func onlyInRows(rows [9][2]int, exit int, set int) int {
	only := 0
	for state, results := range rows {
		if withoutStates(results[exit], set) == 0 {
			only += 1 << state
		}
	}
	return only
}

// sureInRows reports whether all states behind of a triple are reached.
func sureInRows(rows [9][2]int, x impl.Triple) bool {
	return withoutStates(x.Behind, reachedBySteps(rows, x.Before, x.Exit)) == 0
}

// leastInRows takes states out of Before of a sure triple as the document says.
func leastInRows(rows [9][2]int, x impl.Triple) impl.Triple {
	for _, state := range []int{8, 7, 6, 5, 4, 3, 2, 1, 0} {
		fewer := x
		fewer.Before = withoutStates(x.Before, 1<<state)
		if sureInRows(rows, fewer) {
			x = fewer
		}
	}
	return x
}

// eachInRows reports whether a program has a result behind from each state before.
func eachInRows(rows [9][2]int, x impl.Triple) bool {
	for _, state := range statesOf(x.Before) {
		if withoutStates(rows[state][x.Exit], x.Behind) == rows[state][x.Exit] {
			return false
		}
	}
	return true
}

// backInText returns what StepBack has to: from the runs of one text that is
// made of a program and all behind it, of which it does not matter how long it is.
func backInText(list []string) []int {
	var sets []int
	for i := range list {
		p := list[len(list)-1]
		for j := len(list) - 2; j >= i; j-- {
			p = "(" + list[j] + ";" + p + ")"
		}
		sets = append(sets, canInRows(rowsBySteps(p), 1, 511))
	}
	return sets
}

// checkBack checks from where a program reaches a set.
func checkBack(t *testing.T, p string, exit int, set int, can int, only int) {
	t.Helper()
	if got, ok := impl.CanReach(p, exit, set); got != can || !ok {
		t.Errorf("CanReach(%q, %d, %s) = %s, %v, want %s", p, exit, textOf(set), impl.FormatSet(got), ok, textOf(can))
	}
	if got, ok := impl.OnlyReach(p, exit, set); got != only || !ok {
		t.Errorf("OnlyReach(%q, %d, %s) = %s, %v, want %s", p, exit, textOf(set), impl.FormatSet(got), ok, textOf(only))
	}
}

// checkFails checks from where a program fails.
func checkFails(t *testing.T, p string, fails int) {
	t.Helper()
	if got, ok := impl.FailsFrom(p); got != fails || !ok {
		t.Errorf("FailsFrom(%q) = %s, %v, want %s", p, impl.FormatSet(got), ok, textOf(fails))
	}
	if got, ok := impl.SafeFrom(p); got != withoutStates(511, fails) || !ok {
		t.Errorf("SafeFrom(%q) = %s, %v, want %s", p, impl.FormatSet(got), ok, textOf(withoutStates(511, fails)))
	}
	if got := impl.IsManifest(p); got != (fails == 511) {
		t.Errorf("IsManifest(%q) = %v", p, got)
	}
}

// checkLeast checks LeastBefore and EachFails of a valid triple.
func checkLeast(t *testing.T, rows [9][2]int, x impl.Triple) {
	t.Helper()
	sure, want := sureInRows(rows, x), impl.Triple{}
	if sure {
		want = leastInRows(rows, x)
	}
	if got, ok := impl.LeastBefore(x); got != want || ok != sure {
		t.Errorf("LeastBefore(%s) = %v, %v, want %v", tripleText(x), got, ok, want)
	}
	if got := impl.EachFails(x); got != eachInRows(rows, x) {
		t.Errorf("EachFails(%s) = %v", tripleText(x), got)
	}
}

// checkBackward checks all that is told of a program, for some sets behind, and
// for triples that have these behind, all that is reached, and half of that.
func checkBackward(t *testing.T, p string, sets []int) {
	t.Helper()
	rows := rowsBySteps(p)
	checkFails(t, p, canInRows(rows, 1, 511))
	for i, set := range sets {
		for exit := range 2 {
			checkBack(t, p, exit, set, canInRows(rows, exit, set), onlyInRows(rows, exit, set))
			before := sets[(i*5+1)%len(sets)]
			reached := reachedBySteps(rows, before, exit)
			for _, behind := range []int{set, reached, reached & set} {
				checkLeast(t, rows, impl.Triple{Before: before, Program: p, Exit: exit, Behind: behind})
			}
		}
	}
}

// checkSteps checks a list of programs that is stepped back.
func checkSteps(t *testing.T, list []string, want []int) {
	t.Helper()
	if got, ok := impl.StepBack(list); !slices.Equal(got, want) || !ok {
		t.Errorf("StepBack(%q) = %v, %v, want %v", list, got, ok, want)
	}
}

// backRows are programs with an exit and a set, and from where some result is in
// it and from where only such ones are, written out so that they depend on nothing.
var backRows = []struct {
	p              string
	exit           int
	set, can, only string
}{
	// atoms
	{".", 0, "00,12", "00,12", "00,12"},
	{".", 1, "00,12", "-", "00,01,02,10,11,12,20,21,22"},
	{"!", 1, "00,12", "00,12", "00,12"},
	{"!", 0, "00", "-", "00,01,02,10,11,12,20,21,22"},
	{"x+", 0, "10", "00", "00"},
	{"x+", 0, "00,11", "01,20", "01,20"},
	{"x+", 1, "00,11", "-", "00,01,02,10,11,12,20,21,22"},
	{"y+", 0, "20,22", "21,22", "21,22"},
	{"x1", 0, "10", "00,10,20", "00,10,20"},
	{"x1", 0, "00,20", "-", "-"},
	{"y2", 0, "02,11", "00,01,02", "00,01,02"},
	{"xy", 0, "11", "01,11,21", "01,11,21"},
	{"xy", 0, "01,10", "-", "-"},
	{"yx", 0, "11", "10,11,12", "10,11,12"},
	{"x?", 0, "10,11", "00,01,10,11,20,21", "-"},
	{"x?", 0, "01,11,21", "01,11,21", "01,11,21"},
	{"x?", 0, "00,01,10,11,21", "00,01,10,11,20,21", "01,11,21"},
	{"y?", 0, "00,11", "00,01,02,10,11,12", "-"},
	{"[x=0]", 0, "00", "00", "00,10,11,12,20,21,22"},
	{"[x=0]", 0, "11", "-", "10,11,12,20,21,22"},
	{"[x=0]", 0, "00,01,02,11", "00,01,02", "00,01,02,10,11,12,20,21,22"},
	{"[x<y]", 0, "01,10", "01", "00,01,10,11,20,21,22"},
	{"[x=0]", 1, "00", "-", "00,01,02,10,11,12,20,21,22"},

	// the set without states, and that of all of them
	{"x?", 0, "-", "-", "-"},
	{"x?", 1, "-", "-", "00,01,02,10,11,12,20,21,22"},
	{"[x=0]", 0, "-", "-", "10,11,12,20,21,22"},
	{"!", 0, "-", "-", "00,01,02,10,11,12,20,21,22"},
	{"!", 1, "-", "-", "-"},
	{"([x=0];!)", 1, "-", "-", "10,11,12,20,21,22"},
	{"x?", 0, "00,01,02,10,11,12,20,21,22", "00,01,02,10,11,12,20,21,22", "00,01,02,10,11,12,20,21,22"},
	{"x?", 1, "00,01,02,10,11,12,20,21,22", "-", "00,01,02,10,11,12,20,21,22"},
	{"[y<x]", 0, "00,01,02,10,11,12,20,21,22", "10,20,21", "00,01,02,10,11,12,20,21,22"},
	{"([y<x];!)", 1, "00,01,02,10,11,12,20,21,22", "10,20,21", "00,01,02,10,11,12,20,21,22"},

	// sequences
	{"(x+;y+)", 0, "00", "22", "22"},
	{"(x+;([x=0];!))", 1, "00", "20", "00,01,02,10,11,12,20"},
	{"(x+;([x=0];!))", 0, "00", "-", "00,01,02,10,11,12,20,21,22"},
	{"(x?;[x=y])", 0, "11,12", "01,11,21", "01,11,21"},
	{"(x?;[x<y])", 0, "01,12", "01,02,11,12,21,22", "00,01,10,11,20,21"},
	{"(!;x0)", 1, "10,20", "10,20", "10,20"},
	{"(!;x0)", 0, "00", "-", "00,01,02,10,11,12,20,21,22"},
	{"([x=0];[x=1])", 0, "00", "-", "00,01,02,10,11,12,20,21,22"},
	{"([x=0];[x=1])", 1, "-", "-", "00,01,02,10,11,12,20,21,22"},
	{"((!|x+);!)", 1, "00", "00,20", "-"},
	{"((!|x+);!)", 1, "00,10", "00,10,20", "00"},

	// choices
	{"(x1|!)", 1, "00", "00", "00"},
	{"(x1|!)", 0, "10", "00,10,20", "00,10,20"},
	{"(x0|x1)", 0, "00,11", "00,01,10,11,20,21", "-"},
	{"(x0|x1)", 0, "00,10", "00,10,20", "00,10,20"},
	{"([x=0]|([x#0];!))", 0, "00", "00", "00,10,11,12,20,21,22"},
	{"([x=0]|([x#0];!))", 1, "10", "10", "00,01,02,10"},
	{"(x+|y+)", 0, "11,12", "01,02,10,11", "-"},
	{"(x+|y+)", 0, "01,10", "00,12,21", "00"},
	{"(!|(x+;!))", 1, "00,10", "00,10,20", "00"},

	// loops
	{"{x+}", 0, "20", "00,10,20", "-"},
	{"{x+}", 0, "00,10,20,22", "00,02,10,12,20,22", "00,10,20"},
	{"{x+}", 1, "20", "-", "00,01,02,10,11,12,20,21,22"},
	{"{!}", 1, "00,12", "00,12", "00,12"},
	{"{!}", 0, "00,12", "00,12", "00,12"},
	{"{([x<2];x+)}", 0, "20", "00,10,20", "20"},
	{"{([x<2];x+)}", 0, "10,20", "00,10,20", "10,20"},
	{"{(x+|([x=2];!))}", 1, "20", "00,10,20", "00,10,20"},
	{"{(x+|([x=2];!))}", 1, "00,21", "01,11,21", "01,11,21"},
	{"{([x<2];(x+|([x=1];!)))}", 1, "10", "00,10", "00,10,20,21,22"},
	{"{{y1}}", 0, "01", "00,01,02", "01"},
	{"{([x=0];[x=1])}", 0, "00", "00", "00"},
}

func TestP8Rows(t *testing.T) {
	for _, row := range backRows {
		set, can, only := setOfText(row.set), setOfText(row.can), setOfText(row.only)
		checkBack(t, row.p, row.exit, set, can, only)
		rows := rowsBySteps(row.p)
		if canInRows(rows, row.exit, set) != can || onlyInRows(rows, row.exit, set) != only {
			t.Fatalf("the test takes %s and %s for those of %q", textOf(canInRows(rows, row.exit, set)), textOf(onlyInRows(rows, row.exit, set)), row.p)
		}
	}
}

// TestP8DocumentExamples takes what the document says of chapter 8, and its
// script's lines of it.
func TestP8DocumentExamples(t *testing.T) {
	if impl.MaxSteps != 8 {
		t.Errorf("MaxSteps = %d", impl.MaxSteps)
	}
	checkSteps(t, []string{"x+", "([x=2];!)"}, []int{setOfText("10,11,12"), setOfText("20,21,22")})
	const p = "(x+;([x=0];!))"
	checkFails(t, p, setOfText("20,21,22"))
	checkBack(t, p, 1, 1, setOfText("20"), setOfText("00,01,02,10,11,12,20"))
	x := triplesOf(t, "10,20 "+p+" error 00")[0]
	if got, ok := impl.LeastBefore(x); impl.FormatTriple(got) != "20 "+p+" error 00" || !ok {
		t.Errorf("LeastBefore(%s) = %v, %v", tripleText(x), got, ok)
	}
	if impl.EachFails(x) {
		t.Errorf("EachFails(%s) = true", tripleText(x))
	}
}

// TestP8AtomsAndAllSets takes each atom with each set behind, and each loop of
// one, and a choice that fails beside it, with some.
func TestP8AtomsAndAllSets(t *testing.T) {
	var some []int
	for set := 0; set < 512; set += 11 {
		some = append(some, set)
	}
	for _, row := range atomRows() {
		checkBackward(t, row.text, allSets())
		checkBackward(t, "{"+row.text+"}", some)
		checkBackward(t, "{(!|"+row.text+")}", some)
	}
}

func TestP8PairsOfAtoms(t *testing.T) {
	rows := atomRows()
	for i, p := range rows {
		for j, q := range rows {
			sets := []int{0, 511, (i*37 + j*11) % 512}
			checkBackward(t, "("+p.text+";"+q.text+")", sets)
			checkBackward(t, "("+p.text+"|"+q.text+")", sets)
		}
	}
}

func TestP8MadePrograms(t *testing.T) {
	for i, row := range programRows() {
		checkBackward(t, row.text, []int{i % 512, 511, i * 7 % 512, 0})
	}
}

// TestP8DrawnPrograms takes programs that are always drawn in the same way.
func TestP8DrawnPrograms(t *testing.T) {
	draw := rand.New(rand.NewSource(8))
	for count := 0; count < 2000; {
		p := drawnProgram(draw, 2+count%6)
		if isProgram(p) {
			checkBackward(t, p, []int{draw.Intn(512), 511, 1 << draw.Intn(9), draw.Intn(512)})
			count++
		}
	}
}

// TestP8EachIsTheOtherTurnedRound takes all states from which not only states of
// a set are reached for those from which others can be.
func TestP8EachIsTheOtherTurnedRound(t *testing.T) {
	for _, row := range backRows {
		for set := range 512 {
			can, _ := impl.CanReach(row.p, row.exit, set)
			only, ok := impl.OnlyReach(row.p, row.exit, 511-set)
			if can != 511-only || !ok {
				t.Errorf("for %q and %s, CanReach = %s, and OnlyReach of all others = %s", row.p, textOf(set), impl.FormatSet(can), impl.FormatSet(only))
			}
		}
	}
}

// TestP8Stuck takes states without any result, or without one with an exit:
// from them all results are in each set, and none can be.
func TestP8Stuck(t *testing.T) {
	for _, c := range []struct {
		p, stuck string
		exit     int
	}{
		{"[x=0]", "10,11,12,20,21,22", 0}, {"([x=0];[x=1])", textOf(511), 0}, {"([x=0];[x=1])", textOf(511), 1},
		{"([x=0];!)", "10,11,12,20,21,22", 1}, {"([x=0];!)", textOf(511), 0}, {"(!;[x=0])", textOf(511), 0}, {"(!;[x=0])", "-", 1},
		{"([x<y]|[y<x])", "00,11,22", 0}, {"([x<y]|([y<x];!))", "00,10,11,20,21,22", 0}, {"([x<y]|([y<x];!))", "00,01,02,11,12,22", 1},
		{"({x+};[x=0])", "-", 0}, {"({[y=0]};[x=0])", "10,11,12,20,21,22", 0}, {"{([x=0];[x=1])}", "-", 0}, {"{([x=0];[x=1])}", textOf(511), 1},
	} {
		stuck := setOfText(c.stuck)
		for set := range 512 {
			can, one := impl.CanReach(c.p, c.exit, set)
			only, two := impl.OnlyReach(c.p, c.exit, set)
			if can&stuck != 0 || only&stuck != stuck || !one || !two {
				t.Errorf("for %q and %s, CanReach = %s and OnlyReach = %s, where %s have no result", c.p, textOf(set), textOf(can), textOf(only), c.stuck)
			}
		}
		checkBack(t, c.p, c.exit, 0, 0, stuck)
		checkBack(t, c.p, c.exit, 511, 511-stuck, 511)
	}
}

// TestP8Fails takes programs that fail from all states, from some, and from
// none, at once and later on.
func TestP8Fails(t *testing.T) {
	for p, fails := range map[string]string{
		".": "-", "!": textOf(511), "x+": "-", "x?": "-", "[x=0]": "-",
		"(.|!)": textOf(511), "(!|.)": textOf(511), "(!;x0)": textOf(511), "(x0;!)": textOf(511), "{!}": textOf(511), "{x+}": "-",
		"([x=0];!)": "00,01,02", "([x<y];!)": "01,02,12", "([x=2];([y=2];!))": "22", "(x+;([x=0];!))": "20,21,22",
		"([x=0];([x=1];!))": "-", "(([x=0];[x=1]);!)": "-", "(!;([x=0];[x=1]))": textOf(511),
		"(x?;([x=y];!))": textOf(511), "(x?;([x<y];!))": "01,02,11,12,21,22", "([y=1];(x?;([x=y];!)))": "01,11,21",
		"([x#2]|([x=2];([y#1];!)))": "20,22", "(([x<2];!)|([y<2];!))": "00,01,02,10,11,12,20,21", "(([x=0];!)|([x#0];!))": textOf(511),
		"{(x+|([x=2];!))}": textOf(511), "{([y=1];(x+|([x=2];!)))}": "01,11,21", "{(x+;([x=2];!))}": "10,11,12", "{([x<2];(x+|([x=1];!)))}": "00,01,02,10,11,12",
		"({x+};([y=0];!))": "00,10,20", "(x0;([x#0];!))": "-", "{(x0;([x#0];!))}": "-",
	} {
		checkFails(t, p, setOfText(fails))
	}
	for _, row := range atomRows() {
		fails := 0
		if row.text == "!" {
			fails = 511
		}
		checkFails(t, row.text, fails)
		checkFails(t, "(!;"+row.text+")", 511)
		checkFails(t, "(!|"+row.text+")", 511)
	}
	for _, row := range testRows {
		checkFails(t, "(["+row.test+"];!)", setOfText(row.where))
	}
}

// overlapping goes on from 00 in 00, from 01 in 01, and from 02 in both.
const overlapping = "([y<2]|([y=2];(y?;[y<2])))"

// leastRows are sure triples, and the states that are left in Before. A state
// that is needed is kept, and of two that do the same the lesser one.
var leastRows = []struct{ text, before string }{
	{"00,10,20 x+ ok 10", "00"},
	{"00,10,20 x+ ok 00", "20"},
	{"00,10,20 x+ ok 00,20", "10,20"},
	{"00,10,20 x+ ok 00,10,20", "00,10,20"},
	{"00 x+ ok 10", "00"},
	{"00,01,02,10,11,12,20,21,22 x+ ok 11,20", "01,10"},
	{"01,11,21 x? ok 01,11", "01"},
	{"11,21 x? ok 01", "11"},
	{"21,22 x? ok 01,02", "21,22"},
	{"00,01,02,10,11,12,20,21,22 x? ok 00,01,02,10,11,12,20,21,22", "00,01,02"},
	{"00,01,02,10,11,12,20,21,22 x1 ok 10,11", "00,01"},
	{"01,10,20 (x1|y1) ok 11", "01"},
	{"01,10,20 (x1|y1) ok 11,21", "01,20"},
	{"02,12,22 [x=1] ok 12", "12"},

	// nothing behind, and nothing before
	{"00,10,20 x+ ok -", "-"},
	{"00 x+ error -", "-"},
	{"- x+ ok -", "-"},
	{"- ! error -", "-"},
	{"10,11 [x=0] ok -", "-"},

	// errors
	{"00,12 ! error 00,12", "00,12"},
	{"00,12 ! error 12", "12"},
	{"10,20 (x+;([x=0];!)) error 00", "20"},
	{"00,10,20,21 (x+;([x=0];!)) error 01", "21"},
	{"00,11 (.|!) error 11", "11"},
	{"00,20 ((!|x+);!) error 00", "00"},
	{"00,20 ((!|x+);!) error 00,10", "00"},

	// loops
	{"00,10,20 {x+} ok 00,10,20", "00"},
	{"10,20,22 {x+} ok 00,02", "10,22"},
	{"00,10,20 {([x<2];x+)} ok 10,20", "00"},
	{"10,20 {([x<2];x+)} ok 20", "10"},
	{"00,10,20 {(x+|([x=2];!))} error 20", "00"},
	{"00,01,20,21 {(x+|([x=2];!))} error 20,21", "00,01"},

	// two lesser states, for which a greater one would do
	{"00,01,02 " + overlapping + " ok 00,01", "00,01"},
	{"00,01,02 " + overlapping + " ok 01", "01"},
	{"00,02 " + overlapping + " ok 00,01", "02"},
	{"01,02 " + overlapping + " ok 01", "01"},
	{"02 " + overlapping + " ok -", "-"},
}

func TestP8LeastBefore(t *testing.T) {
	for _, row := range leastRows {
		x := triplesOf(t, row.text)[0]
		want := x
		want.Before = setOfText(row.before)
		if got, ok := impl.LeastBefore(x); got != want || !ok {
			t.Errorf("LeastBefore(%s) = %v, %v, want %s", row.text, got, ok, tripleText(want))
		}
		if again, ok := impl.LeastBefore(want); again != want || !ok {
			t.Errorf("LeastBefore(%s) = %v, %v", tripleText(want), again, ok)
		}
		if least := leastInRows(rowsBySteps(x.Program), x); least != want {
			t.Fatalf("the test takes %s for the least of %s", tripleText(least), row.text)
		}
	}
}

// TestP8LeastBeforeIsLeast has all sets before: what is left is sure, and is not
// without any of its states.
func TestP8LeastBeforeIsLeast(t *testing.T) {
	for _, p := range []string{"(x?|y+)", overlapping, "{([x<2];x+)}", "((!|x+);(!|y+))", "{(x+|([x=2];!))}"} {
		rows := rowsBySteps(p)
		for before := range 512 {
			for exit := range 2 {
				x := impl.Triple{Before: before, Program: p, Exit: exit, Behind: reachedBySteps(rows, before, exit)}
				least, ok := impl.LeastBefore(x)
				if !ok || !impl.IsSure(least) || withoutStates(least.Before, before) != 0 || least.Program != p || least.Exit != exit || least.Behind != x.Behind {
					t.Errorf("LeastBefore(%s) = %v, %v", tripleText(x), least, ok)
				}
				for _, state := range statesOf(least.Before) {
					fewer := least
					fewer.Before -= 1 << state
					if impl.IsSure(fewer) {
						t.Errorf("LeastBefore(%s) = %s, and %s is sure", tripleText(x), tripleText(least), tripleText(fewer))
					}
				}
			}
		}
	}
}

// TestP8LeastBeforeOfNotSure takes triples of which one state behind is not
// reached, or all are not.
func TestP8LeastBeforeOfNotSure(t *testing.T) {
	for _, x := range triplesOf(t, "00 x+ ok 20, 00,10,20 x+ ok 10,11, - x+ ok 10, - ! error 00, 00 x+ error 10, 00 ! ok 00, 20 [x<2] ok 20, 10 (x+;([x=0];!)) error 00, 00 {x+} ok 01, 01,10 "+overlapping+" ok 00,01, 00,01,02 [x=1] ok 00") {
		if got, ok := impl.LeastBefore(x); got != (impl.Triple{}) || ok {
			t.Errorf("LeastBefore(%s) = %v, %v", tripleText(x), got, ok)
		}
		checkLeast(t, rowsBySteps(x.Program), x)
	}
}

// TestP8EachFails takes triples that are sure or not, and of which each state
// before has a result behind or not, in all four ways.
func TestP8EachFails(t *testing.T) {
	for _, c := range []struct {
		text       string
		sure, each bool
	}{
		{"00 x+ ok 10", true, true},
		{"00,10,20 x+ ok 00,10,20", true, true},
		{"00,01 ! error 00,01", true, true},
		{"01,11 x? ok 01", true, true},
		{"00,10 (.|x0) ok 00", true, true},
		{"00,10,20 {(x+|([x=2];!))} error 20", true, true},
		{"20 (x+;([x=0];!)) error 00", true, true},
		{"- x+ ok -", true, true},
		{"- ! error -", true, true},
		{"- ([x=0];[x=1]) ok -", true, true},

		{"00,10,20 x+ ok 10", true, false},
		{"00,10 x+ ok 10", true, false},
		{"00 x+ ok -", true, false},
		{"00 x+ error -", true, false},
		{"00,10 [x=0] ok 00", true, false},
		{"10,20 (x+;([x=0];!)) error 00", true, false},
		{"00,01,02,10 ([x=0];!) error 00,01,02", true, false},
		{"10,20 {([x<2];x+)} ok 10", true, false},
		{"00,11 (.|!) error 11", true, false},

		{"00 x? ok 10,12", false, true},
		{"00 x+ ok 10,20", false, true},
		{"00,01 [x=0] ok 00,01,02", false, true},
		{"20 (x+;([x=0];!)) error 00,01", false, true},
		{"00 ! error 00,22", false, true},
		{"00 {x+} ok 20,21", false, true},
		{"- x+ ok 10", false, true},
		{"- ! error 00,01,02,10,11,12,20,21,22", false, true},
		{"- [x=0] error 22", false, true},

		{"00 x+ ok 20", false, false},
		{"00,10 x+ ok 10,11", false, false},
		{"00 x+ error 10", false, false},
		{"00 ! ok 00", false, false},
		{"20 [x<2] ok 20", false, false},
		{"01,10 {([x<2];x+)} ok 02,20", false, false},
		{"00,01 ([y=0];!) error 00,01", false, false},
	} {
		x := triplesOf(t, c.text)[0]
		if got := impl.EachFails(x); got != c.each {
			t.Errorf("EachFails(%s) = %v", c.text, got)
		}
		if got := impl.IsSure(x); got != c.sure {
			t.Errorf("IsSure(%s) = %v", c.text, got)
		}
		if eachInRows(rowsBySteps(x.Program), x) != c.each {
			t.Fatalf("the test takes %v for EachFails of %s", !c.each, c.text)
		}
	}
}

// TestP8EachFailsAndCanReach takes each set before for one from whose states a
// result is behind if it has no state but those of CanReach.
func TestP8EachFailsAndCanReach(t *testing.T) {
	for i, row := range backRows {
		can := setOfText(row.can)
		for before := i % 3; before < 512; before += 3 {
			x := impl.Triple{Before: before, Program: row.p, Exit: row.exit, Behind: setOfText(row.set)}
			if got := impl.EachFails(x); got != (withoutStates(before, can) == 0) {
				t.Errorf("EachFails(%s) = %v", tripleText(x), got)
			}
		}
	}
}

// stepBackRows are lists of programs, and from where each and all behind it fail.
var stepBackRows = []struct {
	list  []string
	fails []string
}{
	{nil, nil},
	{[]string{}, nil},

	// one program
	{[]string{"!"}, []string{textOf(511)}},
	{[]string{"."}, []string{"-"}},
	{[]string{"([x=2];!)"}, []string{"20,21,22"}},
	{[]string{"(x+;([x=0];!))"}, []string{"20,21,22"}},
	{[]string{"[x=0]"}, []string{"-"}},
	{[]string{"{(x+|([x=2];([y=1];!)))}"}, []string{"01,11,21"}},

	// the last one fails
	{[]string{"x+", "([x=2];!)"}, []string{"10,11,12", "20,21,22"}},
	{[]string{"x+", "x+", "([x=2];!)"}, []string{"00,01,02", "10,11,12", "20,21,22"}},
	{[]string{"y+", "x+", "([x=2];([y=2];!))"}, []string{"11", "12", "22"}},
	{[]string{"[x<y]", "!"}, []string{"01,02,12", textOf(511)}},
	{[]string{"xy", "([x=1];!)"}, []string{"01,11,21", "10,11,12"}},
	{[]string{"x?", "([x=y];!)"}, []string{textOf(511), "00,11,22"}},
	{[]string{"(x0|x1)", "([x=1];!)"}, []string{textOf(511), "10,11,12"}},
	{[]string{"{([x<2];x+)}", "([x=1];!)"}, []string{"00,01,02,10,11,12", "10,11,12"}},

	// one before fails, or none
	{[]string{"!", "."}, []string{textOf(511), "-"}},
	{[]string{"([x=0];!)", "x+"}, []string{"00,01,02", "-"}},
	{[]string{"!", "([x=0];[x=1])"}, []string{textOf(511), "-"}},
	{[]string{"x+", "([x=2];!)", "y+"}, []string{"10,11,12", "20,21,22", "-"}},
	{[]string{"x+", "y+", "[x=y]"}, []string{"-", "-", "-"}},
	{[]string{"([x=0];[x=1])", "!"}, []string{"-", textOf(511)}},
	{[]string{"(x0|[y=1])", "([x#0];!)"}, []string{"11,21", "10,11,12,20,21,22"}},

	// several fail
	{[]string{"!", "!"}, []string{textOf(511), textOf(511)}},
	{[]string{"([x=0];!)", "([x=1];!)"}, []string{"00,01,02", "10,11,12"}},
	{[]string{"(.|([x=0];!))", "([x=1];!)"}, []string{"00,01,02,10,11,12", "10,11,12"}},
	{[]string{"(x+|([x=0];!))", "(y+|([y=0];!))", "([x=2];([y=2];!))"}, []string{"00,01,02,10,11,20", "00,10,20,21", "22"}},
	{[]string{"{!}", "x+", "([x=0];!)"}, []string{textOf(511), "20,21,22", "00,01,02"}},

	// as many as there may be, and one less
	{[]string{"x+", "y+", "x+", "y+", "x+", "y+", "x+", "([x=0];([y=0];!))"}, []string{"20", "00", "01", "11", "12", "22", "20", "00"}},
	{[]string{"y+", "y+", "y+", "y+", "y+", "y+", "([y=2];([x=1];!))"}, []string{"12", "10", "11", "12", "10", "11", "12"}},
	{[]string{".", ".", ".", ".", ".", ".", ".", "."}, []string{"-", "-", "-", "-", "-", "-", "-", "-"}},
	{[]string{"!", ".", ".", ".", ".", ".", ".", "."}, []string{textOf(511), "-", "-", "-", "-", "-", "-", "-"}},
	{[]string{".", ".", ".", ".", ".", ".", ".", "([x=y];!)"}, []string{"00,11,22", "00,11,22", "00,11,22", "00,11,22", "00,11,22", "00,11,22", "00,11,22", "00,11,22"}},
}

func TestP8StepBack(t *testing.T) {
	for _, row := range stepBackRows {
		var want []int
		for _, text := range row.fails {
			want = append(want, setOfText(text))
		}
		if back := backInText(row.list); !slices.Equal(back, want) {
			t.Fatalf("the test takes %v for %q, want %v", back, row.list, want)
		}
		checkSteps(t, row.list, want)
	}
}

// TestP8StepBackOfLongPrograms takes programs that are as long as they may be,
// or have as many loops within each other: all of them together would be none.
func TestP8StepBackOfLongPrograms(t *testing.T) {
	long := []string{
		programOfBytes(60),
		"(x+;(x+;(x+;(x+;(x+;(x+;(x+;(x+;(x+;(x+;(x+;[x=0])))))))))))",
		"(x+|(x+|(x+|(x+|(x+|(x+|(x+|(x+|(x+|(x+|(x+|[x=0])))))))))))",
		"(y+;(y+;(y+;(y+;(y+;(y+;(y+;(y+;(y+;(y+;(y+;[y#0])))))))))))",
		loopsOf(6, "(x+|[x<y])"),
		"({([x<2];x+)};(yx;([x=y];(x+|(y+|([x=2];([y=2];.)))))))",
		"(x+;(y+;(x?;([x#y];(x+;(y+;([x<2];(y+;(x+;[y=2])))))))))",
		"((([x=2];!)|x+);(y+|(x+;([y=2];(.|([x=0];([y=2];!)))))))",
	}
	for i, p := range long {
		if !isProgram(p) {
			t.Fatalf("the test takes %q for a program", p)
		}
		list := append(slices.Clone(long[i:]), long[:i]...)
		checkSteps(t, list, backInText(list))
		list[7] = "([x=1];([y=2];!))"
		checkSteps(t, list, backInText(list))
	}
}

// TestP8DrawnSteps takes lists of programs that are always drawn in the same way.
func TestP8DrawnSteps(t *testing.T) {
	draw := rand.New(rand.NewSource(88))
	different := 0
	for count := 0; count < 900; {
		var list []string
		for range draw.Intn(9) {
			list = append(list, drawnProgram(draw, draw.Intn(4)))
		}
		if slices.ContainsFunc(list, func(p string) bool { return !isProgram(p) }) {
			continue
		}
		want := backInText(list)
		checkSteps(t, list, want)
		if len(slices.Compact(slices.Sorted(slices.Values(want)))) > 2 {
			different++
		}
		count++
	}
	if different < 100 {
		t.Errorf("%d of 900 lists fail from several sets", different)
	}
}

// TestP8StepBackAndFailsFrom steps back two and three programs that make one.
func TestP8StepBackAndFailsFrom(t *testing.T) {
	for _, row := range programRows() {
		if row.kind != ";" {
			continue
		}
		list := row.parts
		for last := list[len(list)-1]; impl.KindOf(last) == ";" && len(list) < 8; last = list[len(list)-1] {
			list = append(slices.Clone(list[:len(list)-1]), partsInText(last)...)
		}
		fails, _ := impl.FailsFrom(row.text)
		last, _ := impl.FailsFrom(list[len(list)-1])
		got, ok := impl.StepBack(list)
		if len(got) != len(list) || !ok || got[0] != fails || got[len(got)-1] != last {
			t.Errorf("StepBack(%q) = %v, %v, want %d first and %d last", list, got, ok, fails, last)
		}
	}
}

// checkNoBack checks that nothing is told of from where a set is reached.
func checkNoBack(t *testing.T, p string, exit int, set int) {
	t.Helper()
	if got, ok := impl.CanReach(p, exit, set); got != 0 || ok {
		t.Errorf("CanReach(%.40q, %d, %d) = %d, %v", p, exit, set, got, ok)
	}
	if got, ok := impl.OnlyReach(p, exit, set); got != 0 || ok {
		t.Errorf("OnlyReach(%.40q, %d, %d) = %d, %v", p, exit, set, got, ok)
	}
}

func TestP8NoPrograms(t *testing.T) {
	for _, p := range noPrograms {
		for _, set := range []int{0, 1, 511} {
			checkNoBack(t, p, 0, set)
			checkNoBack(t, p, 1, set)
		}
		if got, ok := impl.FailsFrom(p); got != 0 || ok {
			t.Errorf("FailsFrom(%.40q) = %d, %v", p, got, ok)
		}
		if got, ok := impl.SafeFrom(p); got != 0 || ok {
			t.Errorf("SafeFrom(%.40q) = %d, %v", p, got, ok)
		}
		if impl.IsManifest(p) {
			t.Errorf("IsManifest(%.40q) = true", p)
		}
	}
}

func TestP8NoSetsNoExits(t *testing.T) {
	for _, p := range []string{".", "!", "x?", "[x=0]", "([x=0];[x=1])", "{(x+|!)}", "q"} {
		for _, set := range noSets {
			for _, exit := range append([]int{0, 1}, noExits...) {
				checkNoBack(t, p, exit, set)
			}
		}
		for _, exit := range noExits {
			for _, set := range []int{0, 1, 33, 511} {
				checkNoBack(t, p, exit, set)
			}
		}
	}
}

// TestP8InvalidTriples takes triples that are not valid, those without a state
// before among them, of which nothing would be wrong otherwise.
func TestP8InvalidTriples(t *testing.T) {
	for _, x := range noTriples() {
		if got, ok := impl.LeastBefore(x); got != (impl.Triple{}) || ok {
			t.Errorf("LeastBefore(%.60v) = %.60v, %v", x, got, ok)
		}
		if impl.EachFails(x) {
			t.Errorf("EachFails(%.60v) = true", x)
		}
	}
}

// checkNoSteps checks that nothing is told of a list.
func checkNoSteps(t *testing.T, list []string) {
	t.Helper()
	if got, ok := impl.StepBack(list); len(got) != 0 || ok {
		t.Errorf("StepBack(%.40q) = %v, %v", list, got, ok)
	}
}

// TestP8StepBackOfNoPrograms puts a text that is no program at each place of a
// list, with programs at all others.
func TestP8StepBackOfNoPrograms(t *testing.T) {
	for i, p := range noPrograms {
		checkNoSteps(t, []string{p})
		checkNoSteps(t, []string{p, p})
		checkNoSteps(t, slices.Repeat([]string{p}, 8))
		length := 1 + i%8
		for place := range length {
			list := slices.Repeat([]string{"(x+|!)"}, length)
			list[place] = p
			checkNoSteps(t, list)
		}
	}
	for place := range 8 {
		list := []string{"!", ".", "x+", "[x=0]", "{x+}", "(x0;!)", "(x?|y?)", "([x=2];!)"}
		list[place] = "q"
		checkNoSteps(t, list)
	}
}

// TestP8StepBackOfTooMany takes one program more than there may be, and many.
func TestP8StepBackOfTooMany(t *testing.T) {
	for _, length := range []int{9, 10, 16, 17, 100, 100000} {
		for _, p := range []string{".", "!", "([x=2];!)", "q", ""} {
			checkNoSteps(t, slices.Repeat([]string{p}, length))
		}
	}
	whole := strings.Fields("x+ y+ x+ y+ x+ y+ x+ ([x=0];!) x+")
	checkNoSteps(t, whole)
	checkSteps(t, whole[:8], backInText(whole[:8]))
	checkSteps(t, whole[1:], backInText(whole[1:]))
}

// TestP8MemoryOfLists writes over a result, that past its length included, and
// gives lists that have programs past their length.
func TestP8MemoryOfLists(t *testing.T) {
	for _, row := range stepBackRows {
		whole := append(slices.Clone(row.list), "past", "q")
		kept := slices.Clone(whole)
		list := whole[:len(row.list)]
		want := backInText(list)
		one, _ := impl.StepBack(list)
		two, _ := impl.StepBack(list)
		for i := range one[:cap(one)] {
			one[:cap(one)][i] = -77
		}
		if !slices.Equal(two, want) || !slices.Equal(whole, kept) {
			t.Errorf("after a write to another result, StepBack(%q) = %v of %q", row.list, two, whole)
		}
		checkSteps(t, list, want)
	}
}

// TestP8CallsBesideEachOther steps back several lists at the same time, over and
// over: each is told what it is by itself.
func TestP8CallsBesideEachOther(t *testing.T) {
	var working sync.WaitGroup
	wrong := make([][]int, len(stepBackRows))
	for i, row := range stepBackRows {
		want := backInText(row.list)
		working.Add(1)
		go func() {
			defer working.Done()
			for range 50 {
				if got, _ := impl.StepBack(row.list); !slices.Equal(got, want) {
					wrong[i] = got
				}
			}
		}()
	}
	working.Wait()
	for i, got := range wrong {
		if got != nil {
			t.Errorf("StepBack(%q) = %v beside others", stepBackRows[i].list, got)
		}
	}
}
