package tests

import (
	"math/rand"
	"strings"
	"testing"

	"loop.example/surelywrong/impl"
)

// exitTexts are the words of the exits by their numbers.
var exitTexts = []string{"ok", "error"}

// tripleText returns the text of a valid triple, made of its parts.
func tripleText(t impl.Triple) string {
	return textOf(t.Before) + " " + t.Program + " " + exitTexts[t.Exit] + " " + textOf(t.Behind)
}

// setsByText are all sets by their texts.
func setsByText() map[string]int {
	sets := map[string]int{}
	for set := range 512 {
		sets[textOf(set)] = set
	}
	return sets
}

// tripleOf returns the triple of a text, which it takes apart at the spaces.
func tripleOf(text string, sets map[string]int) (impl.Triple, bool) {
	words := strings.Split(text, " ")
	if len(words) != 4 || !isProgram(words[1]) || words[2] != "ok" && words[2] != "error" {
		return impl.Triple{}, false
	}
	before, one := sets[words[0]]
	behind, two := sets[words[3]]
	if !one || !two {
		return impl.Triple{}, false
	}
	exit := 0
	if words[2] == "error" {
		exit = 1
	}
	return impl.Triple{Before: before, Program: words[1], Exit: exit, Behind: behind}, true
}

// withoutStates returns the states of a set that are not in another one.
func withoutStates(a int, b int) int {
	set := 0
	for state := range 9 {
		if a>>state%2 == 1 && b>>state%2 == 0 {
			set += 1 << state
		}
	}
	return set
}

// reachedBySteps returns what a program reaches from a set, of its results from
// each state.
func reachedBySteps(rows [9][2]int, from int, exit int) int {
	set := 0
	for _, state := range statesOf(from) {
		set |= rows[state][exit]
	}
	return set
}

// checkTriple checks all that is told of one valid triple.
func checkTriple(t *testing.T, x impl.Triple, reached int) {
	t.Helper()
	missing, surplus := withoutStates(x.Behind, reached), withoutStates(reached, x.Behind)
	if !impl.TripleValid(x) {
		t.Errorf("TripleValid(%v) = false", x)
	}
	if got := impl.IsSure(x); got != (missing == 0) {
		t.Errorf("IsSure(%s) = %v", tripleText(x), got)
	}
	if got := impl.IsAlways(x); got != (surplus == 0) {
		t.Errorf("IsAlways(%s) = %v", tripleText(x), got)
	}
	if got, ok := impl.MissingOf(x); got != missing || !ok {
		t.Errorf("MissingOf(%s) = %s, %v, want %s", tripleText(x), impl.FormatSet(got), ok, textOf(missing))
	}
	if got, ok := impl.SurplusOf(x); got != surplus || !ok {
		t.Errorf("SurplusOf(%s) = %s, %v, want %s", tripleText(x), impl.FormatSet(got), ok, textOf(surplus))
	}
}

// checkTriplesOf checks the triples of a program that have one of some sets
// before and one of some sets behind.
func checkTriplesOf(t *testing.T, p string, befores []int, behinds []int) {
	t.Helper()
	rows := rowsBySteps(p)
	for _, before := range befores {
		for exit := range 2 {
			reached := reachedBySteps(rows, before, exit)
			for _, behind := range behinds {
				checkTriple(t, impl.Triple{Before: before, Program: p, Exit: exit, Behind: behind}, reached)
			}
			most := impl.Triple{Before: before, Program: p, Exit: exit, Behind: reached}
			if got, ok := impl.MostSure(before, p, exit); got != most || !ok {
				t.Errorf("MostSure(%s, %q, %d) = %v, %v, want %v", textOf(before), p, exit, got, ok, most)
			}
			checkTriple(t, most, reached)
		}
	}
}

// tripleRows are triples with what is told of them, written out so that they
// depend on nothing.
var tripleRows = []struct {
	text             string
	sure, always     bool
	missing, surplus string
}{
	{"00,10,20 x+ ok 10", true, false, "-", "00,20"},
	{"00,10,20 x+ ok 00,10,20", true, true, "-", "-"},
	{"00 x+ ok 10", true, true, "-", "-"},
	{"00 x+ ok 10,20", false, true, "20", "-"},
	{"00 x+ ok 20", false, false, "20", "10"},
	{"00 x+ ok -", true, false, "-", "10"},
	{"00 x+ ok 00,01,02,10,11,12,20,21,22", false, true, "00,01,02,11,12,20,21,22", "-"},
	{"- x+ ok -", true, true, "-", "-"},
	{"- x+ ok 10", false, true, "10", "-"},
	{"- x+ error -", true, true, "-", "-"},
	{"- ! error -", true, true, "-", "-"},
	{"- ! error 00", false, true, "00", "-"},
	{"- {(x+|!)} error 00,22", false, true, "00,22", "-"},
	{"- {x+} ok -", true, true, "-", "-"},
	{"00,12 . ok 00,12", true, true, "-", "-"},
	{"00,12 . ok 00", true, false, "-", "12"},
	{"00,12 . ok 00,12,22", false, true, "22", "-"},
	{"00,12 . ok 01,12", false, false, "01", "00"},
	{"00,12 . error -", true, true, "-", "-"},
	{"00,12 . error 00,12", false, true, "00,12", "-"},
	{"00 ! error 00", true, true, "-", "-"},
	{"00 ! error -", true, false, "-", "00"},
	{"00 ! error 10", false, false, "10", "00"},
	{"00 ! ok -", true, true, "-", "-"},
	{"00 ! ok 00", false, true, "00", "-"},
	{"01 x? ok 01,21", true, false, "-", "11"},
	{"01 x? ok 01,12", false, false, "12", "11,21"},
	{"01,02 [x<2] ok 01", true, false, "-", "02"},
	{"01,20 [x<2] ok 01", true, true, "-", "-"},
	{"20 [x<2] ok -", true, true, "-", "-"},
	{"20 [x<2] ok 20", false, true, "20", "-"},
	{"20 [x<2] error 20", false, true, "20", "-"},
	{"20 (x+;([x=0];!)) error 00", true, true, "-", "-"},
	{"10,20 (x+;([x=0];!)) error 00", true, true, "-", "-"},
	{"10 (x+;([x=0];!)) error -", true, true, "-", "-"},
	{"10 (x+;([x=0];!)) error 00", false, true, "00", "-"},
	{"10,20 (x+;([x=0];!)) ok 20", false, true, "20", "-"},
	{"20,21,22 (x+;([x=0];!)) error 00,02", true, false, "-", "01"},
	{"20,22 (x+;([x=0];!)) error 00,01", false, false, "01", "02"},
	{"00,11 (.|!) ok 11", true, false, "-", "00"},
	{"00,11 (.|!) error 00,11", true, true, "-", "-"},
	{"00,11 (.|!) error 00,22", false, false, "22", "11"},
	{"00 {x+} ok 00,10", true, false, "-", "20"},
	{"00 {x+} ok 00,10,20", true, true, "-", "-"},
	{"00 {x+} ok 00,10,20,21", false, true, "21", "-"},
	{"00 {x+} ok 00,10,21", false, false, "21", "20"},
	{"00 {x+} error 00", false, true, "00", "-"},
	{"00 {(x+|([x=2];!))} error 20", true, true, "-", "-"},
	{"00 {(x+|([x=2];!))} error -", true, false, "-", "20"},
	{"00 {(x+|([x=2];!))} error 00,10", false, false, "00,10", "20"},
	{"00 {(x+|([x=2];!))} ok 20", true, false, "-", "00,10"},
	{"01,10 {([x=1];{([y=1];{!})})} error -", true, true, "-", "-"},
	{"01,11 {([x=1];{([y=1];{!})})} error 11", true, true, "-", "-"},
	{"11 {([x=1];{([y=1];{!})})} error -", true, false, "-", "11"},
	{"00 (!;x1) error 00", true, true, "-", "-"},
	{"00 (!;x1) ok 10", false, true, "10", "-"},
	{"02 ([x=0];[x=1]) ok -", true, true, "-", "-"},
	{"02 ([x=0];[x=1]) ok 02", false, true, "02", "-"},
}

// TestP5Fields takes a Triple for a struct with just the fields that the
// document names, which is compared by == and a key of a map.
func TestP5Fields(t *testing.T) {
	x := impl.Triple(struct {
		Before  int
		Program string
		Exit    int
		Behind  int
	}{33, "(x0;x1)", 1, 40})
	if x.Before != 33 || x.Program != "(x0;x1)" || x.Exit != 1 || x.Behind != 40 {
		t.Errorf("Triple = %v", x)
	}
	where := map[impl.Triple]int{{Program: "."}: 1, {Program: ".", Exit: 1}: 2, x: 3}
	if where[impl.Triple{Before: 33, Program: "(x0;" + "x1)", Exit: 1, Behind: 40}] != 3 || len(where) != 3 {
		t.Errorf("triples in a map: %v", where)
	}
}

func TestP5Rows(t *testing.T) {
	sets := setsByText()
	for _, row := range tripleRows {
		x, ok := impl.ParseTriple(row.text)
		if want, is := tripleOf(row.text, sets); x != want || !ok || !is {
			t.Errorf("ParseTriple(%q) = %v, %v, want %v", row.text, x, ok, want)
		}
		if got := impl.FormatTriple(x); got != row.text {
			t.Errorf("FormatTriple(%v) = %q, want %q", x, got, row.text)
		}
		if got := impl.IsSure(x); got != row.sure {
			t.Errorf("IsSure(%q) = %v", row.text, got)
		}
		if got := impl.IsAlways(x); got != row.always {
			t.Errorf("IsAlways(%q) = %v", row.text, got)
		}
		if got, ok := impl.MissingOf(x); got != setOfText(row.missing) || !ok {
			t.Errorf("MissingOf(%q) = %s, %v", row.text, impl.FormatSet(got), ok)
		}
		if got, ok := impl.SurplusOf(x); got != setOfText(row.surplus) || !ok {
			t.Errorf("SurplusOf(%q) = %s, %v", row.text, impl.FormatSet(got), ok)
		}
	}
}

func TestP5DocumentExample(t *testing.T) {
	x := impl.Triple{Before: 73, Program: "x+", Exit: impl.ExitOk, Behind: 8}
	if got := impl.FormatTriple(x); got != "00,10,20 x+ ok 10" {
		t.Errorf("FormatTriple(%v) = %q", x, got)
	}
	if !impl.IsSure(x) || impl.IsAlways(x) {
		t.Errorf("of %v, IsSure = %v, IsAlways = %v", x, impl.IsSure(x), impl.IsAlways(x))
	}
}

// TestP5AllSetsBehind takes each set behind, from some sets and from none.
func TestP5AllSetsBehind(t *testing.T) {
	for _, p := range []string{".", "!", "x?", "[x<y]", "(x+;([x=0];!))", "(.|!)", "{(x+|([x=2];!))}", "([x=0];[x=1])", "{!}"} {
		checkTriplesOf(t, p, []int{0, 1, 33, 320, 511}, allSets())
	}
}

// TestP5AllSetsBefore takes each set before, with some sets behind and none.
func TestP5AllSetsBefore(t *testing.T) {
	for _, p := range []string{".", "!", "y?", "yx", "[x=y]", "(x+;([x=0];!))", "(.|!)", "{(x+|([x=2];!))}", "({x+};[y=2])", "{([x<y];(y+|!))}"} {
		checkTriplesOf(t, p, allSets(), []int{0, 8, 73, 146, 511})
	}
}

func TestP5Atoms(t *testing.T) {
	for _, row := range atomRows() {
		checkTriplesOf(t, row.text, []int{0, 1, 6, 73, 256, 511}, []int{0, 1, 7, 64, 292, 510, 511})
	}
}

func TestP5MadePrograms(t *testing.T) {
	for i, row := range programRows() {
		checkTriplesOf(t, row.text, []int{0, i % 512, 511}, []int{0, i * 7 % 512, 511})
	}
}

// TestP5DrawnTriples takes triples that are always drawn in the same way, most
// of them with what is nearly reached behind.
func TestP5DrawnTriples(t *testing.T) {
	draw := rand.New(rand.NewSource(5))
	for count := 0; count < 1500; {
		p := drawnProgram(draw, 3+count%5)
		if !isProgram(p) {
			continue
		}
		count++
		rows := rowsBySteps(p)
		for range 8 {
			before, exit := draw.Intn(512), draw.Intn(2)
			reached := reachedBySteps(rows, before, exit)
			for _, behind := range []int{draw.Intn(512), reached & draw.Intn(512), reached | draw.Intn(512), reached ^ 1<<draw.Intn(9)} {
				checkTriple(t, impl.Triple{Before: before, Program: p, Exit: exit, Behind: behind}, reached)
			}
		}
	}
}

// TestP5KindsDoNotDependOnEachOther takes triples of each of the four ways in
// which they can be sure and hold always, for an atom, a loop and a program that
// fails from some states.
func TestP5KindsDoNotDependOnEachOther(t *testing.T) {
	for _, c := range []struct{ subject, both, sure, always, neither string }{
		{"00,10 x+ ok ", "10,20", "20", "10,20,22", "20,22"},
		{"01 {x+} ok ", "01,11,21", "01,21", "01,02,11,21", "02,11"},
		{"20,21 (x+;([x=0];!)) error ", "00,01", "00", "00,01,02", "00,02"},
	} {
		for i, behind := range []string{c.both, c.sure, c.always, c.neither} {
			x, ok := impl.ParseTriple(c.subject + behind)
			if sure, always := impl.IsSure(x), impl.IsAlways(x); !ok || sure != (i < 2) || always != (i%2 == 0) {
				t.Errorf("of %q, IsSure = %v, IsAlways = %v", c.subject+behind, sure, always)
			}
		}
	}
}

// TestP5MostSureHasMost takes out and puts in one state behind of what MostSure
// returns: then it is still sure, or not sure any more.
func TestP5MostSureHasMost(t *testing.T) {
	for _, p := range []string{".", "!", "x+", "y?", "[x<y]", "(x+;([x=0];!))", "{(x+|([x=2];!))}", "({x+};(.|!))", "([x=0];[x=1])"} {
		for before := range 512 {
			for exit := range 2 {
				most, ok := impl.MostSure(before, p, exit)
				if !ok || most.Before != before || most.Program != p || most.Exit != exit || !impl.IsSure(most) || !impl.IsAlways(most) {
					t.Errorf("MostSure(%d, %q, %d) = %v, %v", before, p, exit, most, ok)
				}
				for state := range 9 {
					x := most
					x.Behind ^= 1 << state
					within := most.Behind>>state%2 == 1
					if impl.IsSure(x) != within || impl.IsAlways(x) == within {
						t.Errorf("of %q, IsSure = %v, IsAlways = %v", tripleText(x), impl.IsSure(x), impl.IsAlways(x))
					}
				}
			}
		}
	}
}

func TestP5MostSureOfInvalid(t *testing.T) {
	check := func(before int, p string, exit int) {
		if got, ok := impl.MostSure(before, p, exit); got != (impl.Triple{}) || ok {
			t.Errorf("MostSure(%d, %.40q, %d) = %v, %v", before, p, exit, got, ok)
		}
	}
	for _, before := range noSets {
		check(before, "x+", 0)
		check(before, "!", 1)
		check(before, "q", 0)
	}
	for _, exit := range noExits {
		check(1, "x+", exit)
		check(0, "!", exit)
	}
	for _, p := range noPrograms {
		check(1, p, 0)
		check(0, p, 1)
	}
}

// noTriples are triples that are not valid, each for one of its fields or for
// several of them.
func noTriples() []impl.Triple {
	list := []impl.Triple{{}, {Before: 1, Exit: 1, Behind: 1}, {Before: -1, Program: "q", Exit: 2, Behind: 512}, {Before: 512, Program: "x+", Exit: -1}}
	for _, set := range noSets {
		for exit := range 2 {
			list = append(list,
				impl.Triple{Before: set, Program: "x+", Exit: exit, Behind: 8},
				impl.Triple{Before: 1, Program: "x+", Exit: exit, Behind: set},
				impl.Triple{Before: set, Program: "!", Exit: exit},
				impl.Triple{Program: "!", Exit: exit, Behind: set},
				impl.Triple{Before: set, Program: ".", Exit: exit, Behind: set})
		}
	}
	for _, exit := range noExits {
		list = append(list, impl.Triple{Before: 1, Program: "x+", Exit: exit, Behind: 8}, impl.Triple{Program: ".", Exit: exit})
	}
	for _, p := range noPrograms {
		for exit := range 2 {
			list = append(list, impl.Triple{Before: 1, Program: p, Exit: exit, Behind: 1}, impl.Triple{Program: p, Exit: exit})
		}
	}
	return list
}

func TestP5InvalidTriples(t *testing.T) {
	for _, x := range noTriples() {
		if impl.TripleValid(x) || impl.IsSure(x) || impl.IsAlways(x) {
			t.Errorf("of %.60v, TripleValid = %v, IsSure = %v, IsAlways = %v", x, impl.TripleValid(x), impl.IsSure(x), impl.IsAlways(x))
		}
		if got := impl.FormatTriple(x); got != "" {
			t.Errorf("FormatTriple(%.60v) = %.60q", x, got)
		}
		if got, ok := impl.MissingOf(x); got != 0 || ok {
			t.Errorf("MissingOf(%.60v) = %d, %v", x, got, ok)
		}
		if got, ok := impl.SurplusOf(x); got != 0 || ok {
			t.Errorf("SurplusOf(%.60v) = %d, %v", x, got, ok)
		}
	}
}

// TestP5RefutesOfInvalid has a triple that is not valid refute a valid one, the
// other way round, and itself, with everything else as it has to be.
func TestP5RefutesOfInvalid(t *testing.T) {
	valid := []impl.Triple{{Before: 1, Program: "x+", Behind: 8}, {Before: 1, Program: "x+"}, {Before: 511, Program: ".", Behind: 1}, {Program: "!", Exit: 1}}
	for _, x := range noTriples() {
		for _, y := range valid {
			if impl.Refutes(x, y) || impl.Refutes(y, x) {
				t.Errorf("of %.60v and %v, Refutes = %v, %v", x, y, impl.Refutes(x, y), impl.Refutes(y, x))
			}
			alike := x
			alike.Before, alike.Behind = 511, 0
			other := x
			other.Before, other.Behind = 1, 511
			if impl.TripleValid(alike) {
				continue
			}
			if impl.Refutes(x, alike) || impl.Refutes(other, alike) || impl.Refutes(other, x) || impl.Refutes(x, x) {
				t.Errorf("Refutes of %.60v", x)
			}
		}
	}
	for _, set := range noSets {
		sure := impl.Triple{Before: 1, Program: "x+", Behind: 8}
		for _, always := range []impl.Triple{{Before: set, Program: "x+"}, {Before: 511, Program: "x+", Behind: set}, {Before: set, Program: "x+", Behind: set}} {
			if impl.Refutes(sure, always) {
				t.Errorf("Refutes(%v, %v)", sure, always)
			}
		}
		always := impl.Triple{Before: 511, Program: "x+"}
		for _, sure := range []impl.Triple{{Before: set, Program: "x+"}, {Before: 1, Program: "x+", Behind: set}, {Before: set, Program: "x+", Behind: 8}} {
			if impl.Refutes(sure, always) {
				t.Errorf("Refutes(%v, %v)", sure, always)
			}
		}
	}
}

func TestP5RefutesRows(t *testing.T) {
	for _, c := range []struct {
		sure, always string
		refutes      bool
	}{
		{"00,10 x+ ok 10,20", "00,10,20 x+ ok 10", true},
		{"00,10 x+ ok 10,20", "00,10 x+ ok 10", true},
		{"00,10 x+ ok 20", "00,10 x+ ok 10", true},
		{"00,10 x+ ok 20", "00,10 x+ ok -", true},
		{"00,10 x+ ok 20", "00,10 x+ ok 00,01,02,10,11,12,21,22", true},
		{"00,10 x+ ok 10,20", "00,10 x+ ok 10,20", false},
		{"00,10 x+ ok 10", "00,10 x+ ok 10,20", false},
		{"00,10 x+ ok 10", "00,10 x+ ok 10,22", false},
		{"00,10 x+ ok 10,20", "00 x+ ok 10", false},
		{"00,10 x+ ok 20", "10 x+ ok -", false},
		{"10 x+ ok 20", "00 x+ ok -", false},
		{"00,10 x+ ok 10,20", "00,10 y+ ok -", false},
		{"00,10 x+ ok 10,20", "00,10 x+ error -", false},
		{"00 ! error 00", "00 ! ok -", false},
		{"00 ! error 00", "00 ! error -", true},
		{"00 ! error 00", "00 ! error 01", true},
		{"00 x+ ok 20", "00 x+ ok 10", false},
		{"00 x+ ok 10,20", "00 x+ ok -", false},
		{"00 x+ ok -", "00 x+ ok -", false},
		{"00 x+ ok -", "00 x+ ok 20", false},
		{"- x+ ok -", "00 x+ ok -", false},
		{"- x+ ok 10", "00 x+ ok -", false},
		{"- x+ ok -", "- x+ ok -", false},
		{"00 x+ ok 10", "- x+ ok -", false},
		{"00 . ok 00", "00 (.;.) ok -", false},
		{"00 (.;.) ok 00", "00 (.;.) ok -", true},
		{"00 (.;.) ok 00", "00 (.|.) ok -", false},
		{"00 (.;.) ok 00", "00 (.;(.;.)) ok -", false},
		{"00 (x+|.) ok 10", "00 (.|x+) ok 00", false},
		{"00 {x+} ok 10", "00 {{x+}} ok 00", false},
		{"20 (x+;([x=0];!)) error 00", "20,21 (x+;([x=0];!)) error 01", true},
		{"20 (x+;([x=0];!)) error 00", "20,21 (x+;([x=0];!)) error 00,01", false},
		{"20 (x+;([x=0];!)) error 00", "20 (x+;([x=0];!)) ok -", false},
		{"00 {x+} ok 20", "00,10 {x+} ok 00,10", true},
		{"00 {x+} ok 21", "00,10 {x+} ok 00,10", false},
		{"00 {(x+|([x=2];!))} error 20", "00 {(x+|([x=2];!))} error 00,10", true},
	} {
		sure, one := impl.ParseTriple(c.sure)
		always, two := impl.ParseTriple(c.always)
		if !one || !two {
			t.Fatalf("the test takes %q or %q for a triple", c.sure, c.always)
		}
		if got := impl.Refutes(sure, always); got != c.refutes {
			t.Errorf("Refutes(%q, %q) = %v", c.sure, c.always, got)
		}
		if c.refutes && impl.IsAlways(always) {
			t.Errorf("%q is refuted and holds always", c.always)
		}
	}
}

// TestP5RefutesPairs takes all pairs of triples with a few sets, of programs
// and exits that are the same and that are not.
func TestP5RefutesPairs(t *testing.T) {
	var list []impl.Triple
	rows := map[string][9][2]int{}
	for _, p := range []string{"x+", "(.|!)", "{(x+|([x=2];!))}", "(x+;([x=0];!))"} {
		rows[p] = rowsBySteps(p)
		for _, before := range []int{0, 1, 64, 65, 73, 511} {
			for _, behind := range []int{0, 1, 8, 9, 64, 72, 511} {
				for exit := range 2 {
					list = append(list, impl.Triple{Before: before, Program: p, Exit: exit, Behind: behind})
				}
			}
		}
	}
	for _, sure := range list {
		reached := reachedBySteps(rows[sure.Program], sure.Before, sure.Exit)
		for _, always := range list {
			want := withoutStates(sure.Behind, reached) == 0 && sure.Program == always.Program && sure.Exit == always.Exit &&
				withoutStates(sure.Before, always.Before) == 0 && withoutStates(sure.Behind, always.Behind) != 0
			if got := impl.Refutes(sure, always); got != want {
				t.Errorf("Refutes(%q, %q) = %v", tripleText(sure), tripleText(always), got)
			}
			if want && impl.IsAlways(always) {
				t.Errorf("%q is refuted and holds always", tripleText(always))
			}
		}
	}
}

// TestP5NotAlwaysIsRefuted has each triple that does not hold always refuted by
// the sure one with most states behind, and no other one.
func TestP5NotAlwaysIsRefuted(t *testing.T) {
	for _, p := range []string{"!", "x?", "(x+;([x=0];!))", "{(x+|([x=2];!))}"} {
		for before := range 512 {
			for _, behind := range []int{0, 1, 73, 511, before, before * 7 % 512} {
				for exit := range 2 {
					x := impl.Triple{Before: before, Program: p, Exit: exit, Behind: behind}
					most, _ := impl.MostSure(before, p, exit)
					if impl.Refutes(most, x) == impl.IsAlways(x) {
						t.Errorf("Refutes(%q, %q) = %v", tripleText(most), tripleText(x), impl.Refutes(most, x))
					}
				}
			}
		}
	}
}

// TestP5Texts takes triples to their texts and back.
func TestP5Texts(t *testing.T) {
	check := func(x impl.Triple) {
		text := tripleText(x)
		if got := impl.FormatTriple(x); got != text {
			t.Errorf("FormatTriple(%v) = %q, want %q", x, got, text)
		}
		if got, ok := impl.ParseTriple(text); got != x || !ok {
			t.Errorf("ParseTriple(%q) = %v, %v", text, got, ok)
		}
	}
	for i, row := range programRows() {
		check(impl.Triple{Before: i % 512, Program: row.text, Exit: i / 3 % 2, Behind: i * 11 % 512})
	}
	for set := range 512 {
		for exit := range 2 {
			check(impl.Triple{Before: set, Program: "{(x+|!)}", Exit: exit, Behind: 511 - set})
		}
	}
	check(impl.Triple{Before: 511, Program: programOfBytes(60), Exit: 1, Behind: 511})
	check(impl.Triple{Program: loopsOf(6, "."), Exit: 1})
}

// checkNoText checks that a text is that of no triple.
func checkNoText(t *testing.T, text string) {
	t.Helper()
	if x, ok := impl.ParseTriple(text); x != (impl.Triple{}) || ok {
		t.Errorf("ParseTriple(%.80q) = %.80v, %v", text, x, ok)
	}
}

func TestP5TextsOfNoTriple(t *testing.T) {
	for _, text := range []string{
		"", " ", "  ", "   ", "    ", "\n", "\x00", "-", "- -", "- - - -", "00", "00 x+", "00 x+ ok", "x+ ok 10", "x+", "ok",
		"00 x+ 10", "00 ok 10", "00 x+ ok 10 10", "00 x+ ok 10 ok", "00 x+ ok 10 x+ ok 10", "00 00 x+ ok 10", "00 x+ x+ ok 10", "00 x+ ok ok 10",
		"00 x+ ok 10 atom", "00 x+ ok 10 -", "- x+ ok - -", "x+ 00 ok 10", "00 ok x+ 10", "ok x+ 00 10", "00 10 x+ ok", "00 x+ 10 ok", "10 ok x+ 00", "x+ ok 00 10", "ok 00 x+ 10",
		"00  x+ ok 10", "00 x+  ok 10", "00 x+ ok  10", " 00 x+ ok 10", "00 x+ ok 10 ", "  00 x+ ok 10", "00 x+ ok 10  ", "00  x+  ok  10", "00  ok 10", "00 x+  10", " x+ ok 10", "00 x+ ok ", "- x+ ok ", " x+ ok -",
		"00\tx+\tok\t10", "00\nx+\nok\n10", "00 x+ ok\t10", "00 x+ ok 10\n", "\n00 x+ ok 10", "00 x+ ok 10\r", "00\u00a0x+ ok 10", "00 x+ ok 10\x00", "\x0000 x+ ok 10", "00\x00x+ ok 10", "00 x+ ok 10\xff", "\xff 00 x+ ok 10",
		"00,x+,ok,10", "00 x+,ok 10", "00;x+;ok;10", "00x+ok10", "00x+ ok 10", "00 x+ok 10", "00 x+ ok10",
		"03 x+ ok 10", "00 x+ ok 13", "0 x+ ok 10", "00 x+ ok 1", "000 x+ ok 10", "00 x+ ok 100", "1 x+ 0 8", "73 x+ ok 10", "00 x+ ok 8", "-1 x+ ok 10",
		"10,00 x+ ok 10", "00 x+ ok 20,10", "00,00 x+ ok 10", "00 x+ ok 10,10", "00,10, x+ ok 10", "00 x+ ok ,10", "00, 10 x+ ok 10", "00 x+ ok 10, 20", "00,,10 x+ ok 10", "12,11 . ok -", "- . ok 12,11", "-,00 x+ ok 10", "00 x+ ok -,10", "-- x+ ok 10",
		"00 x+ fine 10", "00 x+ OK 10", "00 x+ Ok 10", "00 x+ o 10", "00 x+ okk 10", "00 x+ ok: 10", "00 x+ Error 10", "00 x+ err 10", "00 x+ errors 10", "00 x+ 0 10", "00 x+ 1 10", "00 x+ - 10", "00 x+ ok,error 10", "00 x+ okerror 10",
		"00 q ok 10", "00 x ok 10", "00 x3 ok 10", "00 (x+ ok 10", "00 (x+) ok 10", "00 x+;x+ ok 10", "00 (x+; x+) ok 10", "00 (x+ ;x+) ok 10", "00 {x+ } ok 10", "00 [x=0 ok 10", "00 [x = 0] ok 10", "00 - ok 10",
		"00 " + programOfBytes(61) + " ok 10", "00 " + loopsOf(7, ".") + " ok 00", strings.Repeat(" ", 1000000), strings.Repeat("00 x+ ok 10 ", 100000), "00 x+ ok 10" + strings.Repeat(" ", 1000000), strings.Repeat("00,", 300000) + "00 x+ ok 10",
	} {
		checkNoText(t, text)
	}
	for _, p := range noPrograms {
		checkNoText(t, "00 "+p+" ok 00")
		checkNoText(t, "- "+p+" error -")
	}
}

// checkChangedTexts checks a text, and what comes of it by a change in one place:
// a byte or a word more, another byte, and some bytes less.
func checkChangedTexts(check func(text string), text string, words ...string) {
	check(text)
	for i := range len(text) + 1 {
		for c := range 256 {
			check(text[:i] + string([]byte{byte(c)}) + text[i:])
			if i < len(text) {
				check(text[:i] + string([]byte{byte(c)}) + text[i+1:])
			}
		}
		for _, word := range words {
			check(text[:i] + word + text[i:])
		}
		for j := i; j <= len(text); j++ {
			check(text[:i] + text[j:])
		}
	}
}

// TestP5ChangedTexts changes texts of triples in one place, in each of some
// ways. What comes out is the text of a triple, or must be refused.
func TestP5ChangedTexts(t *testing.T) {
	sets := setsByText()
	check := func(text string) {
		want, is := tripleOf(text, sets)
		got, ok := impl.ParseTriple(text)
		if got != want || ok != is {
			t.Errorf("ParseTriple(%q) = %v, %v, want %v, %v", text, got, ok, want, is)
		}
		if ok && impl.FormatTriple(got) != text {
			t.Errorf("FormatTriple(%v) = %q, want %q", got, impl.FormatTriple(got), text)
		}
	}
	for _, text := range []string{"00,10,20 x+ ok 10", "- x? ok -", "01,12 (x+;([x=0];!)) error 00", "22 {(x+|([x=2];!))} error -", "- {!} error 11,12", "00 . ok 00,01,02,10,11,12,20,21,22"} {
		checkChangedTexts(check, text, "  ", " -", "- ", " ok", "ok ", " error ", ",22", "00,", " 00", "x+ ", "{.}", "(.;")
	}
}

// TestP5WordsInAnyOrder puts words of triples one behind the other in each way,
// up to five of them.
func TestP5WordsInAnyOrder(t *testing.T) {
	sets := setsByText()
	words := []string{"00,10", "-", "x+", "{!}", "ok", "error", "10,00", ""}
	var put func(text string, count int)
	put = func(text string, count int) {
		want, is := tripleOf(text, sets)
		if got, ok := impl.ParseTriple(text); got != want || ok != is {
			t.Errorf("ParseTriple(%q) = %v, %v, want %v, %v", text, got, ok, want, is)
		}
		if count == 5 {
			return
		}
		for _, word := range words {
			put(text+" "+word, count+1)
		}
	}
	for _, word := range words {
		put(word, 1)
	}
}
