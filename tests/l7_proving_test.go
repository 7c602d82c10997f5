package tests

import (
	"math/rand"
	"slices"
	"sync"
	"testing"

	"loop.example/surelywrong/impl"
)

// A derivation derives lines by what the document says of programs as texts. It
// goes through all steps again for what is derived already, and leaves out only
// the lines, of which there may be as many as one likes.
type derivation struct {
	rows  map[string][9][2]int
	lines []impl.Line
}

// reached returns what a program reaches, found one step at a time.
func (d *derivation) reached(p string, from int, exit int) int {
	rows, ok := d.rows[p]
	if !ok {
		rows = rowsBySteps(p)
		d.rows[p] = rows
	}
	return reachedBySteps(rows, from, exit)
}

// reachedIn returns what a loop reaches that is gone through just as often as
// some number from 0 to times, and for errors once more, which fails.
func (d *derivation) reachedIn(p string, from int, exit int, times int) int {
	body, all := partsInText(p)[0], 0
	for ; times >= 0; times-- {
		if exit == 0 {
			all |= from
		} else {
			all |= d.reached(body, from, 1)
		}
		from = d.reached(body, from, 0)
	}
	return all
}

// times returns the least number with which a loop reaches all that it does.
func (d *derivation) times(p string, from int, exit int) int {
	times := 0
	for d.reachedIn(p, from, exit, times) != d.reached(p, from, exit) {
		times++
	}
	return times
}

// line derives a line, if there is none yet with its triple.
func (d *derivation) line(before int, p string, exit int, behind int, rule string, refs ...int) int {
	x := impl.Triple{Before: before, Program: p, Exit: exit, Behind: behind}
	if i := slices.IndexFunc(d.lines, func(line impl.Line) bool { return line.Triple == x }); i >= 0 {
		return i
	}
	d.lines = append(d.lines, impl.Line{Triple: x, Rule: rule, Refs: refs})
	return len(d.lines) - 1
}

// both derives what one or two lines say together.
func (d *derivation) both(lines []int) int {
	if len(lines) == 1 {
		return lines[0]
	}
	one, two := d.lines[lines[0]], d.lines[lines[1]]
	return d.line(one.Before, one.Program, one.Exit, one.Behind|two.Behind, "both", lines...)
}

// all derives all that a program reaches.
func (d *derivation) all(p string, from int, exit int) int {
	kind := kindInText(p)
	if kind == 0 {
		return d.line(from, p, exit, d.reached(p, from, exit), "atom")
	}
	if d.reached(p, from, exit) == 0 {
		return d.line(from, p, exit, 0, "none")
	}
	if kind == '{' {
		return d.loop(p, from, exit, d.times(p, from, exit))
	}
	parts := partsInText(p)
	if kind == '|' {
		return d.choice(p, parts, from, exit)
	}
	return d.sequence(p, parts, from, exit)
}

func (d *derivation) sequence(p string, parts []string, from int, exit int) int {
	var lines []int
	if failed := d.reached(parts[0], from, 1); exit == 1 && failed != 0 {
		lines = append(lines, d.line(from, p, exit, failed, "stop", d.all(parts[0], from, 1)))
	}
	between := d.reached(parts[0], from, 0)
	if behind := d.reached(parts[1], between, exit); behind != 0 {
		first := d.all(parts[0], from, 0)
		second := d.all(parts[1], between, exit)
		lines = append(lines, d.line(from, p, exit, behind, "seq", first, second))
	}
	return d.both(lines)
}

func (d *derivation) choice(p string, parts []string, from int, exit int) int {
	var lines []int
	for i, rule := range []string{"left", "right"} {
		if behind := d.reached(parts[i], from, exit); behind != 0 {
			lines = append(lines, d.line(from, p, exit, behind, rule, d.all(parts[i], from, exit)))
		}
	}
	return d.both(lines)
}

func (d *derivation) loop(p string, from int, exit int, times int) int {
	body := partsInText(p)[0]
	var lines []int
	if exit == 0 {
		lines = append(lines, d.line(from, p, exit, from, "zero"))
	}
	if failed := d.reached(body, from, 1); exit == 1 && failed != 0 {
		lines = append(lines, d.line(from, p, exit, failed, "fail", d.all(body, from, 1)))
	}
	between := d.reached(body, from, 0)
	if times != 0 && d.reachedIn(p, between, exit, times-1) != 0 {
		first := d.all(body, from, 0)
		rest := d.loop(p, between, exit, times-1)
		lines = append(lines, d.line(from, p, exit, d.reachedIn(p, between, exit, times-1), "once", first, rest))
	}
	return d.both(lines)
}

// derived returns all lines that are derived for a sure triple, and the index
// of the one that says it.
func derived(rows map[string][9][2]int, x impl.Triple) ([]impl.Line, int) {
	d := &derivation{rows: rows}
	last := d.all(x.Program, x.Before, x.Exit)
	if d.lines[last].Behind != x.Behind {
		last = d.line(x.Before, x.Program, x.Exit, x.Behind, "less", last)
	}
	return d.lines, last
}

// proofInText returns what ProveSure has to of a sure triple.
func proofInText(rows map[string][9][2]int, x impl.Triple) ([]impl.Line, bool) {
	lines, last := derived(rows, x)
	if len(lines) > 120 {
		return nil, false
	}
	return neededInText(lines[:last+1]), true
}

// checkProved checks all that is told of the proof of a valid triple, of which
// want and found are what ProveSure has to return.
func checkProved(t *testing.T, x impl.Triple, want []impl.Line, found bool) {
	t.Helper()
	proof, ok := impl.ProveSure(x)
	if !sameProof(proof, want) || ok != found {
		t.Errorf("ProveSure(%s) = %q, %v, want %q, %v", tripleText(x), proofText(proof), ok, proofText(want), found)
	}
	if got := impl.CanProve(x); got != found {
		t.Errorf("CanProve(%s) = %v", tripleText(x), got)
	}
	length := -1
	if found {
		length = len(want)
	}
	if got := impl.ProofLength(x); got != length {
		t.Errorf("ProofLength(%s) = %d, want %d", tripleText(x), got, length)
	}
	if found && !impl.Proves(proof, x) {
		t.Errorf("%q does not prove %s", proofText(proof), tripleText(x))
	}
}

// checkMost checks the proof of all that a program reaches, and returns the
// triple that says so.
func checkMost(t *testing.T, rows map[string][9][2]int, p string, from int, exit int) impl.Triple {
	t.Helper()
	if _, ok := rows[p]; !ok {
		rows[p] = rowsBySteps(p)
	}
	x := impl.Triple{Before: from, Program: p, Exit: exit, Behind: reachedBySteps(rows[p], from, exit)}
	want, found := proofInText(rows, x)
	checkProved(t, x, want, found)
	if proof, ok := impl.ProveMost(from, p, exit); !sameProof(proof, want) || ok != found {
		t.Errorf("ProveMost(%s, %q, %d) = %q, %v, want %q, %v", textOf(from), p, exit, proofText(proof), ok, proofText(want), found)
	}
	return x
}

// checkLess checks the proof of a triple that says less, or nothing less.
func checkLess(t *testing.T, rows map[string][9][2]int, x impl.Triple, behind int) {
	t.Helper()
	x.Behind &= behind
	want, found := proofInText(rows, x)
	checkProved(t, x, want, found)
}

// provedRows are proofs as they have to be found, written out so that they
// depend on nothing. Each proves the triple of its last line.
var provedRows = []string{
	// atoms, with each exit, and sets without states
	"00 . ok 00 atom",
	"00,12 . error - atom",
	"00,12 ! error 00,12 atom",
	"00,12 ! ok - atom",
	"20 x+ ok 00 atom",
	"00,10,20 x+ ok 00,10,20 atom",
	"01 x? ok 01,11,21 atom",
	"12 xy ok 22 atom",
	"00,20 [x=0] ok 00 atom",
	"20 [x=0] ok - atom",
	"20 [x=0] error - atom",
	"- . ok - atom",
	"- ! error - atom",

	// less than all that is reached
	"00 x? ok 00,10,20 atom\n00 x? ok 10 less 0",
	"00 . ok 00 atom\n00 . ok - less 0",
	"00,12 ! error 00,12 atom\n00,12 ! error 12 less 0",

	// nothing that is reached
	"00 (x+;.) error - none",
	"00 ([x=1];x0) ok - none",
	"00 (.;!) ok - none",
	"00 (!;.) ok - none",
	"00 (!|[x=1]) ok - none",
	"00 (.|x+) error - none",
	"00 {x+} error - none",
	"00 {([x=1];!)} error - none",
	"- (.;!) error - none",
	"- (.|!) ok - none",
	"- {!} ok - none",
	"- {!} error - none",

	// sequences
	"00 x+ ok 10 atom\n10 y+ ok 11 atom\n00 (x+;y+) ok 11 seq 0 1",
	"00,10,20 x+ ok 00,10,20 atom\n00,10,20 (x+;x+) ok 00,10,20 seq 0 0",
	"20 x+ ok 00 atom\n00 [x=0] ok 00 atom\n00 ! error 00 atom\n00 ([x=0];!) error 00 seq 1 2\n20 (x+;([x=0];!)) error 00 seq 0 3",
	"10,20 x+ ok 00,20 atom\n00,20 [x=0] ok 00 atom\n00 ! error 00 atom\n00,20 ([x=0];!) error 00 seq 1 2\n10,20 (x+;([x=0];!)) error 00 seq 0 3",
	"11 ! error 11 atom\n11 (!;x0) error 11 stop 0",
	"11 ! error 11 atom\n11 (!;!) error 11 stop 0",
	"00 ! error 00 atom\n00 (!|x+) error 00 left 0\n00 ((!|x+);y+) error 00 stop 1",
	"00 x+ ok 10 atom\n00 (!|x+) ok 10 right 0\n10 y+ ok 11 atom\n00 ((!|x+);y+) ok 11 seq 1 2",
	"00 ! error 00 atom\n00 (!|x+) error 00 left 0\n00 ((!|x+);!) error 00 stop 1\n00 x+ ok 10 atom\n00 (!|x+) ok 10 right 3\n10 ! error 10 atom\n00 ((!|x+);!) error 10 seq 4 5\n00 ((!|x+);!) error 00,10 both 2 6",

	// choices
	"11 ! error 11 atom\n11 (!|.) error 11 left 0",
	"11 ! error 11 atom\n11 (.|!) error 11 right 0",
	"11 . ok 11 atom\n11 (.|!) ok 11 left 0",
	"11 [x=1] ok 11 atom\n11 ([x=2]|[x=1]) ok 11 right 0",
	"11 x+ ok 21 atom\n11 (x+|y+) ok 21 left 0\n11 y+ ok 12 atom\n11 (x+|y+) ok 12 right 2\n11 (x+|y+) ok 12,21 both 1 3",
	"11 y+ ok 12 atom\n11 (y+|x+) ok 12 left 0\n11 x+ ok 21 atom\n11 (y+|x+) ok 21 right 2\n11 (y+|x+) ok 12,21 both 1 3",
	"00 ! error 00 atom\n00 (!|(x+;!)) error 00 left 0\n00 x+ ok 10 atom\n10 ! error 10 atom\n00 (x+;!) error 10 seq 2 3\n00 (!|(x+;!)) error 10 right 4\n00 (!|(x+;!)) error 00,10 both 1 5",

	// triples that are derived already
	"11 . ok 11 atom\n11 (.|.) ok 11 left 0",
	"11 . ok 11 atom\n11 (.|[x=1]) ok 11 left 0",
	"00 x? ok 00,10,20 atom\n00 (x?|x+) ok 00,10,20 left 0",
	"00 x? ok 00,10,20 atom\n00 (x+|x?) ok 00,10,20 right 0",
	"11 ! error 11 atom\n11 (!|.) error 11 left 0\n11 ((!|.);!) error 11 stop 1",
	"00 . ok 00 atom\n00 (.;.) ok 00 seq 0 0\n00 ((.;.)|(.|.)) ok 00 left 1",
	"00 . ok 00 atom\n00 (.|.) ok 00 left 0\n00 ((.|.);(.|.)) ok 00 seq 1 1",

	// triples that say less, and are derived already on the way to all
	"11 x+ ok 21 atom\n11 (x+|y+) ok 21 left 0",
	"11 y+ ok 12 atom\n11 (x+|y+) ok 12 right 0",
	"00 x+ ok 10 atom\n00 (x?|x+) ok 10 right 0",
	"00 ! error 00 atom\n00 (!|x+) error 00 left 0\n00 ((!|x+);!) error 00 stop 1",
	"00 x+ ok 10 atom\n00 (!|x+) ok 10 right 0\n10 ! error 10 atom\n00 ((!|x+);!) error 10 seq 1 2",
	"00 {x+} ok 00 zero",
	"00 x+ ok 10 atom\n10 {x+} ok 10 zero\n10 x+ ok 20 atom\n20 {x+} ok 20 zero\n10 {x+} ok 20 once 2 3\n10 {x+} ok 10,20 both 1 4\n00 {x+} ok 10,20 once 0 5",

	// loops that reach nothing new
	"00 {.} ok 00 zero",
	"00,12 {!} ok 00,12 zero",
	"00 {x0} ok 00 zero",
	"00,10,20 {x+} ok 00,10,20 zero",
	"00,12 {([x=0];[x=1])} ok 00,12 zero",

	// loops that are gone through once and several times
	"00 x? ok 00,10,20 atom\n00,10,20 {x?} ok 00,10,20 zero\n00 {x?} ok 00,10,20 once 0 1",
	"00 {x1} ok 00 zero\n00 x1 ok 10 atom\n10 {x1} ok 10 zero\n00 {x1} ok 10 once 1 2\n00 {x1} ok 00,10 both 0 3",
	"00,10 {x+} ok 00,10 zero\n00,10 x+ ok 10,20 atom\n10,20 {x+} ok 10,20 zero\n00,10 {x+} ok 10,20 once 1 2\n00,10 {x+} ok 00,10,20 both 0 3",
	"00 {x+} ok 00 zero\n00 x+ ok 10 atom\n10 {x+} ok 10 zero\n10 x+ ok 20 atom\n20 {x+} ok 20 zero\n10 {x+} ok 20 once 3 4\n10 {x+} ok 10,20 both 2 5\n00 {x+} ok 10,20 once 1 6\n00 {x+} ok 00,10,20 both 0 7",
	"00 {x+} ok 00 zero\n00 x+ ok 10 atom\n10 {x+} ok 10 zero\n10 x+ ok 20 atom\n20 {x+} ok 20 zero\n10 {x+} ok 20 once 3 4\n10 {x+} ok 10,20 both 2 5\n00 {x+} ok 10,20 once 1 6\n00 {x+} ok 00,10,20 both 0 7\n00 {x+} ok 00,10 less 8",

	// errors of loops, at first, later, and both
	"11 ! error 11 atom\n11 {!} error 11 fail 0",
	"10 x0 ok 00 atom\n00 ! error 00 atom\n10 (x0;!) error 00 seq 0 1\n10 {(x0;!)} error 00 fail 2",
	"00 ! error 00 atom\n00 (!|.) error 00 left 0\n00 {(!|.)} error 00 fail 1",
	"00 x+ ok 10 atom\n00 (x+|([x=2];!)) ok 10 left 0\n10 x+ ok 20 atom\n10 (x+|([x=2];!)) ok 20 left 2\n20 [x=2] ok 20 atom\n20 ! error 20 atom\n20 ([x=2];!) error 20 seq 4 5\n20 (x+|([x=2];!)) error 20 right 6\n20 {(x+|([x=2];!))} error 20 fail 7\n10 {(x+|([x=2];!))} error 20 once 3 8\n00 {(x+|([x=2];!))} error 20 once 1 9",
	"20 [x=2] ok 20 atom\n20 ! error 20 atom\n20 ([x=2];!) error 20 seq 0 1\n20 (x+|([x=2];!)) error 20 right 2\n20 {(x+|([x=2];!))} error 20 fail 3",
	"00 ! error 00 atom\n00 (!|x1) error 00 left 0\n00 {(!|x1)} error 00 fail 1\n00 x1 ok 10 atom\n00 (!|x1) ok 10 right 3\n10 ! error 10 atom\n10 (!|x1) error 10 left 5\n10 {(!|x1)} error 10 fail 6\n00 {(!|x1)} error 10 once 4 7\n00 {(!|x1)} error 00,10 both 2 8",
	"00 x1 ok 10 atom\n00 (!|x1) ok 10 right 0\n10 ! error 10 atom\n10 (!|x1) error 10 left 2\n10 {(!|x1)} error 10 fail 3\n00 {(!|x1)} error 10 once 1 4",

	// loops within loops, and loops behind loops
	"00 {{.}} ok 00 zero",
	"00 {x1} ok 00 zero\n00 x1 ok 10 atom\n10 {x1} ok 10 zero\n00 {x1} ok 10 once 1 2\n00 {x1} ok 00,10 both 0 3\n00,10 {{x1}} ok 00,10 zero\n00 {{x1}} ok 00,10 once 4 5",
	"11 ! error 11 atom\n11 {!} error 11 fail 0\n11 {{!}} error 11 fail 1",
	"00 {x1} ok 00 zero\n00 x1 ok 10 atom\n10 {x1} ok 10 zero\n00 {x1} ok 10 once 1 2\n00 {x1} ok 00,10 both 0 3\n00,10 {x1} ok 00,10 zero\n00 ({x1};{x1}) ok 00,10 seq 4 5",
}

func TestP7WrittenProofs(t *testing.T) {
	rows := map[string][9][2]int{}
	for _, text := range provedRows {
		want := linesOf(t, text)
		x := want[len(want)-1].Triple
		checkProved(t, x, want, true)
		if proof, _ := impl.ProveSure(x); impl.FormatProof(proof) != text {
			t.Errorf("ProveSure(%s) is %q in text", tripleText(x), impl.FormatProof(proof))
		}
		if same, _ := proofInText(rows, x); !sameProof(same, want) {
			t.Fatalf("the test takes %q for the proof of %s", proofText(same), tripleText(x))
		}
	}
}

func TestP7DocumentExample(t *testing.T) {
	x := triplesOf(t, "00 {x+} ok 00,10")[0]
	proof, ok := impl.ProveSure(x)
	if len(proof) != 10 || !ok || proof[9].Rule != "less" || impl.ProofLength(x) != 10 || !impl.CanProve(x) {
		t.Errorf("ProveSure = %q, %v", proofText(proof), ok)
	}
	if got := impl.LoopTimes("{x+}", 1, impl.ExitOk); got != 2 {
		t.Errorf("LoopTimes = %d", got)
	}
}

// TestP7RowsOfAllRules looks whether all rules are among the written proofs.
func TestP7RowsOfAllRules(t *testing.T) {
	counts := make([]int, 11)
	for _, text := range provedRows {
		list, _ := impl.RulesUsed(linesOf(t, text))
		for i := range list {
			counts[i] += list[i]
		}
	}
	if slices.Min(counts) == 0 {
		t.Errorf("the written proofs use the rules %v times", counts)
	}
}

// TestP7Atoms takes all atoms from many sets, and all that is less from one.
func TestP7Atoms(t *testing.T) {
	rows := map[string][9][2]int{}
	for _, row := range atomRows() {
		for exit := range 2 {
			for from := 0; from < 512; from += 7 {
				checkMost(t, rows, row.text, from, exit)
			}
			x := checkMost(t, rows, row.text, 41, exit)
			for behind := range 512 {
				checkLess(t, rows, x, behind)
			}
		}
	}
}

// TestP7PairsOfAtoms makes sequences, choices and loops of both of all atoms.
func TestP7PairsOfAtoms(t *testing.T) {
	rows := map[string][9][2]int{}
	for i, p := range atomRows() {
		for j, q := range atomRows() {
			exit, from := (i+j)%2, (i*37+j*11)%512
			for _, made := range []string{"(" + p.text + ";" + q.text + ")", "(" + p.text + "|" + q.text + ")", "{(" + p.text + "|" + q.text + ")}", "{(" + p.text + ";" + q.text + ")}"} {
				x := checkMost(t, rows, made, from, exit)
				checkLess(t, rows, x, from*5%512)
				checkMost(t, rows, made, 1<<(i%9), 1-exit)
			}
		}
	}
}

func TestP7MadePrograms(t *testing.T) {
	rows := map[string][9][2]int{}
	for i, row := range programRows() {
		for exit := range 2 {
			x := checkMost(t, rows, row.text, i*7%512, exit)
			checkLess(t, rows, x, i*13%512)
			checkMost(t, rows, row.text, 511, exit)
		}
	}
}

// TestP7AllSetsBehind takes each set behind for programs on the way to all of
// whose results much of what is less is derived, and looks whether it is.
func TestP7AllSetsBehind(t *testing.T) {
	rows := map[string][9][2]int{}
	for _, c := range []struct {
		p          string
		from, exit int
	}{
		{"(x+|(y+|(x?|yx)))", 1, 0},
		{"((x?|(y1;x+))|(y?|(x2|y2)))", 17, 0},
		{"((!|x+);(!|(y+;!)))", 17, 1},
		{"{(!|x+)}", 1, 1},
		{"{(x+|y+)}", 1, 0},
		{"{({x+};y+)}", 1, 0},
		{"({x+}|{y+})", 1, 0},
		{"{((!|x+);(y+|!))}", 2, 1},
	} {
		x := checkMost(t, rows, c.p, c.from, c.exit)
		found, weakened := 0, 0
		for behind := range 512 {
			if behind&^x.Behind == 0 {
				checkLess(t, rows, x, behind)
				proof, _ := impl.ProveSure(impl.Triple{Before: c.from, Program: c.p, Exit: c.exit, Behind: behind})
				if len(proof) > 0 && proof[len(proof)-1].Rule == "less" {
					weakened++
				} else {
					found++
				}
			}
		}
		if found < 2 || weakened < 4 {
			t.Errorf("of what is less than %s, %d are weakened and %d are not", tripleText(x), weakened, found)
		}
	}
}

// checkProof checks a proof by itself: it is right, all of its triples are
// sure, none is there twice, and all of its lines are needed.
func checkProof(t *testing.T, rows map[string][9][2]int, proof []impl.Line) {
	t.Helper()
	if got := faultInText(proof); got != -1 {
		t.Errorf("%q has a fault in line %d", proofText(proof), got)
	}
	seen := map[impl.Triple]bool{}
	for _, line := range proof {
		if seen[line.Triple] {
			t.Errorf("%s is derived twice in %q", tripleText(line.Triple), proofText(proof))
		}
		seen[line.Triple] = true
		if _, ok := rows[line.Program]; !ok {
			rows[line.Program] = rowsBySteps(line.Program)
		}
		if withoutStates(line.Behind, reachedBySteps(rows[line.Program], line.Before, line.Exit)) != 0 {
			t.Errorf("%s is derived in %q and not sure", tripleText(line.Triple), proofText(proof))
		}
	}
	if !sameProof(neededInText(proof), proof) {
		t.Errorf("%q has lines that are not needed", proofText(proof))
	}
}

// TestP7DrawnPrograms takes programs that are always drawn in the same way: all
// that they reach is derived, and also what is less.
func TestP7DrawnPrograms(t *testing.T) {
	draw := rand.New(rand.NewSource(7))
	used := make([]int, 11)
	for count := 0; count < 1500; {
		p := drawnProgram(draw, 3+count%5)
		if !isProgram(p) {
			continue
		}
		count++
		rows := map[string][9][2]int{}
		for exit := range 2 {
			for _, from := range []int{1 << draw.Intn(9), draw.Intn(512), draw.Intn(512) & draw.Intn(512)} {
				x := checkMost(t, rows, p, from, exit)
				proof, _ := impl.ProveSure(x)
				if count%4 == 0 {
					checkProof(t, rows, proof)
				}
				checkLess(t, rows, x, draw.Intn(512))
				list, _ := impl.RulesUsed(proof)
				for i := range list {
					used[i] += list[i]
				}
			}
		}
	}
	for i, rule := range ruleTexts[:10] {
		if used[i] < 300 {
			t.Errorf("%s is used %d times", rule, used[i])
		}
	}
}

// longRows are programs with a set and an exit, how many lines are derived for
// all that they reach from it, and how many of these are needed.
var longRows = []struct {
	p                           string
	from, exit, derived, needed int
}{
	{"{({{({{({(y+;([x=1]|x0))};(y0|[x=1]))}}|x+)}};[y<1])}", 4, 0, 118, 110},
	{"((.|(x+;[x#1]))|({({({{x0}}|{(x2|{{x+}})})}|{{yx}})}|[x<2]))", 18, 0, 118, 74},
	{"{(({([y=1];{({((y2|!);([x#2];x+))};y0)})}|[x<1]);yx)}", 483, 1, 118, 116},
	{"{(x?|(({({{{!}}}|({(!;!)}|{{{(y?|(x1;{!}))}}}))};y+)|y2))}", 16, 1, 118, 41},
	{"{({{({{({(y+;([x=1]|x0))};(y0|[x=1]))}}|x+)}};(xy|xy))}", 4, 0, 119, 111},
	{"({[y=0]}|({{([y#1]|({{{(yx;(.;{y1}))}}};x+))}}|{{y0}}))", 144, 0, 119, 90},
	{"{{(({([y=1];{({((y2|!);([x#2];x+))};y0)})}|[y#1]);yx)}}", 482, 1, 119, 117},
	{"{(([y#0];{({({({{(!|x2)}}|y2)};(x+;[x#1]))};xy)})|x+)}", 75, 1, 119, 75},
	{"{({{({{({(y+;([x=1]|x0))};(y0|[x=1]))}}|x+)}};({xy}|[y<1]))}", 4, 0, 120, 109},
	{"({{([y#1]|({{{(yx;((y0|yx)|(.;{y1})))}}};x+))}}|{{{{x+}}}})", 144, 0, 120, 92},
	{"{{((y+|{{(({{(y0;!)}};(!|x+));[y=1])}});({y+};yx))}}", 240, 1, 120, 119},
	{"{{(({([y=1];{({((y2|!);([x#2];x+))};y0)})}|x0);yx)}}", 482, 1, 120, 120},
	{"{(x1|(({({{!}}|({{(.|xy)}}|{{{({y?}|(x1;{!}))}}}))};.)|x1))}", 16, 1, 120, 47},
	{"{({{({{({(y+;([x=1]|x0))};(y0|[x=1]))}}|x+)}};(xy|[x#1]))}", 4, 0, 121, -1},
	{"{{{(yx;{(({{y2}}|((({xy}|{y1});{{x+}});x0))|y2)})}}}", 8, 0, 121, -1},
	{"{{{(({([y=1];{({((y2|!);([x#2];x+))};y0)})}|yx);yx)}}}", 483, 1, 121, -1},
	{"{(x?|(({({{!}}|({(!;!)}|{{{({y?}|(x1;{!}))}}}))};.)|y2))}", 16, 1, 121, -1},
	{"{({{({{({(y+;([x=1]|x0))};(y0|[x=1]))}}|x+)}};(xy|[y<1]))}", 4, 0, 122, -1},
	{"{{(({([y=1];{({((y2|!);([x#2];x+))};y0)})}|!);yx)}}", 482, 1, 122, -1},
	{"{(xy|({{(({{y+}}|y?)|({{x+}}|{{({y0};{(xy|!)})}}))}};{y0}))}", 192, 1, 122, -1},
	{"{{(.;(((x1|{({{y+}}|{{{((y+|(y0|x0))|yx)}}})})|xy)|{y1}))}}", 1, 0, 204, -1},
	{"{(x+;{({{{(.|{yx})}}}|({({{{y+}}}|{{{xy}}})};(y0;[x=1])))})}", 1, 0, 420, -1},
	{"([y#1]|{(({{{((x0;({{!}}|y+))|{({y2}|({x1}|!))})}}};!)|y+)})", 256, 1, 388, -1},
}

func TestP7LongProofs(t *testing.T) {
	for _, row := range longRows {
		if !isProgram(row.p) {
			t.Fatalf("the test takes %q for a program", row.p)
		}
		rows := map[string][9][2]int{}
		x := checkMost(t, rows, row.p, row.from, row.exit)
		if lines, _ := derived(rows, x); len(lines) != row.derived {
			t.Fatalf("for %s, the test derives %d lines", tripleText(x), len(lines))
		}
		if got := impl.ProofLength(x); got != row.needed {
			t.Errorf("ProofLength(%s) = %d, want %d", tripleText(x), got, row.needed)
		}
		if got := impl.CanProve(x); got != (row.derived <= 120) {
			t.Errorf("CanProve(%s) = %v", tripleText(x), got)
		}
	}
}

// TestP7LongProofsOfLess takes what is less: with one line more, the proof gets
// too long, but not if the triple is derived already, which is of no use if
// too many lines are derived for all that is reached.
func TestP7LongProofsOfLess(t *testing.T) {
	tooLong, standing, lost := 0, 0, 0
	for _, row := range longRows {
		if row.derived > 200 {
			continue
		}
		rows := map[string][9][2]int{}
		x := checkMost(t, rows, row.p, row.from, row.exit)
		lines, _ := derived(rows, x)
		for _, line := range lines {
			if line.Program != x.Program || line.Before != x.Before || line.Exit != x.Exit || line.Behind == x.Behind {
				continue
			}
			checkLess(t, rows, x, line.Behind)
			if row.derived == 120 && impl.CanProve(line.Triple) {
				standing++
			}
			if row.derived > 120 && !impl.CanProve(line.Triple) {
				lost++
			}
		}
		for state := range 9 {
			checkLess(t, rows, x, 1<<state)
			checkLess(t, rows, x, 511^1<<state)
		}
		checkLess(t, rows, x, 0)
		x.Behind = 0
		if got := impl.CanProve(x); got != (row.derived < 120) {
			t.Errorf("CanProve(%s) = %v", tripleText(x), got)
		}
		if row.derived == 120 {
			tooLong++
		}
	}
	if tooLong < 2 || standing < 2 || lost < 2 {
		t.Errorf("%d proofs get too long, %d triples stand, %d are lost", tooLong, standing, lost)
	}
}

// TestP7NotSure takes triples with states behind that are not reached, alone
// and together with all that is.
func TestP7NotSure(t *testing.T) {
	check := func(x impl.Triple) {
		proof, ok := impl.ProveSure(x)
		if len(proof) != 0 || ok || impl.CanProve(x) || impl.ProofLength(x) != -1 {
			t.Errorf("of %s, ProveSure = %v, %v, CanProve = %v, ProofLength = %d", tripleText(x), proof, ok, impl.CanProve(x), impl.ProofLength(x))
		}
	}
	for _, x := range triplesOf(t, "00 x+ ok 20, 00 x+ ok 00,10, 00 x+ error 10, 00 . ok 01, 00 . error 00, 00 ! ok 00, - ! error 00, - {x+} ok 00, 00 {x+} ok 00,10,20,21, 00 {x+} error 00, 00 (x+;!) error 00, 00 (x+;!) ok 10, 00 (.|x+) ok 20, 00 ([x=1];x0) ok 00, 00 {([x=1];!)} error 00") {
		check(x)
	}
	for i, row := range programRows() {
		if i%5 != 0 {
			continue
		}
		exit, from := i%2, i*7%512
		reached := reachedBySteps(rowsBySteps(row.text), from, exit)
		for state := range 9 {
			if reached>>state%2 == 0 {
				check(impl.Triple{Before: from, Program: row.text, Exit: exit, Behind: 1 << state})
				check(impl.Triple{Before: from, Program: row.text, Exit: exit, Behind: reached | 1<<state})
			}
		}
	}
}

func TestP7InvalidTriples(t *testing.T) {
	for _, x := range noTriples() {
		proof, ok := impl.ProveSure(x)
		if len(proof) != 0 || ok || impl.CanProve(x) || impl.ProofLength(x) != -1 {
			t.Errorf("of %.60v, ProveSure = %v, %v, CanProve = %v, ProofLength = %d", x, proof, ok, impl.CanProve(x), impl.ProofLength(x))
		}
	}
}

func TestP7ProveMostOfInvalid(t *testing.T) {
	check := func(before int, p string, exit int) {
		if proof, ok := impl.ProveMost(before, p, exit); len(proof) != 0 || ok {
			t.Errorf("ProveMost(%d, %.40q, %d) = %v, %v", before, p, exit, proof, ok)
		}
	}
	for _, before := range noSets {
		check(before, "x+", 0)
		check(before, "!", 1)
		check(before, "{(x+|!)}", 1)
		check(before, "q", 0)
	}
	for _, exit := range noExits {
		check(1, "x+", exit)
		check(0, "!", exit)
		check(511, "{(x+|!)}", exit)
	}
	for _, p := range noPrograms {
		check(1, p, 0)
		check(0, p, 1)
	}
}

// errorRows are programs with what ProveError returns, and nothing for those
// that can't fail.
var errorRows = map[string]string{
	"!":                  textOf(511) + " ! error " + textOf(511) + " atom",
	"(x1;!)":             textOf(511) + " x1 ok 10,11,12 atom\n10,11,12 ! error 10,11,12 atom\n" + textOf(511) + " (x1;!) error 10,11,12 seq 0 1",
	"([x=0];!)":          textOf(511) + " [x=0] ok 00,01,02 atom\n00,01,02 ! error 00,01,02 atom\n" + textOf(511) + " ([x=0];!) error 00,01,02 seq 0 1",
	"(x+|!)":             textOf(511) + " ! error " + textOf(511) + " atom\n" + textOf(511) + " (x+|!) error " + textOf(511) + " right 0",
	"{!}":                textOf(511) + " ! error " + textOf(511) + " atom\n" + textOf(511) + " {!} error " + textOf(511) + " fail 0",
	".":                  "",
	"x+":                 "",
	"[x=0]":              "",
	"([x=0];[x=1])":      "",
	"{x?}":               "",
	"(x0;([x=1];!))":     "",
	"(([x=0];[x=1]);!)":  "",
	"{(x0;([x#0];!))}":   "",
	"({x+}|{{(y+|.)}})":  "",
	"q":                  "",
	"":                   "",
	"!!":                 "",
	" !":                 "",
	"{{{{{{{!}}}}}}}":    "",
	"(!;" + "x" + ")":    "",
	programOfBytes(61):   "",
	programOfBytes(1000): "",
}

func TestP7ProveError(t *testing.T) {
	for p, text := range errorRows {
		proof, ok := impl.ProveError(p)
		if !sameProof(proof, linesOf(t, text)) || ok != (text != "") {
			t.Errorf("ProveError(%.70q) = %q, %v, want %q", p, proofText(proof), ok, text)
		}
	}
	for _, p := range noPrograms {
		if proof, ok := impl.ProveError(p); len(proof) != 0 || ok {
			t.Errorf("ProveError(%.70q) = %v, %v", p, proof, ok)
		}
	}
	fails, not := 0, 0
	for _, row := range programRows() {
		rows := map[string][9][2]int{row.text: rowsBySteps(row.text)}
		x := impl.Triple{Before: 511, Program: row.text, Exit: 1, Behind: reachedBySteps(rows[row.text], 511, 1)}
		var want []impl.Line
		found := false
		if x.Behind == 0 {
			not++
		} else {
			fails++
			want, found = proofInText(rows, x)
		}
		if proof, ok := impl.ProveError(row.text); !sameProof(proof, want) || ok != found {
			t.Errorf("ProveError(%q) = %q, %v, want %q", row.text, proofText(proof), ok, proofText(want))
		}
	}
	if fails < 100 || not < 100 {
		t.Errorf("%d programs can fail, and %d can't", fails, not)
	}
}

// TestP7ProveErrorOfLongProofs takes programs that can fail, and for which as
// many lines are derived from all states as there may be, or too many.
func TestP7ProveErrorOfLongProofs(t *testing.T) {
	for _, row := range []struct {
		p               string
		derived, needed int
	}{
		{"({((y1;(y?|{{{((({y0}|{(y+;(xy;{!}))})|x+)|!)}}}))|x1)}|.)", 119, 55},
		{"{((([y<2];x2);{{(x+;{(({{yx}}|xy);({!}|y1))})}})|{{{!}}})}", 120, 73},
		{"({((y2;(x0|{{{((({x2}|(y+;(xy;{!})))|x+)|!)}}}))|x1)}|x?)", 121, 0},
		{"{(([x<y];{{(x+;{(({{yx}}|xy);({{!}}|y1))})}})|{{{!}}})}", 121, 0},
		{"({((y2;(x0|{{{{((({x2}|(y+;(xy;{!})))|x+)|!)}}}}))|x1)}|x?)", 122, 0},
	} {
		rows := map[string][9][2]int{}
		x := checkMost(t, rows, row.p, 511, 1)
		if lines, _ := derived(rows, x); len(lines) != row.derived {
			t.Fatalf("for %q, the test derives %d lines", row.p, len(lines))
		}
		want, found := proofInText(rows, x)
		if proof, ok := impl.ProveError(row.p); !sameProof(proof, want) || len(proof) != row.needed || ok != found || !impl.CanFail(row.p) {
			t.Errorf("ProveError(%q) = %q, %v", row.p, proofText(proof), ok)
		}
	}
}

// roundOfStates makes a variable go on, and the other one too when it comes to 0, so
// that a loop goes through all states.
const roundOfStates = "(y+;([y#0]|([y=0];x+)))"

// timesRows are loops with a set and an exit, and how many times they have to
// be gone through.
var timesRows = []struct {
	p, from string
	exit    int
	want    int
}{
	{"{.}", "00", 0, 0},
	{"{.}", "00", 1, 0},
	{"{!}", "00,12", 0, 0},
	{"{!}", "00,12", 1, 0},
	{"{x+}", "00", 0, 2},
	{"{x+}", "00,01", 0, 2},
	{"{x+}", "00,11", 0, 2},
	{"{x+}", "00,10", 0, 1},
	{"{x+}", "00,10,20", 0, 0},
	{"{x+}", "00,10,20,01", 0, 2},
	{"{x+}", "-", 0, 0},
	{"{x+}", "-", 1, 0},
	{"{x+}", "00", 1, 0},
	{"{x?}", "00", 0, 1},
	{"{x?}", "00,10,20", 0, 0},
	{"{x1}", "00", 0, 1},
	{"{x1}", "10", 0, 0},
	{"{xy}", "01,12", 0, 1},
	{"{([x<2];x+)}", "00", 0, 2},
	{"{([x<2];x+)}", "10", 0, 1},
	{"{([x<2];x+)}", "20", 0, 0},
	{"{([x<2];x+)}", "00,20", 0, 1},
	{"{[x=0]}", "00,10", 0, 0},
	{"{([x=0];[x=1])}", "00,10", 0, 0},
	{"{(x+|y+)}", "00", 0, 4},
	{"{(x+;y+)}", "00", 0, 2},
	{"{(x+|([x=2];!))}", "00", 1, 2},
	{"{(x+|([x=2];!))}", "10", 1, 1},
	{"{(x+|([x=2];!))}", "20", 1, 0},
	{"{(x+|([x=2];!))}", "00,20", 1, 0},
	{"{(x+|([x=2];!))}", "00,20", 0, 1},
	{"{(x+|([x=2];!))}", "00,21", 1, 2},
	{"{(x+|([x=2];!))}", "-", 1, 0},
	{"{(!|x+)}", "00", 1, 2},
	{"{(!|x+)}", "00,10", 1, 1},
	{"{(!|.)}", "00", 1, 0},
	{"{(x+;!)}", "00", 1, 0},
	{"{(x+;!)}", "00", 0, 0},
	{"{([x=2];!)}", "00", 1, 0},
	{"{(x0;!)}", "00,10", 1, 0},
	{"{(x1|([x=1];!))}", "00", 1, 1},
	{"{{x+}}", "00", 0, 1},
	{"{{{{{{x+}}}}}}", "00", 0, 1},
	{"{{(!|x+)}}", "00", 1, 0},
	{"{({x+};y+)}", "00", 0, 3},
	{"{({x+};([x=2];!))}", "00", 1, 0},
	{"{({([x<2];x+)};(y+|([y=2];!)))}", "00", 1, 2},
	{"{" + roundOfStates + "}", "00", 0, 8},
	{"{" + roundOfStates + "}", "00", 1, 0},
	{"{" + roundOfStates + "}", "00,11", 0, 4},
	{"{" + roundOfStates + "}", "00,01", 0, 7},
	{"{(" + roundOfStates + "|([x=2];([y=2];!)))}", "00", 1, 8},
	{"{(" + roundOfStates + "|([x=2];([y=2];!)))}", "10,00", 1, 5},
	{"{(" + roundOfStates + "|([x=2];([y=2];!)))}", "22", 1, 0},
	{"{(" + roundOfStates + "|!)}", "12", 1, 8},
}

func TestP7LoopTimes(t *testing.T) {
	for _, row := range timesRows {
		if got := impl.LoopTimes(row.p, setOfText(row.from), row.exit); got != row.want {
			t.Errorf("LoopTimes(%q, %s, %d) = %d, want %d", row.p, row.from, row.exit, got, row.want)
		}
		d := &derivation{rows: map[string][9][2]int{}}
		if got := d.times(row.p, setOfText(row.from), row.exit); got != row.want {
			t.Fatalf("the test takes %d for the times of %q", got, row.p)
		}
	}
}

// TestP7LoopTimesFromAllSets takes some loops from all sets.
func TestP7LoopTimesFromAllSets(t *testing.T) {
	for _, p := range []string{"{x+}", "{(x+|([x=2];!))}", "{(!|y+)}", "{({x+};y+)}", "{" + roundOfStates + "}", "{(" + roundOfStates + "|([x<y];!))}"} {
		d := &derivation{rows: map[string][9][2]int{}}
		for from := range 512 {
			for exit := range 2 {
				if got, want := impl.LoopTimes(p, from, exit), d.times(p, from, exit); got != want {
					t.Errorf("LoopTimes(%q, %s, %d) = %d, want %d", p, textOf(from), exit, got, want)
				}
			}
		}
	}
}

// TestP7LoopTimesOfDrawnLoops takes loops that are always drawn in the same way.
func TestP7LoopTimesOfDrawnLoops(t *testing.T) {
	draw := rand.New(rand.NewSource(77))
	counts := map[int]int{}
	for count := 0; count < 3000; {
		p := "{" + drawnProgram(draw, 2+count%5) + "}"
		if !isProgram(p) {
			continue
		}
		count++
		d := &derivation{rows: map[string][9][2]int{}}
		for exit := range 2 {
			for _, from := range []int{1 << draw.Intn(9), draw.Intn(512)} {
				got, want := impl.LoopTimes(p, from, exit), d.times(p, from, exit)
				if got != want {
					t.Errorf("LoopTimes(%q, %s, %d) = %d, want %d", p, textOf(from), exit, got, want)
				}
				counts[want]++
			}
		}
	}
	for times := range 4 {
		if counts[times] < 20 {
			t.Errorf("%d drawn loops are gone through %d times", counts[times], times)
		}
	}
}

func TestP7LoopTimesOfInvalid(t *testing.T) {
	check := func(p string, before int, exit int) {
		if got := impl.LoopTimes(p, before, exit); got != -1 {
			t.Errorf("LoopTimes(%.40q, %d, %d) = %d", p, before, exit, got)
		}
	}
	for _, p := range append([]string{"({x+};.)", "(.;{x+})", "(.|{x+})", "({x+}|{x+})", "({x+};{x+})", "{x+};.", "{x+", "x+}", "{q}", "{}", loopsOf(7, "x+"), "{" + programOfBytes(59) + "}"}, noPrograms...) {
		for exit := range 2 {
			check(p, 1, exit)
			check(p, 0, exit)
		}
	}
	for _, row := range programRows() {
		if row.kind != "{" {
			check(row.text, 33, 0)
			check(row.text, 511, 1)
		}
	}
	for _, before := range noSets {
		check("{x+}", before, 0)
		check("{!}", before, 1)
		check("q", before, 0)
	}
	for _, exit := range noExits {
		check("{x+}", 1, exit)
		check("{!}", 0, exit)
		check("{(x+|!)}", 511, exit)
	}
}

func TestP7ResultsAreNewMemory(t *testing.T) {
	for _, text := range provedRows {
		want := linesOf(t, text)
		x := want[len(want)-1].Triple
		one, _ := impl.ProveSure(x)
		two, _ := impl.ProveSure(x)
		spoil(one)
		three, _ := impl.ProveSure(x)
		if !sameProof(two, want) || !sameProof(three, want) {
			t.Errorf("ProveSure(%s) is %v and %v after a write to another result", tripleText(x), two, three)
		}
		for i := range two {
			for j := range 4 {
				_ = append(two[i].Refs, -1-j)
			}
			for j, refs := 0, two[i].Refs[:cap(two[i].Refs)]; j < len(refs); j++ {
				refs[j] = -9
			}
			two[i].Refs = slices.Clone(want[i].Refs)
			if !sameProof(two, want) {
				t.Errorf("a write to the references of line %d shows in %v", i, two)
			}
		}
	}
}

// TestP7CallsBesideEachOther finds several proofs at the same time, over and
// over: each is the one that it is by itself, also beside such that are too long.
func TestP7CallsBesideEachOther(t *testing.T) {
	var working sync.WaitGroup
	wrong := make([][]impl.Line, len(provedRows))
	for i, text := range provedRows {
		want := linesOf(t, text)
		working.Add(1)
		go func() {
			defer working.Done()
			for range 10 {
				if got, _ := impl.ProveSure(want[len(want)-1].Triple); !sameProof(got, want) {
					wrong[i] = got
				}
				long := longRows[len(longRows)-1-i%5]
				impl.ProveMost(long.from, long.p, long.exit)
			}
		}()
	}
	working.Wait()
	for i, got := range wrong {
		if got != nil {
			t.Errorf("the proof %q is %v beside others", provedRows[i], got)
		}
	}
}
