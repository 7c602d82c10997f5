package tests

import (
	"math"
	"math/rand"
	"runtime"
	"slices"
	"strconv"
	"strings"
	"sync"
	"testing"

	"loop.example/surelywrong/impl"
)

// maxTimes is how often loops are gone through at most.
const maxTimes = 12

// noTimes are numbers of times that loops can't be gone through at most.
var noTimes = []int{-1, -2, -12, 13, 14, 60, 256, 1 << 32, math.MaxInt, math.MinInt, math.MinInt + 1}

// countedSteps returns where a run can be one step later if each loop is gone
// through at most so many times. A loop that has been come to has before it how
// often it can still be, with a star, which is in no program.
func countedSteps(c config, times int) []config {
	words := strings.Split(c.todo, " ")
	put := func(programs ...string) config {
		return config{c.state, strings.Join(append(programs, words[1:]...), " ")}
	}
	count, counted, isCounted := strings.Cut(words[0], "*")
	switch {
	case isCounted && count == "0":
		return []config{put()}
	case isCounted:
		left, _ := strconv.Atoi(count)
		return []config{put(), put(partsInText(counted)[0], strconv.Itoa(left-1)+"*"+counted)}
	case words[0][0] == '{':
		return []config{put(strconv.Itoa(times) + "*" + words[0])}
	}
	return steps(c)
}

// rowsIn returns the results of a program from each state if each loop is gone
// through at most so many times.
func rowsIn(p string, times int) [9][2]int {
	var rows [9][2]int
	for state, text := range stateTexts {
		rows[state] = resultsFollowing(config{text, p}, func(c config) []config { return countedSteps(c, times) })
	}
	return rows
}

// unrolledText returns what a program is with its loops written out, of any
// length, but does not go on where it would be huge.
func unrolledText(p string, times int) string {
	switch {
	case !strings.ContainsAny(p, "{"):
		return p
	case p[0] == '{' && times == 0:
		return "."
	case p[0] == '{':
		body := unrolledText(partsInText(p)[0], times)
		if len(body) > 60 {
			return body
		}
		text := "."
		for range times {
			text = "(.|(" + body + ";" + text + "))"
		}
		return text
	}
	parts := partsInText(p)
	return "(" + unrolledText(parts[0], times) + p[1+len(parts[0]):2+len(parts[0])] + unrolledText(parts[1], times) + ")"
}

// checkReachedIn checks what is reached in so many times.
func checkReachedIn(t *testing.T, p string, from int, exit int, times int, want int) {
	t.Helper()
	if got, ok := impl.ReachedIn(p, from, exit, times); got != want || !ok {
		t.Errorf("ReachedIn(%q, %s, %d, %d) = %s, %v, want %s", p, textOf(from), exit, times, impl.FormatSet(got), ok, textOf(want))
	}
}

// checkUnrolled checks a program that is unrolled, where none is wanted by "".
func checkUnrolled(t *testing.T, p string, times int, want string) {
	t.Helper()
	if got, ok := impl.Unroll(p, times); got != want || ok != (want != "") {
		t.Errorf("Unroll(%.70q, %d) = %q, %v, want %q", p, times, got, ok, want)
	}
}

// checkGrowth checks what is told of a program from a set with an exit, given the
// sets that it reaches with no times, once, and so on up to MaxTimes times.
func checkGrowth(t *testing.T, p string, from int, exit int, sets []int) {
	t.Helper()
	for times, set := range sets {
		checkReachedIn(t, p, from, exit, times, set)
	}
	want := slices.Index(sets, sets[maxTimes])
	if got := impl.TimesFor(p, from, exit); got != want {
		t.Errorf("TimesFor(%q, %s, %d) = %d, want %d", p, textOf(from), exit, got, want)
	}
	var counts []int
	for _, set := range sets[:want+1] {
		counts = append(counts, len(statesOf(set)))
	}
	if got, ok := impl.GrowthOf(p, from, exit); !slices.Equal(got, counts) || !ok {
		t.Errorf("GrowthOf(%q, %s, %d) = %v, %v, want %v", p, textOf(from), exit, got, ok, counts)
	}
	if exit == 1 {
		want := slices.IndexFunc(sets, func(set int) bool { return set != 0 })
		if got := impl.TimesToFail(p, from); got != want {
			t.Errorf("TimesToFail(%q, %s) = %d, want %d", p, textOf(from), got, want)
		}
	}
}

// checkTimes checks all that is told of a program from some sets, by runs that
// are followed one step at a time, and by its text.
func checkTimes(t *testing.T, p string, froms []int) {
	t.Helper()
	var rows [maxTimes + 1][9][2]int
	for times := range rows {
		if times > 0 && !strings.Contains(p, "{") {
			rows[times] = rows[0]
		} else {
			rows[times] = rowsIn(p, times)
		}
		unrolled := unrolledText(p, times)
		checkUnrolled(t, p, times, asProgram(unrolled))
		if isProgram(unrolled) && rowsBySteps(unrolled) != rows[times] {
			t.Fatalf("the test takes %v for %q in %d times, and %q for it unrolled", rows[times], p, times, unrolled)
		}
	}
	if rows[maxTimes] != rowsBySteps(p) {
		t.Fatalf("the test takes %v for all that %q reaches", rows[maxTimes], p)
	}
	for _, from := range froms {
		for exit := range 2 {
			var sets []int
			for times := range rows {
				sets = append(sets, reachedBySteps(rows[times], from, exit))
			}
			checkGrowth(t, p, from, exit, sets)
		}
	}
}

const allStates = "00,01,02,10,11,12,20,21,22"

// growthRows are programs with a set and an exit, and what they reach with no
// times, once, and so on until it is all, written out so that it depends on nothing.
var growthRows = []struct {
	p, from string
	exit    int
	sets    string
}{
	// atoms
	{".", "00,12", 0, "00,12"},
	{".", "00,12", 1, "-"},
	{"!", "00,12", 0, "-"},
	{"!", "00,12", 1, "00,12"},
	{"x+", "00,21", 0, "01,10"},
	{"x+", "00,21", 1, "-"},
	{"y2", "00,21", 0, "02,22"},
	{"yx", "00,21", 0, "00,22"},
	{"x?", "00,01", 0, "00,01,10,11,20,21"},
	{"[x=0]", "00,10", 0, "00"},
	{"[x=0]", "10", 0, "-"},
	{"[x=0]", "00", 1, "-"},

	// sequences and choices without loops
	{"(x+;y+)", "00,22", 0, "00,11"},
	{"(x+|y+)", "00", 0, "01,10"},
	{"(x+;!)", "00", 1, "10"},
	{"(!;x+)", "00", 1, "00"},
	{"(!|x+)", "00", 0, "10"},
	{"((!|x+);(!|y+))", "00", 1, "00,10"},
	{"(x+;([x=0];!))", "00,20", 1, "00"},
	{"(x+;(x+;(x+;x+)))", "00", 0, "10"},

	// loops
	{"{.}", "00,12", 0, "00,12"},
	{"{[x=1]}", "00,12", 0, "00,12"},
	{"{!}", "00,12", 0, "00,12"},
	{"{x+}", "00", 0, "00 00,10 00,10,20"},
	{"{x+}", "00,10", 0, "00,10 00,10,20"},
	{"{x+}", "00,10,20", 0, "00,10,20"},
	{"{x+}", "00,01,11", 0, "00,01,11 00,01,10,11,21 00,01,10,11,20,21"},
	{"{x?}", "00", 0, "00 00,10,20"},
	{"{x1}", "00", 0, "00 00,10"},
	{"{x1}", "10", 0, "10"},
	{"{([x<2];x+)}", "00", 0, "00 00,10 00,10,20"},
	{"{([x<2];x+)}", "10", 0, "10 10,20"},
	{"{(x+|y+)}", "00", 0, "00 00,01,10 00,01,02,10,11,20 00,01,02,10,11,12,20,21 " + allStates},
	{"{(x+;y+)}", "00,12", 0, "00,12 00,11,12,20 00,01,11,12,20,22"},
	{"{(x+|([x=2];!))}", "00", 0, "00 00,10 00,10,20"},

	// a round of all states, in which loops have to be gone through most often
	{"{" + roundOfStates + "}", "00", 0, "00 00,01 00,01,02 00,01,02,10 00,01,02,10,11 00,01,02,10,11,12 00,01,02,10,11,12,20 00,01,02,10,11,12,20,21 " + allStates},
	{"{" + roundOfStates + "}", "12", 0, "12 12,20 12,20,21 12,20,21,22 00,12,20,21,22 00,01,12,20,21,22 00,01,02,12,20,21,22 00,01,02,10,12,20,21,22 " + allStates},
	{"{(" + roundOfStates + "|([x=2];([y=2];!)))}", "00", 1, "- - - - - - - - - 22"},
	{"{(" + roundOfStates + "|([x=2];([y=2];!)))}", "11", 1, "- - - - - 22"},
	{"{(" + roundOfStates + "|!)}", "20", 1, "- 20 20,21 20,21,22 00,20,21,22 00,01,20,21,22 00,01,02,20,21,22 00,01,02,10,20,21,22 00,01,02,10,11,20,21,22 " + allStates},

	// errors in the last time, and in a later one
	{"{!}", "00,12", 1, "- 00,12"},
	{"{(!|.)}", "00", 1, "- 00"},
	{"{(x+;!)}", "00", 1, "- 10"},
	{"{(x+;!)}", "00", 0, "00"},
	{"{(!|x+)}", "00", 1, "- 00 00,10 00,10,20"},
	{"{(!|x+)}", "00,10", 1, "- 00,10 00,10,20"},
	{"{(x0|!)}", "10", 1, "- 10 00,10"},
	{"{(x+|([x=2];!))}", "00", 1, "- - - 20"},
	{"{(x+|([x=2];!))}", "10", 1, "- - 20"},
	{"{(x+|([x=2];!))}", "20", 1, "- 20"},
	{"{(x+|([x=2];!))}", "00,20", 1, "- 20"},
	{"{(x+|([x=2];!))}", "01,20", 1, "- 20 20 20,21"},
	{"{([x=2];!)}", "00,10", 1, "-"},
	{"{((x+;[x=0])|([x=0];!))}", "20", 1, "- - 00"},

	// loops within loops, of which the inner one is gone through as often each time
	{"{{x+}}", "00", 0, "00 00,10 00,10,20"},
	{"{{{x+}}}", "00", 0, "00 00,10 00,10,20"},
	{"{{{{{{x+}}}}}}", "00", 0, "00 00,10 00,10,20"},
	{"{{" + roundOfStates + "}}", "00", 0, "00 00,01 00,01,02,10,11 " + allStates},
	{"{{{" + roundOfStates + "}}}", "00", 0, "00 00,01 " + allStates},
	{"{{(" + roundOfStates + "|([x=2];([y=2];!)))}}", "00", 1, "- - - 22"},
	{"{{(" + roundOfStates + "|([x=2];([y=2];!)))}}", "12", 1, "- - 22"},
	{"{{!}}", "00", 1, "- 00"},
	{"{{{{{{!}}}}}}", "00", 1, "- 00"},
	{"{{(x+|([x=2];!))}}", "00", 1, "- - 20"},
	{"{{(!|x+)}}", "00", 1, "- 00 00,10,20"},
	{"{({x+};y+)}", "00", 0, "00 00,01,11 00,01,02,11,12,21,22 " + allStates},
	{"{({x+};([x=2];!))}", "00", 1, "- - 20"},
	{"{({(x+;!)}|y+)}", "00", 1, "- 10 10,11 10,11,12"},
	{"{({([x<2];x+)};[x=2])}", "00", 0, "00 00 00,20"},
	{"{({x1}|{y1})}", "00", 0, "00 00,01,10 00,01,10,11"},

	// loops beside each other, before others and behind them
	{"({x+};{y+})", "00", 0, "00 00,01,10,11 " + allStates},
	{"({x+}|{y+})", "00", 0, "00 00,01,10 00,01,02,10,20"},
	{"({x+};{x+})", "00", 0, "00 00,10,20"},
	{"({x+};([x=2];!))", "00", 1, "- - 20"},
	{"({([x<2];x+)};[x=2])", "00", 0, "- - 20"},
	{"({x+};!)", "00", 1, "00 00,10 00,10,20"},
	{"({!};x+)", "00", 1, "- 00"},
	{"({!};x+)", "00", 0, "10"},
	{"(!;{x+})", "00", 1, "00"},
	{"(!|{!})", "00", 1, "00"},
	{"(x+;{y+})", "00", 0, "10 10,11 10,11,12"},
	{"([x=0];{x+})", "00,21", 0, "00 00,10 00,10,20"},

	// nothing is reached at all
	{"{x+}", "00", 1, "-"},
	{"({x+};!)", "00", 0, "-"},
	{"({x+};([x=0];[x=1]))", "00", 0, "-"},
	{"([x=1];{!})", "00", 1, "-"},
	{"{([x=0];([x=1];!))}", "00", 1, "-"},
	{"(!;{(x+|!)})", "00", 0, "-"},

	// the set without states
	{".", "-", 0, "-"},
	{"!", "-", 1, "-"},
	{"{x+}", "-", 0, "-"},
	{"{(x+|!)}", "-", 1, "-"},
	{"{{x?}}", "-", 0, "-"},
}

func TestP9MaxTimes(t *testing.T) {
	if impl.MaxTimes != maxTimes {
		t.Errorf("MaxTimes = %d", impl.MaxTimes)
	}
}

func TestP9Growth(t *testing.T) {
	for _, row := range growthRows {
		var sets []int
		for _, text := range strings.Fields(row.sets) {
			sets = append(sets, setOfText(text))
		}
		for len(sets) <= maxTimes {
			sets = append(sets, sets[len(sets)-1])
		}
		checkGrowth(t, row.p, setOfText(row.from), row.exit, sets)
		for times, set := range sets[:4] {
			if reached := reachedBySteps(rowsIn(row.p, times), setOfText(row.from), row.exit); reached != set {
				t.Fatalf("the test takes %s for what %q reaches in %d times, and %s", textOf(reached), row.p, times, textOf(set))
			}
		}
	}
}

func TestP9DocumentExample(t *testing.T) {
	const p = "{(x+|([x=2];!))}"
	checkReachedIn(t, p, 1, 1, 2, 0)
	checkReachedIn(t, p, 1, 1, 3, 64)
	if got := impl.TimesToFail(p, 1); got != 3 {
		t.Errorf("TimesToFail(%q, 00) = %d", p, got)
	}
}

// TestP9OftenEnoughReachesAll takes the promise by its word: as often as TimesFor
// says, and more often, all is reached, and less often it is not.
func TestP9OftenEnoughReachesAll(t *testing.T) {
	for i, row := range programRows() {
		for exit := range 2 {
			for _, from := range []int{1 << (i % 9), i * 11 % 512, 511, 0} {
				all, _ := impl.Reached(row.text, from, exit)
				enough := impl.TimesFor(row.text, from, exit)
				if enough < 0 || enough > 9 {
					t.Errorf("TimesFor(%q, %s, %d) = %d", row.text, textOf(from), exit, enough)
				}
				for times := range maxTimes + 1 {
					got, ok := impl.ReachedIn(row.text, from, exit, times)
					if (got == all) != (times >= enough) || withoutStates(got, all) != 0 || !ok {
						t.Errorf("ReachedIn(%q, %s, %d, %d) = %s, %v of %s, enough are %d", row.text, textOf(from), exit, times, impl.FormatSet(got), ok, textOf(all), enough)
					}
				}
			}
		}
	}
}

// TestP9AtomsFromAllSets takes all atoms, in a loop and in two as well.
func TestP9AtomsFromAllSets(t *testing.T) {
	for _, row := range atomRows() {
		checkTimes(t, row.text, allSets())
		checkTimes(t, "{"+row.text+"}", allSets())
		checkTimes(t, "{{"+row.text+"}}", []int{0, 1, 33, 84, 511})
	}
}

func TestP9PairsOfAtoms(t *testing.T) {
	rows := atomRows()
	for i, p := range rows {
		for j, q := range rows {
			if (i+j)%4 == 0 {
				checkTimes(t, "({"+p.text+"};"+q.text+")", []int{1 << (i % 9), 511})
				checkTimes(t, "{("+p.text+"|"+q.text+")}", []int{1 << (j % 9), 33})
				checkTimes(t, "{("+p.text+";"+q.text+")}", []int{1 << (i % 9), 33})
			}
		}
	}
}

func TestP9MadePrograms(t *testing.T) {
	for i, row := range programRows() {
		if row.loops <= 2 && i%5 == 0 {
			checkTimes(t, row.text, []int{0, 511, i % 512, i * 7 % 512})
		}
	}
}

// TestP9DrawnPrograms takes programs that are always drawn in the same way.
func TestP9DrawnPrograms(t *testing.T) {
	draw := rand.New(rand.NewSource(9))
	counts := map[int]int{}
	for count := 0; count < 350; {
		p := drawnProgram(draw, 3+count%4)
		if !isProgram(p) || !strings.Contains(p, "{") || impl.LoopsIn(p) > 2 {
			continue
		}
		from := 1 << draw.Intn(9)
		checkTimes(t, p, []int{from, draw.Intn(512)})
		counts[max(impl.TimesFor(p, from, 0), impl.TimesToFail(p, from))]++
		count++
	}
	for times := range 4 {
		if counts[times] < 8 {
			t.Errorf("%d drawn programs are gone through %d times", counts[times], times)
		}
	}
}

// TestP9LoopsWithinLoops takes few times, since runs have very many places where
// loops within each other can be gone through often.
func TestP9LoopsWithinLoops(t *testing.T) {
	bodies := []string{"x+", "!", "(x+|!)", "(x+|y+)", roundOfStates, "(" + roundOfStates + "|([x=1];([y=1];!)))"}
	for loops := 3; loops <= 6; loops++ {
		for _, body := range bodies {
			p := loopsOf(loops, body)
			for times := range 3 {
				rows := rowsIn(p, times)
				for _, from := range []int{1, 16, 33, 511} {
					checkReachedIn(t, p, from, 0, times, reachedBySteps(rows, from, 0))
					checkReachedIn(t, p, from, 1, times, reachedBySteps(rows, from, 1))
				}
				checkUnrolled(t, p, times, asProgram(unrolledText(p, times)))
			}
		}
	}
}

// TestP9DeepProgramsTakeNotLong takes programs that would be done very many times
// if all that can be gone through was.
func TestP9DeepProgramsTakeNotLong(t *testing.T) {
	for _, p := range []string{loopsOf(6, "x+"), loopsOf(6, "!"), loopsOf(6, "(x+|(y+|!))"), loopsOf(6, roundOfStates), "({{{{{{x+}}}}}};({{{{{{y+}}}}}};{{{{{{(x+|!)}}}}}}))", "{({({({({({x+};{y+})};{y+})};{x+})};{y+})};{x+})}"} {
		if !isProgram(p) {
			t.Fatalf("the test takes %q for a program", p)
		}
		rows := rowsBySteps(p)
		for range 200 {
			for exit := range 2 {
				checkReachedIn(t, p, 1, exit, maxTimes, reachedBySteps(rows, 1, exit))
			}
			checkUnrolled(t, p, maxTimes, "")
		}
	}
}

// chainOf11 is a program without loops of 52 bytes, so that it is as long as a
// program may be when it is in a loop that is unrolled once.
const chainOf11 = "(x+;(x+;(x+;(x+;(x+;(x+;(x+;(x+;(x+;(x+;x+))))))))))"

// unrollRows are programs and times with what they are unrolled, "" if it is too long.
var unrollRows = []struct {
	p     string
	times int
	want  string
}{
	// atoms
	{".", 0, "."},
	{"!", 1, "!"},
	{"x+", 2, "x+"},
	{"y?", 12, "y?"},
	{"[x<y]", 12, "[x<y]"},

	// programs without loops, and ones that are as long as they may be
	{"(x+;y+)", 0, "(x+;y+)"},
	{"(x+|y+)", 12, "(x+|y+)"},
	{"(x+;([x=0];!))", 5, "(x+;([x=0];!))"},
	{"(([x<1];!)|([x#0];x+))", 12, "(([x<1];!)|([x#0];x+))"},
	{"(x+;(x+;(x+;(x+;(x+;(x+;(x+;(x+;(x+;(x+;(x+;[x=0])))))))))))", 0, "(x+;(x+;(x+;(x+;(x+;(x+;(x+;(x+;(x+;(x+;(x+;[x=0])))))))))))"},
	{"(x+;(x+;(x+;(x+;(x+;(x+;(x+;(x+;(x+;(x+;(x+;[x=0])))))))))))", 12, "(x+;(x+;(x+;(x+;(x+;(x+;(x+;(x+;(x+;(x+;(x+;[x=0])))))))))))"},

	// loops
	{"{x+}", 0, "."},
	{"{x+}", 1, "(.|(x+;.))"},
	{"{x+}", 2, "(.|(x+;(.|(x+;.))))"},
	{"{x+}", 3, "(.|(x+;(.|(x+;(.|(x+;.))))))"},
	{"{!}", 1, "(.|(!;.))"},
	{"{.}", 2, "(.|(.;(.|(.;.))))"},
	{"{[x=0]}", 1, "(.|([x=0];.))"},
	{"{(x+|([x=2];!))}", 0, "."},
	{"{(x+|([x=2];!))}", 1, "(.|((x+|([x=2];!));.))"},
	{"{(x+|([x=2];!))}", 2, "(.|((x+|([x=2];!));(.|((x+|([x=2];!));.))))"},

	// loops within loops, of which the inner one is gone through as often each time
	{"{{x+}}", 0, "."},
	{"{{x+}}", 1, "(.|((.|(x+;.));.))"},
	{"{{x+}}", 2, "(.|((.|(x+;(.|(x+;.))));(.|((.|(x+;(.|(x+;.))));.))))"},
	{"{{{!}}}", 0, "."},
	{"{{{!}}}", 1, "(.|((.|((.|(!;.));.));.))"},
	{"{({x+};!)}", 0, "."},
	{"{({x+};!)}", 1, "(.|(((.|(x+;.));!);.))"},
	{"{({x+}|y+)}", 1, "(.|(((.|(x+;.))|y+);.))"},
	{"{{{{{{x+}}}}}}", 0, "."},
	{"{{{{{{x+}}}}}}", 1, "(.|((.|((.|((.|((.|((.|(x+;.));.));.));.));.));.))"},

	// loops beside each other, before others and behind them
	{"({x+};!)", 0, "(.;!)"},
	{"({x+};!)", 1, "((.|(x+;.));!)"},
	{"(x+;{!})", 1, "(x+;(.|(!;.)))"},
	{"({x+};{y+})", 0, "(.;.)"},
	{"({x+};{y+})", 1, "((.|(x+;.));(.|(y+;.)))"},
	{"({x+}|{y+})", 0, "(.|.)"},
	{"({x+}|{y+})", 1, "((.|(x+;.))|(.|(y+;.)))"},
	{"({x+}|{{y+}})", 1, "((.|(x+;.))|(.|((.|(y+;.));.)))"},
	{"([x=0];({x+}|(y+;{!})))", 0, "([x=0];(.|(y+;.)))"},
	{"([x=0];({x+}|(y+;{!})))", 1, "([x=0];((.|(x+;.))|(y+;(.|(!;.)))))"},

	// 60 bytes, 61 bytes and more
	{"(x+;{x+})", 6, "(x+;(.|(x+;(.|(x+;(.|(x+;(.|(x+;(.|(x+;(.|(x+;.)))))))))))))"},
	{"([x=0];{x+})", 6, ""},
	{"(x+;{x+})", 7, ""},
	{"{x+}", 6, "(.|(x+;(.|(x+;(.|(x+;(.|(x+;(.|(x+;(.|(x+;.))))))))))))"},
	{"{x+}", 7, ""},
	{"{x+}", 12, ""},
	{"{!}", 7, "(.|(!;(.|(!;(.|(!;(.|(!;(.|(!;(.|(!;(.|(!;.))))))))))))))"},
	{"{!}", 8, ""},
	{"{!}", 12, ""},
	{"{(.;.)}", 4, "(.|((.;.);(.|((.;.);(.|((.;.);(.|((.;.);.))))))))"},
	{"{(.;.)}", 5, ""},
	{"{" + chainOf11 + "}", 0, "."},
	{"{" + chainOf11 + "}", 1, "(.|(" + chainOf11 + ";.))"},
	{"{" + chainOf11 + "}", 2, ""},
	{"{(x+;(x+;(x+;(x+;(x+;(x+;(x+;(x+;([x=0];[y=0])))))))))}", 0, "."},
	{"{(x+;(x+;(x+;(x+;(x+;(x+;(x+;(x+;([x=0];[y=0])))))))))}", 1, ""},
	{"{{x+}}", 3, ""},
	{"{{{x+}}}", 2, ""},
	{"{{{{{{(x+|!)}}}}}}", 1, "(.|((.|((.|((.|((.|((.|((x+|!);.));.));.));.));.));.))"},
	{"{{{{{{([x=0];y+)}}}}}}", 1, "(.|((.|((.|((.|((.|((.|(([x=0];y+);.));.));.));.));.));.))"},
	{"{{{{{{(x+;(x+;y+))}}}}}}", 1, "(.|((.|((.|((.|((.|((.|((x+;(x+;y+));.));.));.));.));.));.))"},
	{"{{{{{{([x=0];[y=0])}}}}}}", 1, ""},
	{"{{{{{{x+}}}}}}", 2, ""},
	{"({x+};{y+})", 3, "((.|(x+;(.|(x+;(.|(x+;.))))));(.|(y+;(.|(y+;(.|(y+;.)))))))"},
	{"({x+};{y+})", 4, ""},
	{"({x+};{y+})", 12, ""},
}

func TestP9Unroll(t *testing.T) {
	for _, row := range unrollRows {
		if !isProgram(row.p) {
			t.Fatalf("the test takes %q for a program", row.p)
		}
		checkUnrolled(t, row.p, row.times, row.want)
		if asProgram(unrolledText(row.p, row.times)) != row.want {
			t.Fatalf("the test takes %q for %q unrolled %d times", unrolledText(row.p, row.times), row.p, row.times)
		}
	}
}

// TestP9UnrolledReachesTheSame runs what is unrolled: it has no loops, and reaches
// in all just what the program reaches in so many times.
func TestP9UnrolledReachesTheSame(t *testing.T) {
	unrolled := 0
	for i, row := range programRows() {
		for times := range maxTimes + 1 {
			p, ok := impl.Unroll(row.text, times)
			if !ok {
				continue
			}
			if !impl.ProgramValid(p) || impl.LoopsIn(p) != 0 {
				t.Errorf("Unroll(%q, %d) = %q", row.text, times, p)
			}
			for exit := range 2 {
				from := (i*13 + times) % 512
				all, _ := impl.Reached(p, from, exit)
				checkReachedIn(t, row.text, from, exit, times, all)
			}
			if p != row.text {
				unrolled++
			}
		}
	}
	if unrolled < 1000 {
		t.Errorf("only %d programs are unrolled", unrolled)
	}
}

func TestP9CutLoops(t *testing.T) {
	check := func(p string, want string) {
		t.Helper()
		if got, ok := impl.CutLoops(p); got != want || !ok {
			t.Errorf("CutLoops(%q) = %q, %v, want %q", p, got, ok, want)
		}
	}
	for _, row := range unrollRows {
		if row.times == 0 {
			check(row.p, row.want)
		}
	}
	for _, row := range programRows() {
		check(row.text, unrolledText(row.text, 0))
	}
	check("({x+};!)", "(.;!)")
	check("{(x+;{y+})}", ".")
	check("(({!}|{.});({x?}|!))", "((.|.);(.|!))")
}

// TestP9TimesToFail takes programs that fail from one state earlier than from
// another one, or in one way earlier than in another one.
func TestP9TimesToFail(t *testing.T) {
	for _, c := range []struct {
		p, from string
		want    int
	}{
		{"!", "00", 0},
		{"!", "-", -1},
		{".", "00", -1},
		{"(x+;([x=0];!))", "20", 0},
		{"(x+;([x=0];!))", "00,10", -1},
		{"{!}", "00", 1},
		{"{!}", "-", -1},
		{"{x+}", "00", -1},
		{"{(x+|([x=2];!))}", "00", 3},
		{"{(x+|([x=2];!))}", "00,10", 2},
		{"{(x+|([x=2];!))}", "00,10,20", 1},
		{"{{(x+|([x=2];!))}}", "00", 2},
		{"({(x+|([x=2];!))}|([y=1];!))", "00", 3},
		{"({(x+|([x=2];!))}|([y=1];!))", "00,01", 0},
		{"({(x+|([x=2];!))};!)", "00", 0},
		{"({x+};([x=2];!))", "00", 2},
		{"({x+};([x=2];([y=2];!)))", "00", -1},
		{"({x+};({y+};([x=2];([y=1];!))))", "00", 2},
		{"({x+};({y+};([x=1];([y=1];!))))", "00", 1},
		{"({x+};({y+};([x=0];([y=0];!))))", "00", 0},
		{"([x=1];{!})", "00,01", -1},
		{"([x=1];{!})", "00,10", 1},
		{"{(" + roundOfStates + "|([x=2];([y=2];!)))}", "00", 9},
		{"{(" + roundOfStates + "|([x=2];([y=2];!)))}", "00,12", 4},
		{"{{(" + roundOfStates + "|([x=2];([y=2];!)))}}", "00", 3},
	} {
		if got := impl.TimesToFail(c.p, setOfText(c.from)); got != c.want {
			t.Errorf("TimesToFail(%q, %s) = %d, want %d", c.p, c.from, got, c.want)
		}
	}
}

// TestP9TimesForBothExits takes programs for which all is reached earlier with one
// exit than with the other one.
func TestP9TimesForBothExits(t *testing.T) {
	for _, c := range []struct {
		p, from   string
		ok, error int
	}{
		{"!", "00", 0, 0},
		{"{x+}", "00", 2, 0},
		{"{!}", "00", 0, 1},
		{"{(x+|([x=2];!))}", "00", 2, 3},
		{"{(x+|([x=0];!))}", "00", 2, 1},
		{"({(x+|([x=0];!))};!)", "00", 0, 2},
		{"{(" + roundOfStates + "|([x=2];([y=2];!)))}", "00", 8, 9},
		{"({x+}|{(y?;!)})", "00", 2, 1},
		{"{x+}", "-", 0, 0},
		{"{(x+|!)}", "-", 0, 0},
	} {
		from := setOfText(c.from)
		if ok, failed := impl.TimesFor(c.p, from, 0), impl.TimesFor(c.p, from, 1); ok != c.ok || failed != c.error {
			t.Errorf("TimesFor(%q, %s, 0 and 1) = %d and %d, want %d and %d", c.p, c.from, ok, failed, c.ok, c.error)
		}
	}
}

// checkNothing checks that nothing is told of a program from a set with an exit.
func checkNothing(t *testing.T, p string, from int, exit int) {
	t.Helper()
	for _, times := range append([]int{0, 1, 2, maxTimes}, noTimes...) {
		checkNotReachedIn(t, p, from, exit, times)
	}
	if got := impl.TimesFor(p, from, exit); got != -1 {
		t.Errorf("TimesFor(%.40q, %d, %d) = %d", p, from, exit, got)
	}
	if got, ok := impl.GrowthOf(p, from, exit); len(got) != 0 || ok {
		t.Errorf("GrowthOf(%.40q, %d, %d) = %v, %v", p, from, exit, got, ok)
	}
}

// checkNotReachedIn checks that it is not told what is reached in so many times.
func checkNotReachedIn(t *testing.T, p string, from int, exit int, times int) {
	t.Helper()
	if got, ok := impl.ReachedIn(p, from, exit, times); got != 0 || ok {
		t.Errorf("ReachedIn(%.40q, %d, %d, %d) = %d, %v", p, from, exit, times, got, ok)
	}
}

// TestP9NoPrograms takes among others programs that would be none only since they
// are too long or have too many loops, which those that they are unrolled are not.
func TestP9NoPrograms(t *testing.T) {
	for _, p := range append([]string{"{" + programOfBytes(59) + "}", "(.;{" + programOfBytes(55) + "})", loopsOf(7, "!"), "({x+};.", "{x+};!", "{{x+}", "({x+}&!)", "{[x=3]}"}, noPrograms...) {
		for _, from := range []int{0, 1, 511} {
			checkNothing(t, p, from, 0)
			checkNothing(t, p, from, 1)
			if got := impl.TimesToFail(p, from); got != -1 {
				t.Errorf("TimesToFail(%.40q, %d) = %d", p, from, got)
			}
		}
		for times := range maxTimes + 1 {
			checkUnrolled(t, p, times, "")
		}
		if got, ok := impl.CutLoops(p); got != "" || ok {
			t.Errorf("CutLoops(%.40q) = %q, %v", p, got, ok)
		}
	}
}

func TestP9NoSetsNoExits(t *testing.T) {
	for _, p := range []string{".", "!", "x?", "[x=0]", "([x=0];[x=1])", "{x+}", "{(x+|!)}", "q"} {
		for _, from := range noSets {
			for _, exit := range append([]int{0, 1}, noExits...) {
				checkNothing(t, p, from, exit)
			}
			if got := impl.TimesToFail(p, from); got != -1 {
				t.Errorf("TimesToFail(%q, %d) = %d", p, from, got)
			}
		}
		for _, exit := range noExits {
			for _, from := range []int{0, 1, 33, 511} {
				checkNothing(t, p, from, exit)
			}
		}
	}
}

// TestP9NoTimes takes numbers of times that there are not, with programs that have
// loops and ones that have none, for which no time would be done.
func TestP9NoTimes(t *testing.T) {
	for _, times := range noTimes {
		for _, p := range []string{".", "!", "x+", "[x=0]", "(x+;!)", "{x+}", "{{!}}", "({x+}|(y+;{!}))", loopsOf(6, "(x+|!)"), programOfBytes(60), "q", ""} {
			for _, from := range []int{0, 1, 33, 511, 512, -1} {
				for exit := range 3 {
					checkNotReachedIn(t, p, from, exit, times)
				}
			}
			checkUnrolled(t, p, times, "")
		}
	}
}

// TestP9GrowthOfIsNewMemory writes over a result, that past its length included.
func TestP9GrowthOfIsNewMemory(t *testing.T) {
	for _, row := range growthRows {
		from := setOfText(row.from)
		one, _ := impl.GrowthOf(row.p, from, row.exit)
		two, _ := impl.GrowthOf(row.p, from, row.exit)
		want := slices.Clone(two)
		for i := range one[:cap(one)] {
			one[:cap(one)][i] = -77
		}
		three, _ := impl.GrowthOf(row.p, from, row.exit)
		if !slices.Equal(two, want) || !slices.Equal(three, want) {
			t.Errorf("GrowthOf(%q, %s, %d) = %v and %v after a write to another result", row.p, row.from, row.exit, two, three)
		}
	}
}

// TestP9CallsBesideEachOther has growth told of several programs at the same time,
// over and over: each is told what it is by itself.
func TestP9CallsBesideEachOther(t *testing.T) {
	var working sync.WaitGroup
	wrong := make([][]int, len(growthRows))
	for i, row := range growthRows {
		var want []int
		for _, text := range strings.Fields(row.sets) {
			want = append(want, len(statesOf(setOfText(text))))
		}
		working.Add(1)
		go func() {
			defer working.Done()
			for range 50 {
				if got, _ := impl.GrowthOf(row.p, setOfText(row.from), row.exit); !slices.Equal(got, want) {
					wrong[i] = append(got, -1)
				}
			}
		}()
	}
	working.Wait()
	for i, got := range wrong {
		if got != nil {
			t.Errorf("GrowthOf(%q, %s, %d) = %v beside others", growthRows[i].p, growthRows[i].from, growthRows[i].exit, got)
		}
	}
}

// TestP9NothingGoesOnBehindACall counts what runs when much has been told. What
// has just ended may still be counted for a moment.
func TestP9NothingGoesOnBehindACall(t *testing.T) {
	before := runtime.NumGoroutine()
	for range 100 {
		for _, row := range growthRows {
			impl.GrowthOf(row.p, setOfText(row.from), row.exit)
			impl.GrowthOf(row.p, 512, row.exit)
			impl.GrowthOf("q", 1, row.exit)
		}
	}
	for range 1000 {
		runtime.Gosched()
	}
	if after := runtime.NumGoroutine(); after > before+20 {
		t.Errorf("%d goroutines run behind all calls, and %d before", after, before)
	}
}
