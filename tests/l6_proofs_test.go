package tests

import (
	"fmt"
	"math"
	"math/rand"
	"regexp"
	"slices"
	"strconv"
	"strings"
	"testing"

	"loop.example/surelywrong/impl"
)

// ruleTexts are the words of all rules in order, written out so that they do
// not depend on the program.
var ruleTexts = []string{"atom", "none", "seq", "stop", "left", "right", "zero", "once", "fail", "both", "less"}

// noRules are texts that are no rule.
var noRules = []string{
	"", " ", "magic", "a", "ato", "tom", "atoms", "atom ", " atom", "atom\n", "atom\x00", "\x00atom", "Atom", "ATOM", "atom,none", "atom none", "atomnone",
	"sequence", "se", "SEQ", "stops", "leftright", "l", "r", "0", "1", "-1", "zer0", "one", "two", "twice", "fails", "error", "ok", "or", "and", "more", "\xff", "-", ".", strings.Repeat("atom", 100000),
}

// isTriple reports whether a triple is valid, told without the program.
func isTriple(x impl.Triple) bool {
	return x.Before >= 0 && x.Before < 512 && x.Behind >= 0 && x.Behind < 512 && (x.Exit == 0 || x.Exit == 1) && isProgram(x.Program)
}

// wholeText returns the text of a triple that is made of these, as tripleText.
func wholeText(before int, p string, exit int, behind int) string {
	return tripleText(impl.Triple{Before: before, Program: p, Exit: exit, Behind: behind})
}

// isAnyOf reports whether triples have one of some texts, one behind the other.
func isAnyOf(from []impl.Triple, texts ...string) bool {
	var words []string
	for _, x := range from {
		words = append(words, tripleText(x))
	}
	return slices.Contains(texts, strings.Join(words, ", "))
}

// throughAnySet returns the texts of two triples, one behind the other, by the
// first one of which p goes on to a set, and by the second one q from there.
func throughAnySet(x impl.Triple, p string, q string) []string {
	var texts []string
	for set := range 512 {
		texts = append(texts, wholeText(x.Before, p, 0, set)+", "+wholeText(set, q, x.Exit, x.Behind))
	}
	return texts
}

// kindInText returns the byte that tells what a program is made by, and 0 for
// atoms.
func kindInText(p string) byte {
	switch p[0] {
	case '(':
		return p[1+len(partsInText(p)[0])]
	case '{':
		return '{'
	}
	return 0
}

// sameSubject reports whether triples have the program and the exit of another
// one.
func sameSubject(x impl.Triple, from []impl.Triple) bool {
	for _, y := range from {
		if y.Program != x.Program || y.Exit != x.Exit {
			return false
		}
	}
	return true
}

// atomHolds reports whether a triple has an atom and just what it reaches.
func atomHolds(x impl.Triple) bool {
	return kindInText(x.Program) == 0 && reachedBySteps(rowsBySteps(x.Program), x.Before, x.Exit) == x.Behind
}

// followsInText reports whether a valid triple follows from valid ones by a
// rule, which it tells by what the document's table says of their texts.
func followsInText(rule string, x impl.Triple, from []impl.Triple) bool {
	kind, parts := kindInText(x.Program), []string{"", ""}
	if kind != 0 {
		parts = append(partsInText(x.Program), "")
	}
	part := func(i int) string { return wholeText(x.Before, parts[i], x.Exit, x.Behind) }
	switch rule {
	case "atom":
		return len(from) == 0 && atomHolds(x)
	case "none":
		return len(from) == 0 && x.Behind == 0
	case "seq":
		return kind == ';' && isAnyOf(from, throughAnySet(x, parts[0], parts[1])...)
	case "stop":
		return kind == ';' && x.Exit == 1 && isAnyOf(from, part(0))
	case "left":
		return kind == '|' && isAnyOf(from, part(0))
	case "right":
		return kind == '|' && isAnyOf(from, part(1))
	case "zero":
		return kind == '{' && len(from) == 0 && x.Exit == 0 && x.Before == x.Behind
	case "once":
		return kind == '{' && isAnyOf(from, throughAnySet(x, parts[0], x.Program)...)
	case "fail":
		return kind == '{' && x.Exit == 1 && isAnyOf(from, part(0))
	case "both":
		return len(from) == 2 && sameSubject(x, from) && textOf(from[0].Before|from[1].Before) == textOf(x.Before) && textOf(from[0].Behind|from[1].Behind) == textOf(x.Behind)
	case "less":
		return len(from) == 1 && sameSubject(x, from) && withoutStates(from[0].Before, x.Before) == 0 && withoutStates(x.Behind, from[0].Behind) == 0
	}
	return false
}

// holdsInText reports what LineHolds has to.
func holdsInText(line impl.Line, from []impl.Triple) bool {
	for _, x := range append([]impl.Triple{line.Triple}, from...) {
		if !isTriple(x) {
			return false
		}
	}
	return followsInText(line.Rule, line.Triple, from)
}

// faultInText returns what CheckProof has to.
func faultInText(proof []impl.Line) int {
	for i, line := range proof {
		var from []impl.Triple
		for _, ref := range line.Refs {
			if ref < 0 || ref >= i {
				return i
			}
			from = append(from, proof[ref].Triple)
		}
		if i >= 120 || !holdsInText(line, from) {
			return i
		}
	}
	return -1
}

// proofText returns what FormatProof has to.
func proofText(proof []impl.Line) string {
	text := ""
	for i, line := range proof {
		if i >= 120 || !isTriple(line.Triple) || !slices.Contains(ruleTexts, line.Rule) {
			return ""
		}
		if i > 0 {
			text += "\n"
		}
		text += tripleText(line.Triple) + " " + line.Rule
		for _, ref := range line.Refs {
			if ref < 0 || ref >= i {
				return ""
			}
			text += fmt.Sprintf(" %d", ref)
		}
	}
	return text
}

var refPattern = regexp.MustCompile(`^(?:0|[1-9][0-9]{0,2})$`)

// proofOfText returns what ParseProof has to.
func proofOfText(text string, sets map[string]int) ([]impl.Line, bool) {
	if text == "" {
		return nil, true
	}
	rows := strings.Split(text, "\n")
	var proof []impl.Line
	for i, row := range rows {
		words := strings.Split(row, " ")
		if i >= 120 || len(words) < 5 || !slices.Contains(ruleTexts, words[4]) {
			return nil, false
		}
		x, ok := tripleOf(strings.Join(words[:4], " "), sets)
		line := impl.Line{Triple: x, Rule: words[4]}
		for _, word := range words[5:] {
			ref, _ := strconv.Atoi(word)
			ok = ok && refPattern.MatchString(word) && ref < i
			line.Refs = append(line.Refs, ref)
		}
		if !ok {
			return nil, false
		}
		proof = append(proof, line)
	}
	return proof, true
}

// neededInText returns what NeededLines has to, of a right proof: it marks lines
// until no more are needed, and counts those before a line for its place.
func neededInText(proof []impl.Line) []impl.Line {
	needed := map[int]bool{len(proof) - 1: true}
	for count := 0; count != len(needed); {
		count = len(needed)
		for i, line := range proof {
			for _, ref := range line.Refs {
				if needed[i] {
					needed[ref] = true
				}
			}
		}
	}
	place := func(index int) int {
		before := 0
		for i := range index {
			if needed[i] {
				before++
			}
		}
		return before
	}
	var short []impl.Line
	for i, line := range proof {
		if needed[i] {
			moved := impl.Line{Triple: line.Triple, Rule: line.Rule}
			for _, ref := range line.Refs {
				moved.Refs = append(moved.Refs, place(ref))
			}
			short = append(short, moved)
		}
	}
	return short
}

// sameLine reports whether two lines are the same, whatever their memory is.
func sameLine(a impl.Line, b impl.Line) bool {
	return a.Triple == b.Triple && a.Rule == b.Rule && slices.Equal(a.Refs, b.Refs)
}

// sameProof reports whether two proofs are the same, whatever their memory is.
func sameProof(a []impl.Line, b []impl.Line) bool { return slices.EqualFunc(a, b, sameLine) }

// copyOf returns a proof in memory of its own.
func copyOf(proof []impl.Line) []impl.Line {
	var lines []impl.Line
	for _, line := range proof {
		line.Refs = slices.Clone(line.Refs)
		lines = append(lines, line)
	}
	return lines
}

// linesOf returns the proof of a text that the test takes for one.
func linesOf(t *testing.T, text string) []impl.Line {
	t.Helper()
	proof, ok := proofOfText(text, setsByText())
	if !ok {
		t.Fatalf("the test takes %q for a proof", text)
	}
	return proof
}

// triplesOf returns the triples of texts that have `, ` between them.
func triplesOf(t *testing.T, texts string) []impl.Triple {
	t.Helper()
	var list []impl.Triple
	if texts == "" {
		return list
	}
	sets := setsByText()
	for _, text := range strings.Split(texts, ", ") {
		x, ok := tripleOf(text, sets)
		if !ok {
			t.Fatalf("the test takes %q for a triple", text)
		}
		list = append(list, x)
	}
	return list
}

// stepRows are lines, what they are to be derived from, and whether they are,
// written out so that they depend on nothing.
var stepRows = []struct {
	line, from string
	holds      bool
}{
	{"20 x+ ok 00 atom", "", true},
	{"00,10 x+ ok 10,20 atom", "", true},
	{"00,10 x+ ok 10 atom", "", false},
	{"00 x+ ok 10,20 atom", "", false},
	{"00 x+ ok - atom", "", false},
	{"- x+ ok - atom", "", true},
	{"- x+ ok 10 atom", "", false},
	{"00 x+ error - atom", "", true},
	{"00 x+ error 10 atom", "", false},
	{"00 ! error 00 atom", "", true},
	{"00 ! ok - atom", "", true},
	{"00 ! ok 00 atom", "", false},
	{"00 ! error - atom", "", false},
	{"11 . ok 11 atom", "", true},
	{"11 . ok 11,22 atom", "", false},
	{"01 x? ok 01,11,21 atom", "", true},
	{"01 x? ok 01,11 atom", "", false},
	{"00,20 [x=0] ok 00 atom", "", true},
	{"00,20 [x=0] ok 00,20 atom", "", false},
	{"20 [x=0] ok - atom", "", true},
	{"00 (.;.) ok 00 atom", "", false},
	{"00 (.|.) ok 00 atom", "", false},
	{"00 {.} ok 00 atom", "", false},
	{"00 x+ ok 10 atom", "00 x+ ok 10", false},
	{"00 x+ ok 10 atom", "00 . ok 00", false},

	{"00 x+ ok - none", "", true},
	{"00 x+ error - none", "", true},
	{"- x+ ok - none", "", true},
	{"00 {(x+|!)} error - none", "", true},
	{"00 (.;!) ok - none", "", true},
	{"00 x+ ok 10 none", "", false},
	{"00 . error 00 none", "", false},
	{"00 x+ ok - none", "00 x+ ok -", false},

	{"20 (x+;!) error 00 seq", "20 x+ ok 00, 00 ! error 00", true},
	{"20 (x+;y+) ok 01 seq", "20 x+ ok 00, 00 y+ ok 01", true},
	{"20 (x+;y+) ok 22 seq", "20 x+ ok 00,12, 00,12 y+ ok 22", true},
	{"20 (x+;y+) ok - seq", "20 x+ ok -, - y+ ok -", true},
	{"20 (.;.) ok 20 seq", "20 . ok 20, 20 . ok 20", true},
	{"20 (x+;!) error 00 seq", "00 ! error 00, 20 x+ ok 00", false},
	{"20 (x+;!) error 00 seq", "20 x+ ok 00", false},
	{"20 (x+;!) error 00 seq", "00 ! error 00", false},
	{"20 (x+;!) error 00 seq", "", false},
	{"20 (x+;!) error 00 seq", "20 x+ ok 00, 00 ! error 00, 00 ! error 00", false},
	{"20 (x+;!) error 00 seq", "20 x+ ok 00, 20 x+ ok 00", false},
	{"20 (x+;!) error 00 seq", "20 x+ ok 00,10, 00 ! error 00", false},
	{"20 (x+;!) error 00 seq", "20 x+ ok 00, 00,10 ! error 00", false},
	{"20 (x+;!) error 00 seq", "20 x+ error 00, 00 ! error 00", false},
	{"20 (x+;!) ok 00 seq", "20 x+ ok 00, 00 ! error 00", false},
	{"20 (x+;!) error 00 seq", "20 x+ ok 00, 00 ! ok 00", false},
	{"20,21 (x+;!) error 00 seq", "20 x+ ok 00, 00 ! error 00", false},
	{"20 (x+;!) error 00 seq", "20,21 x+ ok 00, 00 ! error 00", false},
	{"20 (x+;!) error 00,01 seq", "20 x+ ok 00, 00 ! error 00", false},
	{"20 (x+;!) error - seq", "20 x+ ok 00, 00 ! error 00", false},
	{"20 (x+;!) error 00 seq", "20 y+ ok 00, 00 ! error 00", false},
	{"20 (x+;!) error 00 seq", "20 x+ ok 00, 00 . error 00", false},
	{"20 (!;x+) error 00 seq", "20 x+ ok 00, 00 ! error 00", false},
	{"20 (x+|!) error 00 seq", "20 x+ ok 00, 00 ! error 00", false},
	{"20 ((x+;!);.) error 00 seq", "20 x+ ok 00, 00 ! error 00", false},
	{"20 {x+} error 00 seq", "20 x+ ok 00, 00 {x+} error 00", false},
	{"20 x+ ok 00 seq", "20 x+ ok 00, 00 x+ ok 00", false},

	{"11 (!;x0) error 11 stop", "11 ! error 11", true},
	{"11 (x+;!) error 21 stop", "11 x+ error 21", true},
	{"11 (!;x0) ok 11 stop", "11 ! ok 11", false},
	{"11 (!;x0) ok 11 stop", "11 ! error 11", false},
	{"11 (!;x0) error 11 stop", "11 ! ok 11", false},
	{"11 (!;x0) error 11 stop", "", false},
	{"11 (!;x0) error 11 stop", "11 ! error 11, 11 ! error 11", false},
	{"11 (x0;!) error 11 stop", "11 ! error 11", false},
	{"11 (!;x0) error 11 stop", "11 (!;x0) error 11", false},
	{"11,12 (!;x0) error 11 stop", "11 ! error 11", false},
	{"11 (!;x0) error - stop", "11 ! error 11", false},
	{"11 (!|x0) error 11 stop", "11 ! error 11", false},
	{"11 {!} error 11 stop", "11 ! error 11", false},
	{"11 ! error 11 stop", "11 ! error 11", false},

	{"11 (!|x0) error 11 left", "11 ! error 11", true},
	{"11 (x0|!) ok 01 left", "11 x0 ok 01", true},
	{"11 (x0|!) ok 01 left", "11 x0 error 01", false},
	{"11 (x0|!) error 11 left", "11 ! error 11", false},
	{"11 (!|!) error 11 left", "11 ! error 11", true},
	{"11 (!|x0) error 11 left", "", false},
	{"11 (!|x0) error 11 left", "11 ! error 11, 11 x0 error 11", false},
	{"11 (!|x0) error - left", "11 ! error 11", false},
	{"- (!|x0) error 11 left", "11 ! error 11", false},
	{"11 (!;x0) error 11 left", "11 ! error 11", false},
	{"11 {!} error 11 left", "11 ! error 11", false},
	{"11 ((!|.)|.) error 11 left", "11 ! error 11", false},

	{"11 (x0|!) error 11 right", "11 ! error 11", true},
	{"11 (!|x0) ok 01 right", "11 x0 ok 01", true},
	{"11 (!|.) error 11 right", "11 ! error 11", false},
	{"11 (!|!) error 11 right", "11 ! error 11", true},
	{"11 (x0|!) ok 11 right", "11 ! error 11", false},
	{"11 (x0|!) error 11 right", "", false},
	{"11 (x0|!) error 11 right", "11 x0 error 11, 11 ! error 11", false},
	{"11 (x0|!) error 11,12 right", "11 ! error 11", false},
	{"11,12 (x0|!) error 11 right", "11 ! error 11", false},
	{"11 (x0;!) error 11 right", "11 ! error 11", false},
	{"11 {!} error 11 right", "11 ! error 11", false},
	{"11 (.|(.|!)) error 11 right", "11 ! error 11", false},

	{"00,12 {x+} ok 00,12 zero", "", true},
	{"- {!} ok - zero", "", true},
	{"00,12 {x+} ok 00 zero", "", false},
	{"00 {x+} ok 00,12 zero", "", false},
	{"00 {x+} ok - zero", "", false},
	{"00 {!} error 00 zero", "", false},
	{"00 . ok 00 zero", "", false},
	{"00 (.;.) ok 00 zero", "", false},
	{"00 ({.}|.) ok 00 zero", "", false},
	{"00 {x+} ok 00 zero", "00 {x+} ok 00", false},

	{"00 {x+} ok 10 once", "00 x+ ok 10, 10 {x+} ok 10", true},
	{"00 {(x+|!)} error 10 once", "00 (x+|!) ok 10, 10 {(x+|!)} error 10", true},
	{"00 {x+} ok 21 once", "00 x+ ok 10,11, 10,11 {x+} ok 21", true},
	{"00 {x+} ok 10 once", "10 {x+} ok 10, 00 x+ ok 10", false},
	{"00 {x+} ok 10 once", "00 x+ ok 10", false},
	{"00 {x+} ok 10 once", "", false},
	{"00 {x+} ok 10 once", "00 x+ ok 10, 10 {x+} ok 10, 10 {x+} ok 10", false},
	{"00 {x+} ok 10 once", "00 x+ ok 10, 10 x+ ok 10", false},
	{"00 {x+} ok 10 once", "00 x+ ok 10, 10 {{x+}} ok 10", false},
	{"00 {x+} ok 10 once", "00 {x+} ok 10, 10 {x+} ok 10", false},
	{"00 {{x+}} ok 10 once", "00 x+ ok 10, 10 {{x+}} ok 10", false},
	{"00 {{x+}} ok 10 once", "00 {x+} ok 10, 10 {{x+}} ok 10", true},
	{"00 {x+} ok 10 once", "00 x+ error 10, 10 {x+} ok 10", false},
	{"00 {x+} error 10 once", "00 x+ error 10, 10 {x+} error 10", false},
	{"00 {x+} ok 10 once", "00 x+ ok 10, 10 {x+} error 10", false},
	{"00 {x+} ok 10 once", "00 x+ ok 10,20, 10 {x+} ok 10", false},
	{"00 {x+} ok 10,20 once", "00 x+ ok 10, 10 {x+} ok 10", false},
	{"00,10 {x+} ok 10 once", "00 x+ ok 10, 10 {x+} ok 10", false},
	{"00 (x+;{x+}) ok 10 once", "00 x+ ok 10, 10 {x+} ok 10", false},
	{"00 (x+|.) ok 10 once", "00 x+ ok 10, 10 (x+|.) ok 10", false},

	{"11 {!} error 11 fail", "11 ! error 11", true},
	{"11 {x+} error 21 fail", "11 x+ error 21", true},
	{"11 {!} ok 11 fail", "11 ! ok 11", false},
	{"11 {!} ok 11 fail", "11 ! error 11", false},
	{"11 {!} error 11 fail", "11 ! ok 11", false},
	{"11 {!} error 11 fail", "11 {!} error 11", false},
	{"11 {!} error 11 fail", "", false},
	{"11 {!} error 11 fail", "11 ! error 11, 11 ! error 11", false},
	{"11 {{!}} error 11 fail", "11 ! error 11", false},
	{"11 {!} error - fail", "11 ! error 11", false},
	{"11,12 {!} error 11 fail", "11 ! error 11", false},
	{"11 (!;.) error 11 fail", "11 ! error 11", false},
	{"11 (!|.) error 11 fail", "11 ! error 11", false},

	{"00,10 x+ ok 10,20 both", "00 x+ ok 10, 10 x+ ok 20", true},
	{"00,10 x+ ok 10,20 both", "10 x+ ok 20, 00 x+ ok 10", true},
	{"00 x+ ok 10 both", "00 x+ ok 10, 00 x+ ok 10", true},
	{"00,10,20 x+ ok 10,20 both", "00,10 x+ ok 10, 10,20 x+ ok 10,20", true},
	{"00 (x+|!) ok 10 both", "00 (x+|!) ok 10, - (x+|!) ok -", true},
	{"00,10 {x+} ok 10,20 both", "00 {x+} ok 10, 10 {x+} ok 20", true},
	{"- . ok - both", "- . ok -, - . ok -", true},
	{"00,10 x+ ok 10 both", "00 x+ ok 10, 10 x+ ok 20", false},
	{"00,10 x+ ok 20 both", "00 x+ ok 10, 10 x+ ok 20", false},
	{"00,10 x+ ok 10,20,22 both", "00 x+ ok 10, 10 x+ ok 20", false},
	{"00 x+ ok 10,20 both", "00 x+ ok 10, 10 x+ ok 20", false},
	{"10 x+ ok 10,20 both", "00 x+ ok 10, 10 x+ ok 20", false},
	{"00,10,11 x+ ok 10,20 both", "00 x+ ok 10, 10 x+ ok 20", false},
	{"- x+ ok - both", "00 x+ ok 10, 10 x+ ok 20", false},
	{"10 x+ ok 20 both", "00,10 x+ ok 10,20, 10 x+ ok 20", false},
	{"00,10 x+ ok 10,20 both", "00,10 x+ ok 10,20", false},
	{"00,10 x+ ok 10,20 both", "", false},
	{"00,10 x+ ok 10,20 both", "00 x+ ok 10, 10 x+ ok 20, 10 x+ ok 20", false},
	{"00,10 x+ ok 10,20 both", "00 x+ ok 10, 10 y+ ok 20", false},
	{"00,10 x+ ok 10,20 both", "00 y+ ok 10, 10 x+ ok 20", false},
	{"00,10 x+ ok 10,20 both", "00 y+ ok 10, 10 y+ ok 20", false},
	{"00,10 x+ ok 10,20 both", "00 x+ error 10, 10 x+ ok 20", false},
	{"00,10 x+ ok 10,20 both", "00 x+ ok 10, 10 x+ error 20", false},
	{"00,10 x+ error 10,20 both", "00 x+ ok 10, 10 x+ ok 20", false},

	{"00,01 x? ok 10 less", "00 x? ok 00,10,20", true},
	{"00 x? ok 00,10,20 less", "00 x? ok 00,10,20", true},
	{"00,01 x? ok 00,10,20 less", "00 x? ok 00,10,20", true},
	{"00 x? ok - less", "00 x? ok 00,10,20", true},
	{"00 x? ok - less", "- x? ok -", true},
	{"00,22 {x+} ok 20 less", "00 {x+} ok 10,20", true},
	{"00,10 (x+;!) error 10 less", "00 (x+;!) error 10", true},
	{"00 x+ ok 10,20 less", "00 x+ ok 10", false},
	{"00 x+ ok 20 less", "00 x+ ok 10", false},
	{"00 x+ ok 10 less", "00,10 x+ ok 10,20", false},
	{"10 x+ ok 10 less", "00 x+ ok 10", false},
	{"- x+ ok 10 less", "00 x+ ok 10", false},
	{"00 x+ ok 10 less", "00 x+ error 10", false},
	{"00 x+ error 10 less", "00 x+ ok 10", false},
	{"00 x+ ok 10 less", "00 x1 ok 10", false},
	{"00 (x+|.) ok 10 less", "00 x+ ok 10", false},
	{"00 x+ ok 10 less", "", false},
	{"00 x+ ok 10 less", "00 x+ ok 10, 00 x+ ok 10", false},
	{"00 {{x+}} ok 10 less", "00 {x+} ok 10", false},
}

// checkHolds checks what is told of a line that is to be derived from triples.
func checkHolds(t *testing.T, line impl.Line, from []impl.Triple) {
	t.Helper()
	if got, want := impl.LineHolds(line, from), holdsInText(line, from); got != want {
		t.Errorf("LineHolds(%.200v, %.400v) = %v", line, from, got)
	}
}

// TestP6Fields takes a Line for a struct with just the fields that the document
// names, the first one of which is embedded.
func TestP6Fields(t *testing.T) {
	x := impl.Triple{Before: 64, Program: "x+", Exit: 1, Behind: 8}
	line := impl.Line(struct {
		impl.Triple
		Rule string
		Refs []int
	}{x, "atom", []int{3}})
	if line.Before != 64 || line.Program != "x+" || line.Exit != 1 || line.Behind != 8 || line.Triple != x || line.Rule != "atom" || line.Refs[0] != 3 {
		t.Errorf("Line = %v", line)
	}
	if impl.MaxProof != 120 {
		t.Errorf("MaxProof = %d", impl.MaxProof)
	}
}

func TestP6AllRules(t *testing.T) {
	kept, spoilt := impl.AllRules(), impl.AllRules()
	spoilt = spoilt[:cap(spoilt)]
	for i := range spoilt {
		spoilt[i] = "magic"
	}
	for _, list := range [][]string{kept, impl.AllRules()} {
		if !slices.Equal(list, ruleTexts) {
			t.Errorf("AllRules() = %q, want %q", list, ruleTexts)
		}
	}
	if impl.LineHolds(impl.Line{Triple: impl.Triple{Program: "."}, Rule: "magic"}, nil) {
		t.Error("LineHolds by a rule that there is not")
	}
}

func TestP6Steps(t *testing.T) {
	follows := map[string][2]int{}
	for _, row := range stepRows {
		line, from := linesOf(t, row.line)[0], triplesOf(t, row.from)
		if got := impl.LineHolds(line, from); got != row.holds {
			t.Errorf("LineHolds(%q, %q) = %v", row.line, row.from, got)
		}
		if holdsInText(line, from) != row.holds {
			t.Fatalf("the test takes %q from %q for %v", row.line, row.from, !row.holds)
		}
		count := follows[line.Rule]
		if row.holds {
			count[0]++
		} else {
			count[1]++
		}
		follows[line.Rule] = count
	}
	for _, rule := range ruleTexts {
		if count := follows[rule]; count[0] == 0 || count[1] == 0 {
			t.Errorf("of the steps by %s, %d follow and %d don't", rule, count[0], count[1])
		}
	}
}

// TestP6StepsByOtherRules takes each step by each of the other rules, and by
// words that are no rule.
func TestP6StepsByOtherRules(t *testing.T) {
	for _, row := range stepRows {
		line, from := linesOf(t, row.line)[0], triplesOf(t, row.from)
		for _, rule := range ruleTexts {
			line.Rule = rule
			checkHolds(t, line, from)
		}
		for _, rule := range noRules {
			line.Rule = rule
			if impl.LineHolds(line, from) {
				t.Errorf("LineHolds(%.200v, %v) = true", line, from)
			}
		}
	}
}

// TestP6RefsOfALineDoNotMatter takes each step with references that have
// nothing to do with what it is derived from.
func TestP6RefsOfALineDoNotMatter(t *testing.T) {
	for _, row := range stepRows {
		line, from := linesOf(t, row.line)[0], triplesOf(t, row.from)
		for _, refs := range [][]int{nil, {}, {0}, {0, 1}, {1, 0}, {-1}, {-1, 500, 3}, {math.MaxInt, math.MinInt}, make([]int, 1000)} {
			line.Refs = refs
			if got := impl.LineHolds(line, from); got != row.holds {
				t.Errorf("LineHolds(%.200v, %q) = %v", line, row.from, got)
			}
		}
	}
}

// changedTriples returns triples that are like one but for one field.
func changedTriples(x impl.Triple) []impl.Triple {
	var list []impl.Triple
	add := func(change func(y *impl.Triple)) {
		y := x
		change(&y)
		list = append(list, y)
	}
	for state := range 9 {
		add(func(y *impl.Triple) { y.Before ^= 1 << state })
		add(func(y *impl.Triple) { y.Behind ^= 1 << state })
	}
	for _, set := range []int{0, 1, 511, -1, 512, x.Before, x.Behind} {
		add(func(y *impl.Triple) { y.Before = set })
		add(func(y *impl.Triple) { y.Behind = set })
	}
	for _, exit := range []int{0, 1, 2, -1} {
		add(func(y *impl.Triple) { y.Exit = exit })
	}
	for _, p := range []string{"", "q", ".", "!", "x+", "x0", "(x+;!)", "(!;x+)", "(x+|!)", "{x+}", "{!}", "(" + x.Program + ";.)", "(.|" + x.Program + ")", "{" + x.Program + "}", x.Program + " "} {
		add(func(y *impl.Triple) { y.Program = p })
	}
	return list
}

// TestP6ChangedSteps changes each step in one place: a field of its triple or
// of one from which it is derived, one more or one less of these, or their order.
func TestP6ChangedSteps(t *testing.T) {
	for _, row := range stepRows {
		line, from := linesOf(t, row.line)[0], triplesOf(t, row.from)
		for _, x := range changedTriples(line.Triple) {
			checkHolds(t, impl.Line{Triple: x, Rule: line.Rule}, from)
		}
		for i := range from {
			for _, x := range changedTriples(from[i]) {
				changed := slices.Clone(from)
				changed[i] = x
				checkHolds(t, line, changed)
			}
			checkHolds(t, line, slices.Delete(slices.Clone(from), i, i+1))
			checkHolds(t, line, append(slices.Clone(from), from[i]))
			checkHolds(t, line, append([]impl.Triple{from[i]}, from...))
		}
		back := slices.Clone(from)
		slices.Reverse(back)
		checkHolds(t, line, back)
		checkHolds(t, line, append(slices.Clone(from), line.Triple))
	}
}

// TestP6StepsFromOne takes each rule with all triples of some sets and programs
// from none and from one of the others.
func TestP6StepsFromOne(t *testing.T) {
	var list []impl.Triple
	for _, p := range []string{".", "!", "x+", "(!;x+)", "(x+;!)", "(x+|!)", "(!|!)", "{x+}", "{!}", "{(x+|!)}"} {
		for _, sets := range [][2]int{{0, 0}, {1, 0}, {1, 1}, {1, 8}, {9, 8}, {9, 72}} {
			for exit := range 2 {
				list = append(list, impl.Triple{Before: sets[0], Program: p, Exit: exit, Behind: sets[1]})
			}
		}
	}
	for _, x := range list {
		for _, rule := range ruleTexts {
			line := impl.Line{Triple: x, Rule: rule}
			checkHolds(t, line, nil)
			if rule == "seq" || rule == "once" || rule == "both" {
				continue
			}
			for _, y := range list {
				if got, want := impl.LineHolds(line, []impl.Triple{y}), followsInText(rule, x, []impl.Triple{y}); got != want {
					t.Errorf("LineHolds(%q by %s, %q) = %v", tripleText(x), rule, tripleText(y), got)
				}
			}
		}
	}
}

// TestP6StepsOfInvalidTriples has a triple that is not valid derived from valid
// ones, the other way round, and from itself, with all else as it has to be.
func TestP6StepsOfInvalidTriples(t *testing.T) {
	valid := impl.Triple{Before: 1, Program: "x+", Behind: 8}
	for _, x := range noTriples() {
		for _, rule := range ruleTexts {
			for _, from := range [][]impl.Triple{nil, {x}, {x, x}, {valid}, {valid, valid}} {
				if impl.LineHolds(impl.Line{Triple: x, Rule: rule}, from) {
					t.Errorf("LineHolds(%.60v by %s, %.120v) = true", x, rule, from)
				}
			}
			for _, from := range [][]impl.Triple{{x}, {x, x}, {valid, x}, {x, valid}} {
				if impl.LineHolds(impl.Line{Triple: valid, Rule: rule}, from) {
					t.Errorf("LineHolds(%v by %s, %.120v) = true", valid, rule, from)
				}
			}
		}
	}
}

// TestP6StepsThroughNoSet has two triples meet in what is no set, which the line
// that is derived from them does not have.
func TestP6StepsThroughNoSet(t *testing.T) {
	check := func(between int, holds bool) {
		first := impl.Triple{Before: 1, Program: "x+", Behind: between}
		for _, c := range []struct{ rule, p, rest string }{{"seq", "(x+;x+)", "x+"}, {"once", "{x+}", "{x+}"}} {
			line := impl.Line{Triple: impl.Triple{Before: 1, Program: c.p, Behind: 64}, Rule: c.rule}
			rest := impl.Triple{Before: between, Program: c.rest, Behind: 64}
			if got := impl.LineHolds(line, []impl.Triple{first, rest}); got != holds {
				t.Errorf("LineHolds by %s through %d = %v", c.rule, between, got)
			}
		}
	}
	for set := range 512 {
		check(set, true)
	}
	for _, set := range noSets {
		check(set, false)
	}
}

// TestP6StepsPastTheLimits has programs that are too long, or have too many
// loops, derived from such that are not.
func TestP6StepsPastTheLimits(t *testing.T) {
	long, loops := programOfBytes(57), loopsOf(6, "!")
	of := func(p string, exit int) impl.Triple { return impl.Triple{Program: p, Exit: exit} }
	for _, c := range []struct {
		rule, p string
		exit    int
		from    []impl.Triple
		holds   bool
	}{
		{"seq", "(.;" + programOfBytes(56) + ")", 0, []impl.Triple{of(".", 0), of(programOfBytes(56), 0)}, true},
		{"seq", "(.;" + long + ")", 0, []impl.Triple{of(".", 0), of(long, 0)}, false},
		{"stop", "(" + long + ";.)", 1, []impl.Triple{of(long, 1)}, false},
		{"left", "(" + long + "|.)", 0, []impl.Triple{of(long, 0)}, false},
		{"right", "(.|" + long + ")", 0, []impl.Triple{of(long, 0)}, false},
		{"fail", "{" + programOfBytes(58) + "}", 1, []impl.Triple{of(programOfBytes(58), 1)}, true},
		{"fail", "{" + programOfBytes(59) + "}", 1, []impl.Triple{of(programOfBytes(59), 1)}, false},
		{"fail", loops, 1, []impl.Triple{of(loopsOf(5, "!"), 1)}, true},
		{"fail", "{" + loops + "}", 1, []impl.Triple{of(loops, 1)}, false},
		{"zero", loops, 0, nil, true},
		{"zero", "{" + loops + "}", 0, nil, false},
		{"none", "{" + loops + "}", 0, nil, false},
		{"once", loops, 1, []impl.Triple{of(loopsOf(5, "!"), 0), of(loops, 1)}, true},
		{"once", "{" + loops + "}", 1, []impl.Triple{of(loops, 0), of("{"+loops+"}", 1)}, false},
		{"less", programOfBytes(60), 1, []impl.Triple{of(programOfBytes(60), 1)}, true},
		{"less", programOfBytes(61), 1, []impl.Triple{of(programOfBytes(61), 1)}, false},
	} {
		if got := impl.LineHolds(impl.Line{Triple: of(c.p, c.exit), Rule: c.rule}, c.from); got != c.holds {
			t.Errorf("LineHolds(%q by %s) = %v", c.p, c.rule, got)
		}
	}
}

// TestP6ManyTriples has lines derived from far too many triples.
func TestP6ManyTriples(t *testing.T) {
	x := impl.Triple{Before: 1, Program: "x+", Behind: 8}
	many := slices.Repeat([]impl.Triple{x}, 200000)
	for _, rule := range ruleTexts {
		if impl.LineHolds(impl.Line{Triple: x, Rule: rule}, many) {
			t.Errorf("LineHolds by %s from many triples = true", rule)
		}
	}
	proof := []impl.Line{{Triple: x, Rule: "atom"}, {Triple: x, Rule: "both", Refs: make([]int, 200000)}}
	if got := impl.CheckProof(proof); got != 1 {
		t.Errorf("CheckProof with many references = %d", got)
	}
}

// rightProofs are texts of proofs that are right.
var rightProofs = []string{
	"20 x+ ok 00 atom",
	"20 x+ ok 00 atom\n00 [x=0] ok 00 atom\n00 ! error 00 atom\n00 ([x=0];!) error 00 seq 1 2\n20 (x+;([x=0];!)) error 00 seq 0 3",
	"10,20 x+ ok 00,20 atom\n00,20 [x=0] ok 00 atom\n00 ! error 00 atom\n00,20 ([x=0];!) error 00 seq 1 2\n10,20 (x+;([x=0];!)) error 00 seq 0 3",
	"00,01,02,10,11,12,20,21,22 x1 ok 10,11,12 atom\n10,11,12 ! error 10,11,12 atom\n00,01,02,10,11,12,20,21,22 (x1;!) error 10,11,12 seq 0 1",
	"00 {x+} ok 00 zero\n00 x+ ok 10 atom\n10 {x+} ok 10 zero\n00 {x+} ok 10 once 1 2\n00 {x+} ok 00,10 both 0 3",
	"00 x? ok 00,10,20 atom\n00,01 x? ok 10 less 0",
	"00 x? ok - none",
	"11 ! error 11 atom\n11 (!;x0) error 11 stop 0",
	"11 ! error 11 atom\n11 (!|.) error 11 left 0\n11 (.|(!|.)) error 11 right 1\n11 {(.|(!|.))} error 11 fail 2",
	"00 . ok 00 atom\n00 . ok 00 both 0 0\n00 . ok 00 less 1\n00 (.;.) ok 00 seq 2 0\n00 (.;.) ok 00 seq 0 0\n00 (.|.) ok 00 left 1\n00 (.|.) ok 00 right 1",
	"00 . ok 00 atom\n00 {.} ok 00 zero\n00 {.} ok 00 once 0 1\n00 {.} ok 00 once 0 2\n00 {.} ok 00 both 3 1",
	"- ! error - none\n- ! error - atom\n11 ! error - less 1\n11 {!} error - fail 2",
	"11 ! error 11 atom\n00 . ok 00 atom\n11 (!|.) error 11 left 0",
}

func TestP6RightProofs(t *testing.T) {
	for _, text := range rightProofs {
		proof := linesOf(t, text)
		if got := impl.CheckProof(proof); got != -1 {
			t.Errorf("CheckProof(%q) = %d", text, got)
		}
		last := proof[len(proof)-1].Triple
		if !impl.Proves(proof, last) {
			t.Errorf("Proves(%q, %q) = false", text, tripleText(last))
		}
		for _, line := range proof {
			if !impl.IsSure(line.Triple) || withoutStates(line.Behind, reachedBySteps(rowsBySteps(line.Program), line.Before, line.Exit)) != 0 {
				t.Errorf("%q is derived and not sure", tripleText(line.Triple))
			}
			if got := impl.Proves(proof, line.Triple); got != (line.Triple == last) {
				t.Errorf("Proves(%q, %q) = %v", text, tripleText(line.Triple), got)
			}
		}
		for _, x := range append(changedTriples(last), noTriples()...) {
			if got := impl.Proves(proof, x); got != (x == last) {
				t.Errorf("Proves(%q, %.100v) = %v", text, x, got)
			}
		}
	}
}

func TestP6EmptyProof(t *testing.T) {
	for _, proof := range [][]impl.Line{nil, {}} {
		if got := impl.CheckProof(proof); got != -1 {
			t.Errorf("CheckProof of no lines = %d", got)
		}
		if impl.Proves(proof, impl.Triple{}) || impl.Proves(proof, impl.Triple{Program: "."}) {
			t.Error("Proves of no lines = true")
		}
		if got := impl.FormatProof(proof); got != "" {
			t.Errorf("FormatProof of no lines = %q", got)
		}
		if list, ok := impl.RulesUsed(proof); !slices.Equal(list, make([]int, 11)) || !ok {
			t.Errorf("RulesUsed of no lines = %v, %v", list, ok)
		}
		if short, ok := impl.NeededLines(proof); len(short) != 0 || !ok {
			t.Errorf("NeededLines of no lines = %v, %v", short, ok)
		}
	}
	if proof, ok := impl.ParseProof(""); len(proof) != 0 || !ok {
		t.Errorf("ParseProof of the empty text = %v, %v", proof, ok)
	}
}

// TestP6Faults takes proofs whose first fault is told.
func TestP6Faults(t *testing.T) {
	for text, want := range map[string]int{
		"00 x? ok 10 atom":                                                                0,
		"00 x+ ok 10 none":                                                                0,
		"00 . ok 00 zero":                                                                 0,
		"00 x+ ok 10 atom\n00 x+ ok 20 atom":                                              1,
		"00 x+ ok 20 atom\n00 x+ ok 10 atom":                                              0,
		"00 x+ ok 20 atom\n00 x+ ok 20 atom":                                              0,
		"00 x+ ok 20 atom\n00 x+ ok 20 less 0":                                            0,
		"00 x+ ok 10 atom\n00 x+ ok 10,20 less 0":                                         1,
		"00,10 x+ ok 10,20 atom\n00 x+ ok 10 less 0":                                      1,
		"11 ! error 11 atom\n11 (!|.) error 11 right 0":                                   1,
		"00 x+ ok 10 atom\n00 x+ ok 10 both 0":                                            1,
		"00 x+ ok 10 atom\n00 x+ ok 10 both 0 0 0":                                        1,
		"00 x+ ok 10 atom\n00 x+ ok 10 atom 0":                                            1,
		"00 x+ ok 10 atom\n00 x+ ok - none 0":                                             1,
		"00 x+ ok 10 atom\n00 x+ ok 10 less":                                              1,
		"00 x+ ok 10 atom\n00 x+ ok 10 less 0 0":                                          1,
		"00 x+ ok 10 atom\n10 ! error 10 atom\n00 (x+;!) error 10 seq":                    2,
		"00 x+ ok 10 atom\n10 ! error 10 atom\n00 (x+;!) error 10 seq 0":                  2,
		"00 x+ ok 10 atom\n10 ! error 10 atom\n00 (x+;!) error 10 seq 1":                  2,
		"00 x+ ok 10 atom\n10 ! error 10 atom\n00 (x+;!) error 10 seq 1 0":                2,
		"00 x+ ok 10 atom\n10 ! error 10 atom\n00 (x+;!) error 10 seq 0 0":                2,
		"00 x+ ok 10 atom\n10 ! error 10 atom\n00 (x+;!) error 10 seq 0 1 1":              2,
		"00 x+ ok 10 atom\n10 ! error 10 atom\n00 (x+;!) error 10 seq 0 1":                -1,
		"11 ! error 11 atom\n11 (!;.) error 11 stop":                                      1,
		"11 ! error 11 atom\n11 (!;.) error 11 stop 0 0":                                  1,
		"11 ! error 11 atom\n11 {!} error 11 fail":                                        1,
		"11 ! error 11 atom\n11 {!} error 11 fail 0 0":                                    1,
		"11 ! error 11 atom\n11 (!|.) error 11 left":                                      1,
		"11 ! error 11 atom\n11 (!|.) error 11 left 0 0":                                  1,
		"11 ! error 11 atom\n11 (.|!) error 11 right":                                     1,
		"11 ! error 11 atom\n11 (.|!) error 11 right 0 0":                                 1,
		"11 ! error 11 atom\n11 {!} ok 11 zero 0":                                         1,
		"00 . ok 00 atom\n00 {.} ok 00 zero\n00 {.} ok 00 once":                           2,
		"00 . ok 00 atom\n00 {.} ok 00 zero\n00 {.} ok 00 once 1":                         2,
		"00 . ok 00 atom\n00 {.} ok 00 zero\n00 {.} ok 00 once 1 0":                       2,
		"00 . ok 00 atom\n00 {.} ok 00 zero\n00 {.} ok 00 once 0 1 1":                     2,
		"00 x+ ok 20 atom\n00 . ok 00 atom\n00 . ok 00 less 1":                            0,
		"00 . ok 00 atom\n00 x+ ok 20 atom\n00 . ok 00 less 0":                            1,
		"00 . ok 00 atom\n00 . ok 00 less 0\n00 . ok 11 less 0\n00 . ok 00 less 1":        2,
		"00 x+ ok 10 atom\n00 x+ ok 10 less 0\n00 x+ ok 10 less 1\n00 x+ ok 10 less 2":    -1,
		"00 x+ ok 10 atom\n00 x+ ok 10 less 0\n00 x+ ok 10 less 1\n00 x+ ok 10,11 less 2": 3,
	} {
		proof := linesOf(t, text)
		if got := impl.CheckProof(proof); got != want {
			t.Errorf("CheckProof(%q) = %d, want %d", text, got, want)
		}
		last := proof[len(proof)-1].Triple
		if got := impl.Proves(proof, last); got != (want == -1) {
			t.Errorf("Proves(%q, %q) = %v", text, tripleText(last), got)
		}
		if got := impl.FormatProof(proof); got != text {
			t.Errorf("FormatProof of %q = %q", text, got)
		}
		if short, ok := impl.NeededLines(proof); want != -1 && (len(short) != 0 || ok) {
			t.Errorf("NeededLines(%q) = %v, %v", text, short, ok)
		}
	}
}

// checkFault checks a proof that has a fault at a line which has no text.
func checkFault(t *testing.T, proof []impl.Line, want int) {
	t.Helper()
	if got := impl.CheckProof(proof); got != want {
		t.Errorf("CheckProof(%.200v) = %d, want %d", proof, got, want)
	}
	if impl.Proves(proof, proof[len(proof)-1].Triple) {
		t.Errorf("Proves(%.200v) = true", proof)
	}
	if got := impl.FormatProof(proof); got != "" {
		t.Errorf("FormatProof(%.200v) = %.100q", proof, got)
	}
	if short, ok := impl.NeededLines(proof); len(short) != 0 || ok {
		t.Errorf("NeededLines(%.200v) = %v, %v", proof, short, ok)
	}
}

// TestP6References has lines refer to themselves, to later lines, and to none,
// all of which have the triple from which they would follow.
func TestP6References(t *testing.T) {
	x := impl.Triple{Before: 1, Program: ".", Behind: 1}
	for lines := 1; lines <= 4; lines++ {
		for at := range lines {
			proof := make([]impl.Line, lines)
			for i := range proof {
				proof[i] = impl.Line{Triple: x, Rule: "atom"}
			}
			for _, ref := range []int{at, at + 1, lines - 1, lines, lines + 1, 119, 120, 121, -1, -2, -lines, math.MaxInt, math.MinInt, 1 << 32, -1 << 32} {
				if ref >= 0 && ref < at {
					continue
				}
				proof[at] = impl.Line{Triple: x, Rule: "less", Refs: []int{ref}}
				checkFault(t, proof, at)
				proof[at] = impl.Line{Triple: x, Rule: "both", Refs: []int{ref, ref}}
				checkFault(t, proof, at)
				proof[at] = impl.Line{Triple: x, Rule: "atom", Refs: []int{ref}}
				checkFault(t, proof, at)
				if at > 0 {
					proof[at] = impl.Line{Triple: x, Rule: "both", Refs: []int{0, ref}}
					checkFault(t, proof, at)
					proof[at] = impl.Line{Triple: x, Rule: "both", Refs: []int{ref, 0}}
					checkFault(t, proof, at)
				}
			}
		}
	}
}

// TestP6InvalidLines puts lines with a triple that is not valid, and with rules
// that there are not, at the begin, between right ones, and at the end.
func TestP6InvalidLines(t *testing.T) {
	check := func(line impl.Line) {
		for at := range 3 {
			proof := linesOf(t, "00 . ok 00 atom\n00 x+ ok 10 atom\n00 . ok 00 atom")
			proof[at] = line
			checkFault(t, proof, at)
		}
	}
	for i, x := range noTriples() {
		check(impl.Line{Triple: x, Rule: ruleTexts[i%11]})
		check(impl.Line{Triple: x, Rule: "none"})
	}
	for _, rule := range noRules {
		check(impl.Line{Triple: impl.Triple{Before: 1, Program: "x+", Behind: 8}, Rule: rule})
		check(impl.Line{Triple: impl.Triple{Program: "."}, Rule: rule})
	}
	check(impl.Line{})
}

// chainOf returns a proof of as many lines, each but the first one derived from
// the one before it.
func chainOf(lines int) []impl.Line {
	x := impl.Triple{Before: 1, Program: "x+", Behind: 8}
	proof := []impl.Line{{Triple: x, Rule: "atom"}}
	for i := 1; i < lines; i++ {
		proof = append(proof, impl.Line{Triple: x, Rule: "less", Refs: []int{i - 1}})
	}
	return proof
}

func TestP6Lengths(t *testing.T) {
	for _, lines := range []int{1, 2, 9, 10, 11, 99, 100, 101, 119, 120} {
		proof := chainOf(lines)
		if got := impl.CheckProof(proof); got != -1 || !impl.Proves(proof, proof[0].Triple) {
			t.Errorf("CheckProof of %d lines = %d", lines, got)
		}
		text := impl.FormatProof(proof)
		if strings.Count(text, "\n") != lines-1 || text != proofText(proof) {
			t.Errorf("FormatProof of %d lines = %.100q", lines, text)
		}
		if got, ok := impl.ParseProof(text); !sameProof(got, proof) || !ok {
			t.Errorf("ParseProof of %d lines = %.100v, %v", lines, got, ok)
		}
		if short, ok := impl.NeededLines(proof); !sameProof(short, proof) || !ok {
			t.Errorf("NeededLines of %d lines = %.100v, %v", lines, short, ok)
		}
	}
	row := "\n00 x+ ok 10 atom"
	for _, lines := range []int{121, 122, 240, 1000, 100000} {
		proof := chainOf(lines)
		checkFault(t, proof, 120)
		proof[119].Behind = 9
		checkFault(t, proof, 119)
		proof[0].Rule = "none"
		checkFault(t, proof, 0)
		text := strings.Repeat(row, lines)[1:]
		if got, ok := impl.ParseProof(text); len(got) != 0 || ok {
			t.Errorf("ParseProof of %d lines = %.100v, %v", lines, got, ok)
		}
	}
	if got, ok := impl.ParseProof(strings.Repeat(row, 120)[1:]); len(got) != 120 || !ok {
		t.Errorf("ParseProof of 120 lines = %d, %v", len(got), ok)
	}
	wrong := chainOf(121)
	wrong[120].Rule = "none"
	checkFault(t, wrong, 120)
}

// TestP6TextsOfLines formats and parses lines that need not be right: each rule
// with as many references as one likes, and of all triples.
func TestP6TextsOfLines(t *testing.T) {
	check := func(proof []impl.Line) {
		text := proofText(proof)
		if got := impl.FormatProof(proof); got != text || text == "" {
			t.Errorf("FormatProof(%.100v) = %.100q, want %.100q", proof, got, text)
		}
		if got, ok := impl.ParseProof(text); !sameProof(got, proof) || !ok {
			t.Errorf("ParseProof(%.100q) = %.100v, %v", text, got, ok)
		}
	}
	first := impl.Line{Triple: impl.Triple{Before: 1, Program: ".", Behind: 300}, Rule: "none"}
	for i, row := range programRows() {
		x := impl.Triple{Before: i % 512, Program: row.text, Exit: i % 2, Behind: i * 7 % 512}
		check([]impl.Line{{Triple: x, Rule: ruleTexts[i%11]}, {Triple: x, Rule: ruleTexts[i*5%11], Refs: make([]int, i%5)}})
	}
	for _, rule := range ruleTexts {
		for refs := range 12 {
			line := impl.Line{Triple: first.Triple, Rule: rule}
			for i := range refs {
				line.Refs = append(line.Refs, i*7%3)
			}
			check([]impl.Line{first, first, first, line})
		}
	}
	many := slices.Repeat([]impl.Line{first}, 120)
	for i := range 119 {
		many[119].Refs = append(many[119].Refs, i)
	}
	check(many)
	check([]impl.Line{first, {Triple: first.Triple, Rule: "less", Refs: make([]int, 100000)}})
}

// checkNoProofText checks that a text is that of no proof.
func checkNoProofText(t *testing.T, text string) {
	t.Helper()
	if proof, ok := impl.ParseProof(text); len(proof) != 0 || ok {
		t.Errorf("ParseProof(%.100q) = %.200v, %v", text, proof, ok)
	}
}

func TestP6TextsOfNoProof(t *testing.T) {
	const a, b = "00 x+ ok 10 atom", "00 x+ ok 10 less 0"
	for _, text := range []string{
		" ", "\n", "\n\n", "\x00", "-", "atom", "atom 0", "0", "less 0", "00", "00 x+", "00 x+ ok", "00 x+ ok 10", "00 x+ ok 10 ", "x+ ok 10 atom", "00 ok 10 atom", "00 x+ 10 atom", "00 x+ ok atom",
		"00 x+ ok 10 0", "00 x+ ok 10 0 atom", "00 x+ ok 10 atom x", "00 x+ ok 10 atom atom", "00 x+ ok 10 atom none", "00 x+ ok 10 atom -", "00 x+ ok 10 atom 00", "00 x+ ok 10 atom,less", "00 x+ ok 10atom", "00 x+ ok 10 10 atom", "atom 00 x+ ok 10", "00 atom x+ ok 10",
		a + " ", " " + a, "  " + a, a + "  ", "00  x+ ok 10 atom", "00 x+  ok 10 atom", "00 x+ ok  10 atom", "00 x+ ok 10  atom", a + "\n" + b + " ", a + "\n00 x+ ok 10 less  0", a + "\n00 x+ ok 10 both 0  0", a + "\n00 x+ ok 10 both  0 0", a + "\n " + b, a + " \n" + b,
		a + "\n", "\n" + a, a + "\n\n" + b, a + "\n" + b + "\n", "\n" + a + "\n" + b, a + "\r\n" + b, a + "\r", a + "\n\r" + b, a + "\n \n" + b, a + "\n\x00", a + "\x00", a + ";" + b, a + "," + b, a + " " + b, a + "\t", "00\tx+\tok\t10\tatom", a + "\v" + b, a + "\u2028" + b,
		a + " 0", a + " 1", a + " -1", a + " 119", b, "00 x+ ok 10 less 1", a + "\n00 x+ ok 10 less 1", a + "\n00 x+ ok 10 less 2", a + "\n00 x+ ok 10 less -1", a + "\n00 x+ ok 10 less 119", a + "\n00 x+ ok 10 less 120", a + "\n00 x+ ok 10 both 0 1", a + "\n00 x+ ok 10 both 1 0", "00 x+ ok 10 less 1\n" + a, a + "\n" + a + "\n00 x+ ok 10 both 0 2",
		a + "\n00 x+ ok 10 less 00", a + "\n00 x+ ok 10 less 000", a + "\n00 x+ ok 10 less +0", a + "\n00 x+ ok 10 less -0", a + "\n00 x+ ok 10 less 0.", a + "\n00 x+ ok 10 less .0", a + "\n00 x+ ok 10 less 0.0", a + "\n00 x+ ok 10 less 0x0", a + "\n00 x+ ok 10 less 0_0", a + "\n00 x+ ok 10 less 0b0", a + "\n00 x+ ok 10 less 0e0", a + "\n00 x+ ok 10 less 0,0", a + "\n00 x+ ok 10 less \u0660", a + "\n00 x+ ok 10 less \uff10", a + "\n00 x+ ok 10 less 0\x00", a + "\n00 x+ ok 10 less a", a + "\n00 x+ ok 10 less one",
		a + "\n" + a + "\n00 x+ ok 10 less 01", a + "\n" + a + "\n00 x+ ok 10 less +1", a + "\n" + a + "\n00 x+ ok 10 less 1 01", a + "\n" + a + "\n00 x+ ok 10 less 01 1", a + "\n" + a + "\n00 x+ ok 10 less 1e0", a + "\n" + a + "\n00 x+ ok 10 less 0x1",
		a + "\n00 x+ ok 10 less 4294967296", a + "\n00 x+ ok 10 less 18446744073709551616", a + "\n00 x+ ok 10 less -18446744073709551616", a + "\n00 x+ ok 10 less 9223372036854775808", a + "\n00 x+ ok 10 less " + strings.Repeat("0", 100000), a + "\n00 x+ ok 10 less " + strings.Repeat("9", 100000), a + "\n00 x+ ok 10 less " + strings.Repeat("1", 100000),
		"00 q ok 10 atom", "00 x+ fine 10 atom", "03 x+ ok 10 atom", "00 x+ ok 13 atom", "10,00 x+ ok 10 atom", "00 x+ ok 10,10 atom", "00 x+ Ok 10 atom", "1 x+ 0 8 atom", "00 " + programOfBytes(61) + " ok 10 atom", "00 " + loopsOf(7, ".") + " ok 00 zero", a + "\n00 q ok 10 atom", "00 q ok 10 atom\n" + a,
		strings.Repeat(" ", 1000000), strings.Repeat("\n", 1000000), strings.Repeat(a+"\n", 1000), a + strings.Repeat(" 0", 100000), a + strings.Repeat(" ", 1000000), a + strings.Repeat("\n", 1000000), strings.Repeat("00 x+ ok 10 atom ", 100000),
	} {
		checkNoProofText(t, text)
	}
	for _, rule := range noRules {
		checkNoProofText(t, "00 x+ ok 10 "+rule)
		checkNoProofText(t, a+"\n00 x+ ok 10 "+rule)
		checkNoProofText(t, "00 x+ ok 10 "+rule+"\n"+a)
		checkNoProofText(t, a+"\n00 x+ ok 10 "+rule+" 0")
	}
	for _, p := range noPrograms {
		checkNoProofText(t, "00 "+p+" ok 00 none")
	}
}

// TestP6ChangedTexts changes texts of proofs in one place, in each of some ways.
// What comes out is the text of a proof, or must be refused.
func TestP6ChangedTexts(t *testing.T) {
	sets := setsByText()
	check := func(text string) {
		want, is := proofOfText(text, sets)
		got, ok := impl.ParseProof(text)
		if !sameProof(got, want) || ok != is {
			t.Errorf("ParseProof(%q) = %v, %v, want %v, %v", text, got, ok, want, is)
		}
		if ok && impl.FormatProof(got) != text {
			t.Errorf("FormatProof(%v) = %q, want %q", got, impl.FormatProof(got), text)
		}
	}
	for _, text := range []string{"20 x+ ok 00 atom", "20 x+ ok 00 atom\n20 x+ ok 00 both 0 0", "- . ok - none\n- . ok - less 0\n- (.;.) ok - seq 1 0\n- {.} ok - zero"} {
		checkChangedTexts(check, text, "  ", "\n\n", " 0", " 1", " 00", "0 ", "\n20 x+ ok 00 atom", "20 x+ ok 00 less 1\n", " less", "less 0", " -", " 18446744073709551616")
	}
}

func TestP6RulesUsed(t *testing.T) {
	for text, want := range map[string][]int{
		rightProofs[1]:                      {3, 0, 2, 0, 0, 0, 0, 0, 0, 0, 0},
		rightProofs[4]:                      {1, 0, 0, 0, 0, 0, 2, 1, 0, 1, 0},
		rightProofs[8]:                      {1, 0, 0, 0, 1, 1, 0, 0, 1, 0, 0},
		rightProofs[9]:                      {1, 0, 2, 0, 1, 1, 0, 0, 0, 1, 1},
		rightProofs[11]:                     {1, 1, 0, 0, 0, 0, 0, 0, 1, 0, 1},
		"00 x+ ok 20 stop":                  {0, 0, 0, 1, 0, 0, 0, 0, 0, 0, 0},
		"00 x+ ok 20 once\n00 . ok 00 once": {0, 0, 0, 0, 0, 0, 0, 2, 0, 0, 0},
	} {
		if list, ok := impl.RulesUsed(linesOf(t, text)); !slices.Equal(list, want) || !ok {
			t.Errorf("RulesUsed(%q) = %v, %v, want %v", text, list, ok, want)
		}
	}
	for i, rule := range ruleTexts {
		want := make([]int, 11)
		want[i] = 2
		list, ok := impl.RulesUsed([]impl.Line{{Rule: rule, Refs: []int{-1, 5}}, {Triple: impl.Triple{Before: -1, Program: "q"}, Rule: rule}})
		if !slices.Equal(list, want) || !ok {
			t.Errorf("RulesUsed of lines that are not valid = %v, %v", list, ok)
		}
	}
	for _, rule := range noRules {
		for at := range 3 {
			proof := chainOf(3)
			proof[at].Rule = rule
			if list, ok := impl.RulesUsed(proof); len(list) != 0 || ok {
				t.Errorf("RulesUsed with the rule %.40q = %v, %v", rule, list, ok)
			}
		}
	}
}

// TestP6RulesUsedOfManyLines counts lines of which there are too many for a
// proof: the document has no other reason not to than a rule that is none.
func TestP6RulesUsedOfManyLines(t *testing.T) {
	for _, lines := range []int{120, 121, 1000} {
		if list, ok := impl.RulesUsed(chainOf(lines)); !slices.Equal(list, []int{1, 0, 0, 0, 0, 0, 0, 0, 0, 0, lines - 1}) || !ok {
			t.Errorf("RulesUsed of %d lines = %v, %v", lines, list, ok)
		}
	}
}

func TestP6NeededLines(t *testing.T) {
	for text, want := range map[string]string{
		"20 x+ ok 00 atom": "20 x+ ok 00 atom",
		"11 ! error 11 atom\n00 . ok 00 atom\n11 (!|.) error 11 left 0":                                                           "11 ! error 11 atom\n11 (!|.) error 11 left 0",
		"00 . ok 00 atom\n11 ! error 11 atom\n11 (!|.) error 11 left 1":                                                           "11 ! error 11 atom\n11 (!|.) error 11 left 0",
		"00 . ok 00 atom\n00 . ok 00 less 0\n11 . ok 11 atom":                                                                     "11 . ok 11 atom",
		"00 . ok 00 atom\n00 . ok 00 atom":                                                                                        "00 . ok 00 atom",
		"00 . ok 00 atom\n00 . ok 00 atom\n00 . ok 00 both 1 1":                                                                   "00 . ok 00 atom\n00 . ok 00 both 0 0",
		"00 . ok 00 atom\n00 . ok 00 atom\n00 . ok 00 both 0 1":                                                                   "00 . ok 00 atom\n00 . ok 00 atom\n00 . ok 00 both 0 1",
		"00 . ok 00 atom\n00 . ok 00 atom\n00 . ok 00 both 1 0":                                                                   "00 . ok 00 atom\n00 . ok 00 atom\n00 . ok 00 both 1 0",
		"00 . ok 00 atom\n11 . ok 11 atom\n00 . ok 00 atom\n11 . ok 11 atom\n00,11 . ok 00,11 both 3 0":                           "00 . ok 00 atom\n11 . ok 11 atom\n00,11 . ok 00,11 both 1 0",
		"00 . ok 00 atom\n00 . ok 00 less 0\n00 . ok 00 less 1\n00 . ok 00 less 0\n00 . ok 00 less 3":                             "00 . ok 00 atom\n00 . ok 00 less 0\n00 . ok 00 less 1",
		"11 . ok 11 atom\n20 x+ ok 00 atom\n11 . ok 11 less 0\n00 ! error 00 atom\n00 ! error - none\n20 (x+;!) error 00 seq 1 3": "20 x+ ok 00 atom\n00 ! error 00 atom\n20 (x+;!) error 00 seq 0 1",
		rightProofs[1]: rightProofs[1],
		rightProofs[4]: rightProofs[4],
		rightProofs[9]: "00 . ok 00 atom\n00 . ok 00 both 0 0\n00 (.|.) ok 00 right 1",
	} {
		proof := linesOf(t, text)
		short, ok := impl.NeededLines(proof)
		if !sameProof(short, linesOf(t, want)) || impl.FormatProof(short) != want || !ok {
			t.Errorf("NeededLines(%q) = %v, %v, want %q", text, short, ok, want)
		}
		if again, ok := impl.NeededLines(short); !sameProof(again, short) || !ok {
			t.Errorf("NeededLines of needed lines %q = %v, %v", want, again, ok)
		}
	}
}

// TestP6NeededLinesOfManyLines leaves out lines of a proof that is as long as it
// may be, among them all but the last one, and every second one.
func TestP6NeededLinesOfManyLines(t *testing.T) {
	alone := chainOf(120)
	alone[119] = impl.Line{Triple: alone[0].Triple, Rule: "atom"}
	if short, ok := impl.NeededLines(alone); !sameProof(short, chainOf(1)) || !ok {
		t.Errorf("NeededLines = %.200v, %v", short, ok)
	}
	for step := 1; step <= 7; step++ {
		proof := chainOf(120)
		for i := range proof {
			proof[i] = impl.Line{Triple: proof[i].Triple, Rule: "less", Refs: []int{i - step}}
			if i < step {
				proof[i].Rule, proof[i].Refs = "atom", nil
			}
		}
		want := chainOf(119/step + 1)
		if short, ok := impl.NeededLines(proof); !sameProof(short, want) || !sameProof(short, neededInText(proof)) || !ok {
			t.Errorf("NeededLines of each %dth line = %.200v, %v", step, short, ok)
		}
	}
}

// A proofMaker makes proofs that are drawn, with lines by all rules.
type proofMaker struct {
	draw  *rand.Rand
	lines []impl.Line
}

// add adds a line if its program is not too long and has not too many loops.
func (m *proofMaker) add(before int, p string, exit int, behind int, rule string, refs ...int) {
	if isProgram(p) {
		m.lines = append(m.lines, impl.Line{Triple: impl.Triple{Before: before, Program: p, Exit: exit, Behind: behind}, Rule: rule, Refs: refs})
	}
}

// addBase adds a line that is derived from none.
func (m *proofMaker) addBase() {
	atoms := []string{".", "!", "x+", "y+", "x?", "xy", "yx", "y0", "[x=0]", "[x<2]", "[x#y]", "[y<x]"}
	p, from, exit := atoms[m.draw.Intn(len(atoms))], m.draw.Intn(512)&m.draw.Intn(512), m.draw.Intn(2)
	switch m.draw.Intn(8) {
	case 0:
		m.add(from, drawnProgram(m.draw, 2), exit, 0, "none")
	case 1:
		m.add(from, "{"+drawnProgram(m.draw, 2)+"}", 0, from, "zero")
	default:
		m.add(from, p, exit, reachedBySteps(rowsBySteps(p), from, exit), "atom")
	}
}

// addNext adds an atom from what some line reaches with ok, or a loop that does
// not go on, so that lines by seq and by once can be made of both.
func (m *proofMaker) addNext() {
	x := m.lines[m.draw.Intn(len(m.lines))]
	if x.Exit == 0 && m.draw.Intn(2) == 0 {
		m.add(x.Behind, "{"+x.Program+"}", 0, x.Behind, "zero")
	} else if x.Exit == 0 {
		p, exit := []string{"!", "x+", "x?", "[x<2]"}[m.draw.Intn(4)], m.draw.Intn(2)
		m.add(x.Behind, p, exit, reachedBySteps(rowsBySteps(p), x.Behind, exit), "atom")
	}
}

// addFromOne adds lines that are derived from one line.
func (m *proofMaker) addFromOne() {
	i := m.draw.Intn(len(m.lines))
	x, other := m.lines[i], drawnProgram(m.draw, 1)
	switch m.draw.Intn(5) {
	case 0:
		m.add(x.Before, "("+x.Program+"|"+other+")", x.Exit, x.Behind, "left", i)
	case 1:
		m.add(x.Before, "("+other+"|"+x.Program+")", x.Exit, x.Behind, "right", i)
	case 2:
		m.add(x.Before|m.draw.Intn(512), x.Program, x.Exit, x.Behind&m.draw.Intn(512), "less", i)
	case 3:
		if x.Exit == 1 {
			m.add(x.Before, "("+x.Program+";"+other+")", 1, x.Behind, "stop", i)
		}
	case 4:
		if x.Exit == 1 {
			m.add(x.Before, "{"+x.Program+"}", 1, x.Behind, "fail", i)
		}
	}
}

// addFromTwo adds a line that is derived from two lines, if there are such.
func (m *proofMaker) addFromTwo() {
	for range 30 {
		i, j := m.draw.Intn(len(m.lines)), m.draw.Intn(len(m.lines))
		x, y := m.lines[i], m.lines[j]
		count := len(m.lines)
		switch {
		case x.Exit == 0 && x.Behind == y.Before && y.Program == "{"+x.Program+"}":
			m.add(x.Before, y.Program, y.Exit, y.Behind, "once", i, j)
		case x.Exit == 0 && x.Behind == y.Before:
			m.add(x.Before, "("+x.Program+";"+y.Program+")", y.Exit, y.Behind, "seq", i, j)
		case x.Program == y.Program && x.Exit == y.Exit:
			m.add(x.Before|y.Before, x.Program, x.Exit, x.Behind|y.Behind, "both", i, j)
		}
		if len(m.lines) > count {
			return
		}
	}
}

// drawnProof returns a right proof of some lines that is drawn.
func drawnProof(draw *rand.Rand, lines int) []impl.Line {
	m := &proofMaker{draw: draw}
	for len(m.lines) < lines {
		switch choice := draw.Intn(10); {
		case len(m.lines) == 0 || choice < 2:
			m.addBase()
		case choice < 4:
			m.addNext()
		case choice < 6:
			m.addFromOne()
		default:
			m.addFromTwo()
		}
	}
	return m.lines
}

// TestP6DrawnProofs takes right proofs that are always drawn in the same way:
// all that they derive is reached.
func TestP6DrawnProofs(t *testing.T) {
	draw := rand.New(rand.NewSource(6))
	used := map[string]int{}
	for round := range 400 {
		proof := drawnProof(draw, 1+round%60)
		text := proofText(proof)
		if got := impl.CheckProof(proof); got != -1 {
			t.Fatalf("CheckProof(%q) = %d", text, got)
		}
		for _, line := range proof {
			used[line.Rule]++
			if !impl.IsSure(line.Triple) || withoutStates(line.Behind, reachedBySteps(rowsBySteps(line.Program), line.Before, line.Exit)) != 0 {
				t.Errorf("%q is derived in %q and not sure", tripleText(line.Triple), text)
			}
		}
		if got := impl.FormatProof(proof); got != text {
			t.Errorf("FormatProof = %q, want %q", got, text)
		}
		if got, ok := impl.ParseProof(text); !sameProof(got, proof) || !ok {
			t.Errorf("ParseProof(%q) = %v, %v", text, got, ok)
		}
		short, ok := impl.NeededLines(proof)
		if !sameProof(short, neededInText(proof)) || !ok {
			t.Errorf("NeededLines(%q) = %q, %v", text, proofText(short), ok)
		}
		if !impl.Proves(short, proof[len(proof)-1].Triple) {
			t.Errorf("the needed lines %q do not prove what %q does", proofText(short), text)
		}
	}
	for _, rule := range ruleTexts {
		if used[rule] < 100 {
			t.Errorf("%s is drawn %d times", rule, used[rule])
		}
	}
}

// TestP6ChangedProofs changes lines of proofs that are drawn, and holds what is
// told of them against what the texts tell.
func TestP6ChangedProofs(t *testing.T) {
	draw := rand.New(rand.NewSource(66))
	wrong := 0
	for round := range 3000 {
		proof := drawnProof(draw, 2+round%12)
		for range 1 + draw.Intn(2) {
			line := &proof[draw.Intn(len(proof))]
			switch draw.Intn(7) {
			case 0:
				line.Rule = ruleTexts[draw.Intn(11)]
			case 1:
				line.Refs = append(line.Refs, draw.Intn(len(proof)+2)-1)
			case 2:
				line.Refs = line.Refs[:draw.Intn(len(line.Refs)+1)]
			case 3:
				slices.Reverse(line.Refs)
			case 4:
				list := changedTriples(line.Triple)
				line.Triple = list[draw.Intn(len(list))]
			case 5:
				*line = proof[draw.Intn(len(proof))]
			case 6:
				if len(line.Refs) > 0 {
					line.Refs[draw.Intn(len(line.Refs))] = draw.Intn(len(proof)+2) - 1
				}
			}
		}
		want := faultInText(proof)
		if got := impl.CheckProof(proof); got != want {
			t.Errorf("CheckProof(%v) = %d, want %d", proof, got, want)
		}
		if got := impl.FormatProof(proof); got != proofText(proof) {
			t.Errorf("FormatProof(%v) = %q, want %q", proof, got, proofText(proof))
		}
		if got := impl.Proves(proof, proof[len(proof)-1].Triple); got != (want == -1) {
			t.Errorf("Proves(%v) = %v", proof, got)
		}
		short, ok := impl.NeededLines(proof)
		if ok != (want == -1) || ok && !sameProof(short, neededInText(proof)) || !ok && len(short) != 0 {
			t.Errorf("NeededLines(%v) = %v, %v", proof, short, ok)
		}
		if want != -1 {
			wrong++
		}
	}
	if wrong < 500 || wrong > 2900 {
		t.Errorf("%d of 3000 changed proofs are wrong", wrong)
	}
}

// spoil writes over all memory of a proof, that past its length included.
func spoil(proof []impl.Line) {
	for i := range proof {
		refs := proof[i].Refs[:cap(proof[i].Refs)]
		for j := range refs {
			refs[j] = 77
		}
	}
	proof = proof[:cap(proof)]
	for i := range proof {
		proof[i] = impl.Line{Rule: "magic", Refs: []int{-7}}
	}
}

func TestP6ResultsAreNewMemory(t *testing.T) {
	draw := rand.New(rand.NewSource(666))
	for round := range 60 {
		proof := drawnProof(draw, 1+round)
		text, kept := proofText(proof), copyOf(proof)
		one, _ := impl.ParseProof(text)
		two, _ := impl.ParseProof(text)
		spoil(one)
		if !sameProof(two, kept) {
			t.Errorf("ParseProof(%q) is %v after a write to another result", text, two)
		}
		one, _ = impl.NeededLines(proof)
		two, _ = impl.NeededLines(proof)
		spoil(one)
		if !sameProof(two, neededInText(kept)) || !sameProof(proof, kept) {
			t.Errorf("NeededLines(%q) is %v after a write to another result", text, two)
		}
		counts, _ := impl.RulesUsed(proof)
		clear(counts[:cap(counts)])
		if again, _ := impl.RulesUsed(proof); slices.Max(again) == 0 {
			t.Errorf("RulesUsed(%q) = %v after a write to another result", text, again)
		}
	}
}

// TestP6LinesOfAResultShareNoMemory goes on with the references of each line of
// a result, which must not show in those of another one.
func TestP6LinesOfAResultShareNoMemory(t *testing.T) {
	text := rightProofs[9] + "\n00 (.|.) ok 00 both 5 6\n00 (.|.) ok 00 both 7 3"
	parsed, _ := impl.ParseProof(text)
	needed, _ := impl.NeededLines(chainOf(40))
	for _, proof := range [][]impl.Line{parsed, needed} {
		kept := copyOf(proof)
		for i := range proof {
			for j := range 4 {
				_ = append(proof[i].Refs, -1-j)
			}
			for j, refs := 0, proof[i].Refs[:cap(proof[i].Refs)]; j < len(refs); j++ {
				refs[j] = -9
			}
			proof[i].Refs = slices.Clone(kept[i].Refs)
			if !sameProof(proof, kept) {
				t.Errorf("a write to the references of line %d shows in %v", i, proof)
			}
		}
	}
}

// TestP6ArgumentsAreNotChanged gives proofs that have lines and references past
// their length, and looks at these afterwards.
func TestP6ArgumentsAreNotChanged(t *testing.T) {
	for _, text := range append([]string{"00 x+ ok 20 atom", "00 . ok 00 atom\n11 . ok 11 atom\n00 . ok 11 less 0"}, rightProofs...) {
		whole := append(linesOf(t, text), impl.Line{Rule: "magic", Refs: []int{-3}})
		var from []impl.Triple
		for i := range whole {
			whole[i].Refs = append(whole[i].Refs, 55)
			from = append(from, whole[i].Triple)
		}
		kept, keptFrom := copyOf(whole), slices.Clone(from)
		proof := slices.Clone(whole)[:len(whole)-1]
		for i := range proof {
			proof[i].Refs = proof[i].Refs[:len(proof[i].Refs)-1]
		}
		impl.CheckProof(proof)
		impl.Proves(proof, proof[0].Triple)
		impl.FormatProof(proof)
		impl.RulesUsed(proof)
		impl.NeededLines(proof)
		for _, line := range proof {
			impl.LineHolds(line, from[:len(line.Refs)])
		}
		proof = proof[:len(whole)]
		for i := range proof[:len(whole)-1] {
			proof[i].Refs = proof[i].Refs[:len(proof[i].Refs)+1]
		}
		if !sameProof(proof, kept) || !slices.Equal(from, keptFrom) {
			t.Errorf("of %q, the arguments are %v and %v afterwards", text, proof, from)
		}
	}
}
