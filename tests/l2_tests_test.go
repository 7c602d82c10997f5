package tests

import (
	"slices"
	"strings"
	"testing"

	"loop.example/surelywrong/impl"
)

// testRows are all tests in order, with the states in which each holds and its
// opposites, written out so that they do not depend on the program.
var testRows = []struct{ test, where, opposites string }{
	{"x=0", "00,01,02", "x#0"},
	{"x=1", "10,11,12", "x#1"},
	{"x=2", "20,21,22", "x#2 x<2"},
	{"x#0", "10,11,12,20,21,22", "x=0 x<1"},
	{"x#1", "00,01,02,20,21,22", "x=1"},
	{"x#2", "00,01,02,10,11,12", "x=2"},
	{"x<1", "00,01,02", "x#0"},
	{"x<2", "00,01,02,10,11,12", "x=2"},
	{"y=0", "00,10,20", "y#0"},
	{"y=1", "01,11,21", "y#1"},
	{"y=2", "02,12,22", "y#2 y<2"},
	{"y#0", "01,02,11,12,21,22", "y=0 y<1"},
	{"y#1", "00,02,10,12,20,22", "y=1"},
	{"y#2", "00,01,10,11,20,21", "y=2"},
	{"y<1", "00,10,20", "y#0"},
	{"y<2", "00,01,10,11,20,21", "y=2"},
	{"x=y", "00,11,22", "x#y"},
	{"x#y", "01,02,10,12,20,21", "x=y"},
	{"x<y", "01,02,12", ""},
	{"y<x", "10,20,21", ""},
}

// noTests are texts that are no test.
var noTests = []string{
	"", "x", "y", "0", "=", "x=", "=0", "x0", "xy", "   ", "===", "xxx", "yyy", "000", "\x00\x00\x00", "...",
	"x=3", "y=3", "x#3", "y#3", "x<0", "y<0", "x<3", "y<3", "x=9", "x=/", "x=:", "x=-", "x<-", "x=\x00", "x=\xff",
	"x>0", "x>1", "y>x", "x>y", "x!0", "x~0", "x\x000", "x==", "x-0", "x+0", "x:0", "x;0",
	"y=x", "y#x", "x=x", "y=y", "x#x", "y#y", "x<x", "y<y",
	"0=x", "0#x", "1<x", "2<x", "0<y", "1=y", "0=0", "1#2", "0<1", "1<2",
	"z=0", "X=0", "Y=0", "w<1", "X<Y", "x=Y", "x=X", "\xff=0",
	"x=00", "x=0 ", " x=0", "x= 0", "x =0", "x=0\n", "x=0\x00", "\x00x=0", "x<=y", "x#=0", "x=-0", "x=+0", "x=01", "[x=0]", "x=0x=0",
	"x=0,", "x=0;", "x=\u0660", "x\u00a60", strings.Repeat("x=0", 100000), strings.Repeat("x", 1000000),
}

// setOfText returns the set whose text is given, made of the texts of its
// states.
func setOfText(text string) int {
	set := 0
	for _, word := range strings.Split(text, ",") {
		if state := slices.Index(stateTexts, word); state >= 0 {
			set += 1 << state
		}
	}
	return set
}

// isTest reports whether a text is one of the tests that are written out.
func isTest(text string) bool {
	for _, row := range testRows {
		if row.test == text {
			return true
		}
	}
	return false
}

func TestP2AllTests(t *testing.T) {
	var want []string
	for _, row := range testRows {
		want = append(want, row.test)
	}
	if got := impl.AllTests(); !slices.Equal(got, want) {
		t.Errorf("AllTests() = %v, want %v", got, want)
	}
}

func TestP2AllTestsIsNewMemory(t *testing.T) {
	kept, spoilt := impl.AllTests(), impl.AllTests()
	spoilt = spoilt[:cap(spoilt)]
	for i := range spoilt {
		spoilt[i] = "x=7"
	}
	for _, list := range [][]string{kept, impl.AllTests()} {
		if len(list) != 20 || list[0] != "x=0" || list[8] != "y=0" || list[16] != "x=y" || list[19] != "y<x" {
			t.Errorf("AllTests() = %v after a write to another result", list)
		}
	}
	if !impl.TestValid("x=0") || impl.TestValid("x=7") {
		t.Error("TestValid after a write to a result of AllTests")
	}
	if tests, ok := impl.OppositeOf("x=2"); strings.Join(tests, " ") != "x#2 x<2" || !ok {
		t.Errorf("OppositeOf(x=2) = %v, %v after a write to a result of AllTests", tests, ok)
	}
}

func TestP2TestValid(t *testing.T) {
	for _, row := range testRows {
		if !impl.TestValid(row.test) {
			t.Errorf("TestValid(%q) = false", row.test)
		}
	}
	for _, test := range noTests {
		if impl.TestValid(test) {
			t.Errorf("TestValid(%.40q) = true", test)
		}
	}
}

// TestP2TestsThatLookLikeTests takes all texts of up to four bytes of those
// that tests are made of and of some that look like them.
func TestP2TestsThatLookLikeTests(t *testing.T) {
	const bytes = "xyz0123=#<>! "
	texts := []string{""}
	for first := 0; len(texts[first]) < 4; first++ {
		for _, c := range []byte(bytes) {
			texts = append(texts, texts[first]+string(c))
		}
	}
	for _, text := range texts {
		want := isTest(text)
		if got := impl.TestValid(text); got != want {
			t.Errorf("TestValid(%q) = %v", text, got)
		}
		if set, ok := impl.WhereHolds(text); ok != want || (!ok && set != 0) {
			t.Errorf("WhereHolds(%q) = %d, %v", text, set, ok)
		}
	}
}

// TestP2ChangedTests puts each byte in each place of each test.
func TestP2ChangedTests(t *testing.T) {
	for _, row := range testRows {
		for i := range row.test {
			for c := range 256 {
				text := row.test[:i] + string([]byte{byte(c)}) + row.test[i+1:]
				if got := impl.TestValid(text); got != isTest(text) {
					t.Errorf("TestValid(%q) = %v", text, got)
				}
			}
		}
	}
}

func TestP2TestHolds(t *testing.T) {
	for _, row := range testRows {
		for state, text := range stateTexts {
			want := strings.Contains(row.where, text)
			if got := impl.TestHolds(row.test, state); got != want {
				t.Errorf("TestHolds(%q, %s) = %v", row.test, text, got)
			}
		}
		for _, state := range noStates {
			if impl.TestHolds(row.test, state) {
				t.Errorf("TestHolds(%q, %d) = true", row.test, state)
			}
		}
	}
	for _, test := range noTests {
		for state := -1; state <= 9; state++ {
			if impl.TestHolds(test, state) {
				t.Errorf("TestHolds(%.40q, %d) = true", test, state)
			}
		}
	}
}

func TestP2WhereHolds(t *testing.T) {
	for _, row := range testRows {
		if set, ok := impl.WhereHolds(row.test); set != setOfText(row.where) || !ok {
			t.Errorf("WhereHolds(%q) = %s, %v, want %s", row.test, textOf(set), ok, row.where)
		}
	}
	for _, test := range noTests {
		if set, ok := impl.WhereHolds(test); set != 0 || ok {
			t.Errorf("WhereHolds(%.40q) = %d, %v", test, set, ok)
		}
	}
}

func TestP2OppositeOf(t *testing.T) {
	for _, row := range testRows {
		if tests, ok := impl.OppositeOf(row.test); strings.Join(tests, " ") != row.opposites || !ok {
			t.Errorf("OppositeOf(%q) = %v, %v, want %s", row.test, tests, ok, row.opposites)
		}
	}
	for _, test := range noTests {
		if tests, ok := impl.OppositeOf(test); len(tests) != 0 || ok {
			t.Errorf("OppositeOf(%.40q) = %v, %v", test, tests, ok)
		}
	}
}

func TestP2DocumentExample(t *testing.T) {
	for _, test := range []string{"x<1", "x=0"} {
		if tests, ok := impl.OppositeOf(test); len(tests) != 1 || tests[0] != "x#0" || !ok {
			t.Errorf("OppositeOf(%q) = %v, %v", test, tests, ok)
		}
	}
}

func TestP2OppositeOfIsNewMemory(t *testing.T) {
	for _, row := range testRows {
		kept, _ := impl.OppositeOf(row.test)
		spoilt, _ := impl.OppositeOf(row.test)
		spoilt = spoilt[:cap(spoilt)]
		for i := range spoilt {
			spoilt[i] = "x=7"
		}
		again, _ := impl.OppositeOf(row.test)
		if strings.Join(kept, " ") != row.opposites || strings.Join(again, " ") != row.opposites {
			t.Errorf("OppositeOf(%q) = %v, then %v", row.test, kept, again)
		}
	}
}

// TestP2TestFor takes all sets: the first test of those that hold in the same
// states is told, and none for sets in which no test holds just so.
func TestP2TestFor(t *testing.T) {
	for set := range 512 {
		want := ""
		for _, row := range testRows {
			if want == "" && setOfText(row.where) == set {
				want = row.test
			}
		}
		if test, ok := impl.TestFor(set); test != want || ok != (want != "") {
			t.Errorf("TestFor(%s) = %q, %v, want %q", textOf(set), test, ok, want)
		}
	}
	for _, set := range noSets {
		if test, ok := impl.TestFor(set); test != "" || ok {
			t.Errorf("TestFor(%d) = %q, %v", set, test, ok)
		}
	}
}

func TestP2TestForSetsOfSeveralTests(t *testing.T) {
	for where, want := range map[string]string{
		"00,01,02":          "x=0",
		"00,01,02,10,11,12": "x#2",
		"00,10,20":          "y=0",
		"00,01,10,11,20,21": "y#2",
	} {
		if test, ok := impl.TestFor(setOfText(where)); test != want || !ok {
			t.Errorf("TestFor(%s) = %q, %v, want %q", where, test, ok, want)
		}
	}
}
