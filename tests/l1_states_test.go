package tests

import (
	"math"
	"slices"
	"strings"
	"testing"

	"loop.example/surelywrong/impl"
)

// stateTexts are the texts of the states by their numbers, written out so that
// they do not depend on the program.
var stateTexts = []string{"00", "01", "02", "10", "11", "12", "20", "21", "22"}

// noSets are numbers that are no set.
var noSets = []int{-1, -2, -511, -512, 512, 513, 1023, 1024, 1 << 20, math.MaxInt, math.MinInt, math.MinInt + 1}

// noStates are numbers that are no state.
var noStates = []int{-1, -2, -9, 9, 10, 18, 512, math.MaxInt, math.MinInt}

// statesOf returns the states of a set, told by dividing by two.
func statesOf(set int) []int {
	var list []int
	for state := 0; set > 0; state++ {
		if set%2 == 1 {
			list = append(list, state)
		}
		set /= 2
	}
	return list
}

// textOf returns the text of a set, made of the texts of its states.
func textOf(set int) string {
	if set == 0 {
		return "-"
	}
	var words []string
	for _, state := range statesOf(set) {
		words = append(words, stateTexts[state])
	}
	return strings.Join(words, ",")
}

func TestP1MaxStates(t *testing.T) {
	if impl.MaxStates != 9 {
		t.Errorf("MaxStates = %d", impl.MaxStates)
	}
}

func TestP1SetValid(t *testing.T) {
	for set := range 512 {
		if !impl.SetValid(set) {
			t.Errorf("SetValid(%d) = false", set)
		}
	}
	for _, set := range noSets {
		if impl.SetValid(set) {
			t.Errorf("SetValid(%d) = true", set)
		}
	}
}

func TestP1FormatSet(t *testing.T) {
	for set := range 512 {
		if got, want := impl.FormatSet(set), textOf(set); got != want {
			t.Errorf("FormatSet(%d) = %q, want %q", set, got, want)
		}
	}
	for _, set := range noSets {
		if got := impl.FormatSet(set); got != "" {
			t.Errorf("FormatSet(%d) = %q", set, got)
		}
	}
}

func TestP1DocumentExample(t *testing.T) {
	if got := impl.FormatSet(33); got != "00,12" {
		t.Errorf("FormatSet(33) = %q", got)
	}
	if set, ok := impl.ParseSet("00,12"); set != 33 || !ok {
		t.Errorf("ParseSet(00,12) = %d, %v", set, ok)
	}
}

func TestP1ParseSet(t *testing.T) {
	for set := range 512 {
		if got, ok := impl.ParseSet(textOf(set)); got != set || !ok {
			t.Errorf("ParseSet(%q) = %d, %v, want %d", textOf(set), got, ok, set)
		}
	}
}

func TestP1ParseSetOfNoSet(t *testing.T) {
	texts := []string{
		"", " ", "\n", "\x00", "--", "-,-", "-00", "00-", "-,00", "00,-", " -", "- ",
		"0", "1", "33", "000", "0,0", "03", "30", "99", "0/", "/0", "0:", ":0", "-1", "+1", "a0", "0a",
		",", ",,", "00,", ",00", "00,,12", "00, 12", "00 ,12", " 00", "00 ", "00\n", "00\x00", "00;12", "00.12", "0012",
		"12,00", "01,00", "22,21", "00,12,11", "10,00,20",
		"00,00", "12,12", "22,22", "00,12,12", "00,12,00",
		"\xff", "0\xff", "\xff0", "\xb0\xb1", "٠٠", "00,\x80\x80",
		"00,0", "0,12", "00,123", "00,3", "00,03", "00,30", "00,12,",
		textOf(511) + ",", textOf(511) + ",22", textOf(511) + ",23", textOf(511) + ",00", textOf(511) + "," + textOf(511),
		strings.Repeat("00,", 100000), strings.Repeat("0", 100000), strings.Repeat(",", 100000),
	}
	for _, text := range texts {
		if set, ok := impl.ParseSet(text); set != 0 || ok {
			t.Errorf("ParseSet(%.40q) = %d, %v", text, set, ok)
		}
	}
}

// TestP1ParseSetOfChangedTexts changes the text of each set in one place, in
// each way. What comes out is the text of a set, or must be refused.
func TestP1ParseSetOfChangedTexts(t *testing.T) {
	sets := map[string]int{}
	for set := range 512 {
		sets[textOf(set)] = set
	}
	check := func(text string) {
		want, is := sets[text]
		if set, ok := impl.ParseSet(text); set != want || ok != is {
			t.Errorf("ParseSet(%q) = %d, %v, want %d, %v", text, set, ok, want, is)
		}
	}
	for text := range sets {
		for i := range len(text) + 1 {
			for _, c := range []string{"0", "1", "2", "3", "/", ",", "-", " ", "\x00", "\xff", "00,", "12,", ",00", ",22"} {
				check(text[:i] + c + text[i:])
				if i < len(text) {
					check(text[:i] + c + text[i+1:])
				}
			}
			if i < len(text) {
				check(text[:i] + text[i+1:])
			}
		}
	}
}

// TestP1ParseSetOfStatesInAnyOrder takes all lists of two and three states, of
// which just the ascending ones are the text of a set.
func TestP1ParseSetOfStatesInAnyOrder(t *testing.T) {
	check := func(ascending bool, want int, states ...int) {
		var words []string
		for _, state := range states {
			words = append(words, stateTexts[state])
		}
		if !ascending {
			want = 0
		}
		text := strings.Join(words, ",")
		if set, ok := impl.ParseSet(text); set != want || ok != ascending {
			t.Errorf("ParseSet(%q) = %d, %v, want %d, %v", text, set, ok, want, ascending)
		}
	}
	for a := range 9 {
		for b := range 9 {
			check(a < b, 1<<a|1<<b, a, b)
			for c := range 9 {
				check(a < b && b < c, 1<<a|1<<b|1<<c, a, b, c)
			}
		}
	}
}

func TestP1StateOf(t *testing.T) {
	for x := -4; x <= 12; x++ {
		for y := -4; y <= 12; y++ {
			want, is := 0, x >= 0 && x <= 2 && y >= 0 && y <= 2
			if is {
				want = 3*x + y
			}
			if state, ok := impl.StateOf(x, y); state != want || ok != is {
				t.Errorf("StateOf(%d, %d) = %d, %v, want %d, %v", x, y, state, ok, want, is)
			}
		}
	}
	for _, far := range []int{math.MaxInt, math.MinInt, 1 << 32, 1<<32 + 1, -1 << 32} {
		for y := range 3 {
			if state, ok := impl.StateOf(far, y); state != 0 || ok {
				t.Errorf("StateOf(%d, %d) = %d, %v", far, y, state, ok)
			}
			if state, ok := impl.StateOf(y, far); state != 0 || ok {
				t.Errorf("StateOf(%d, %d) = %d, %v", y, far, state, ok)
			}
		}
	}
}

func TestP1ValuesOf(t *testing.T) {
	for state, text := range stateTexts {
		x, y, ok := impl.ValuesOf(state)
		if x != int(text[0]-'0') || y != int(text[1]-'0') || !ok {
			t.Errorf("ValuesOf(%d) = %d, %d, %v, want %s", state, x, y, ok, text)
		}
	}
	for _, state := range noStates {
		if x, y, ok := impl.ValuesOf(state); x != 0 || y != 0 || ok {
			t.Errorf("ValuesOf(%d) = %d, %d, %v", state, x, y, ok)
		}
	}
}

func TestP1CountStates(t *testing.T) {
	for set := range 512 {
		if got, want := impl.CountStates(set), len(statesOf(set)); got != want {
			t.Errorf("CountStates(%d) = %d, want %d", set, got, want)
		}
	}
	for _, set := range noSets {
		if got := impl.CountStates(set); got != -1 {
			t.Errorf("CountStates(%d) = %d", set, got)
		}
	}
}

func TestP1StatesIn(t *testing.T) {
	for set := range 512 {
		if list, ok := impl.StatesIn(set); !slices.Equal(list, statesOf(set)) || !ok {
			t.Errorf("StatesIn(%d) = %v, %v, want %v", set, list, ok, statesOf(set))
		}
	}
	for _, set := range noSets {
		if list, ok := impl.StatesIn(set); len(list) != 0 || ok {
			t.Errorf("StatesIn(%d) = %v, %v", set, list, ok)
		}
	}
}

// TestP1StatesInIsNewMemory writes over a result, its unused capacity
// included, which must not show in another one.
func TestP1StatesInIsNewMemory(t *testing.T) {
	for _, set := range []int{1, 33, 256, 511} {
		kept, _ := impl.StatesIn(set)
		spoilt, _ := impl.StatesIn(set)
		spoilt = spoilt[:cap(spoilt)]
		for i := range spoilt {
			spoilt[i] = -7
		}
		again, ok := impl.StatesIn(set)
		if !slices.Equal(kept, statesOf(set)) || !slices.Equal(again, statesOf(set)) || !ok {
			t.Errorf("StatesIn(%d) = %v, then %v, %v", set, kept, again, ok)
		}
	}
}

func TestP1IsWithin(t *testing.T) {
	for a := range 512 {
		for b := range 512 {
			want := true
			for _, state := range statesOf(a) {
				want = want && slices.Contains(statesOf(b), state)
			}
			if got := impl.IsWithin(a, b); got != want {
				t.Errorf("IsWithin(%d, %d) = %v", a, b, got)
			}
		}
	}
	for _, no := range noSets {
		for _, set := range []int{0, 1, 33, 511} {
			if impl.IsWithin(no, set) || impl.IsWithin(set, no) {
				t.Errorf("IsWithin of %d and %d", no, set)
			}
		}
		if impl.IsWithin(no, no) {
			t.Errorf("IsWithin(%d, %d) = true", no, no)
		}
	}
}
