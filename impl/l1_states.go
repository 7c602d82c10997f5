package impl

import (
	"errors"
	"iter"
	"strings"
)

// MaxStates is how many states there are.
const MaxStates = 9

// valuesOfVariable is how many values a variable can have.
const valuesOfVariable = 3

var (
	errNoState    = errors.New("no state")
	errStateOrder = errors.New("states are not ascending")
)

// values are those of x and y, in this order.
type values [2]int

// A stateSet has a bit for each of its states.
type stateSet int

// allStates is the set of all states.
const allStates stateSet = 1<<MaxStates - 1

// isState reports whether a number is a state.
func isState(state int) bool { return 0 <= state && state < MaxStates }

// valuesIn returns the values in a state that there is.
func valuesIn(state int) values {
	return values{state / valuesOfVariable, state % valuesOfVariable}
}

// stateWith returns the state with values. It looks through all states, so
// that values of any size are told from those that there are.
func stateWith(v values) (int, bool) {
	for state := range MaxStates {
		if valuesIn(state) == v {
			return state, true
		}
	}
	return 0, false
}

// text returns the two digits of values that there are.
func (v values) text() string {
	return string([]byte{byte('0' + v[0]), byte('0' + v[1])})
}

// has reports whether a state is in the set.
func (s stateSet) has(state int) bool { return s>>state&1 == 1 }

// with returns the set with a state added.
func (s stateSet) with(state int) stateSet { return s | 1<<state }

// states yields the states of the set in ascending order.
func (s stateSet) states() iter.Seq[int] {
	return func(yield func(int) bool) {
		for state := range MaxStates {
			if s.has(state) && !yield(state) {
				return
			}
		}
	}
}

// text returns the text of the set.
func (s stateSet) text() string {
	if s == 0 {
		return "-"
	}
	var words []string
	for state := range s.states() {
		words = append(words, valuesIn(state).text())
	}
	return strings.Join(words, ",")
}

// readState returns the state whose two digits are a word.
func readState(word string) (int, error) {
	if len(word) != 2 {
		return 0, errNoState
	}
	state, ok := stateWith(values{int(word[0]) - '0', int(word[1]) - '0'})
	if !ok {
		return 0, errNoState
	}
	return state, nil
}

// readSet returns the set whose text is given. States have to ascend, since
// each set has just one text.
func readSet(text string) (stateSet, error) {
	if text == "-" {
		return 0, nil
	}
	var set stateSet
	least := 0
	for word := range strings.SplitSeq(text, ",") {
		state, err := readState(word)
		if err != nil {
			return 0, err
		}
		if state < least {
			return 0, errStateOrder
		}
		set, least = set.with(state), state+1
	}
	return set, nil
}

// SetValid reports whether a number is a set of states.
func SetValid(set int) bool { return 0 <= set && set < 1<<MaxStates }

// FormatSet returns the text of a set.
func FormatSet(set int) string {
	if !SetValid(set) {
		return ""
	}
	return stateSet(set).text()
}

// ParseSet parses the text of a set.
func ParseSet(text string) (int, bool) {
	set, err := readSet(text)
	return int(set), err == nil
}

// StateOf returns the state with values.
func StateOf(x int, y int) (int, bool) { return stateWith(values{x, y}) }

// ValuesOf returns the values of a state.
func ValuesOf(state int) (int, int, bool) {
	if !isState(state) {
		return 0, 0, false
	}
	v := valuesIn(state)
	return v[0], v[1], true
}

// CountStates returns how many states a set has.
func CountStates(set int) int {
	if !SetValid(set) {
		return -1
	}
	count := 0
	for range stateSet(set).states() {
		count++
	}
	return count
}

// StatesIn returns the states of a set.
func StatesIn(set int) ([]int, bool) {
	if !SetValid(set) {
		return nil, false
	}
	var list []int
	for state := range stateSet(set).states() {
		list = append(list, state)
	}
	return list, true
}

// IsWithin reports whether a set has no states but those of another one.
func IsWithin(a int, b int) bool {
	return SetValid(a) && SetValid(b) && a&^b == 0
}
