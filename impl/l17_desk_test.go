package impl

import (
	"errors"
	"testing"
)

func TestWhatIsNoLineHasItsError(t *testing.T) {
	for _, line := range []string{"", " ", "x", "judge ", "round 1", "out", "out 01", "where -1", "step 1", "step  1 2", "step 1 2 3", "step 01 x", "show 1 1000000000", "give 1 2", "copy\t1", "lose 1 "} {
		if _, err := readLine(line); !errors.Is(err, errNoLine) {
			t.Errorf("%q is read, %v", line, err)
		}
	}
	for line, want := range map[string]Deed{
		"judge": {Kind: askJudge}, "round": {Kind: askRound}, "out 7": {Kind: askOut, A: 7}, "where 0": {Kind: askWhere},
		"step 1 2": {Kind: DoStep, A: 1, B: 2}, "lose 999999999": {Kind: DoLose, A: 999999999},
	} {
		if got, err := readLine(line); got != want || err != nil {
			t.Errorf("%q is read as %+v, %v", line, got, err)
		}
	}
}

// What asks is no deed, and each word has a phrase of its own.
func TestPhrasesAreApart(t *testing.T) {
	for i, one := range phrases() {
		if ask := (Deed{Kind: one.kind}); DeedOk(ask) != (one.kind <= DoLose) {
			t.Errorf("%s is of the kind %d", one.word, one.kind)
		}
		for j, other := range phrases() {
			if i != j && (one.kind == other.kind || len(one.word) <= len(other.word) && other.word[:len(one.word)] == one.word) {
				t.Errorf("%s is the beginning of %s, or of its kind", one.word, other.word)
			}
		}
	}
}
