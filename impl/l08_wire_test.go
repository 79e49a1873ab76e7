package impl

import (
	"errors"
	"testing"
)

// Where a mistake is can't be seen from outside: so this is asked here.
func TestMistakesInBytesHaveTheirPlaces(t *testing.T) {
	for _, x := range []struct {
		why   string
		s     string
		place int
	}{
		{"the empty text", "", 0},
		{"no nodes", "\x00", 0},
		{"too many nodes", "\xb9\x17\x01", 0},
		{"a count that is longer than need be", "\x81\x00\x01", 0},
		{"a node that is not there", "\x02\x01", 2},
		{"no kind", "\x02\x01\x0a", 2},
		{"a number that is not there", "\x02\x01\x05\x00", 4},
		{"a number that is longer than need be", "\x02\x01\x05\x00\x80\x00", 4},
		{"a text that is not there", "\x01\x04\x05abc", 2},
		{"a node that is none: its name", "\x01\x04\x01A", 1},
		{"a node that is none: its part", "\x03\x01\x02\x01\x05\x00\x02", 4},
		{"a node that nothing hangs on", "\x02\x01\x01", 0},
		{"bytes behind the end", "\x01\x01\x01", 2},
	} {
		p, err := readerOf(x.s).value()
		var bad badBytes
		if !errors.As(err, &bad) || bad.place != x.place {
			t.Errorf("%s: the mistake is %v, and not at %d, beside %+v", x.why, err, x.place, p)
		}
	}
	if p, err := readerOf("\x02\x01\x07\x00").value(); err != nil || len(p.Nodes) != 2 {
		t.Errorf("no mistake: %v, %+v", err, p)
	}
}

func TestMistakesInMachinesHaveTheirPlaces(t *testing.T) {
	c := Code{List: []Instr{{Op: OpBack}}}
	for _, x := range []struct {
		why   string
		s     string
		place int
	}{
		{"the empty text", "", 0},
		{"six numbers", "\x00\x00\x00\x00\x00\x00", 6},
		{"no nodes told", "\x00\x00\x00\x00\x00\x00\x00", 7},
		{"no kind", "\x00\x00\x00\x00\x00\x00\x00\x01\x00", 8},
		{"no place of the code", "\x01\x00\x00\x00\x00\x00\x00\x01\x01", 0},
		{"a node that nothing hangs on", "\x00\x00\x00\x00\x00\x00\x00\x02\x01\x01", 0},
		{"bytes behind the end", "\x00\x00\x00\x00\x00\x00\x00\x01\x01\x01", 9},
	} {
		m, err := readerOf(x.s).machine(c)
		var bad badBytes
		if !errors.As(err, &bad) || bad.place != x.place {
			t.Errorf("%s: the mistake is %v, and not at %d, beside %+v", x.why, err, x.place, m)
		}
	}
	if m, err := readerOf("\x00\x00\x00\x00\x00\x00\x00\x01\x01").machine(c); err != nil || len(m.Pool.Nodes) != 1 {
		t.Errorf("no mistake: %v, %+v", err, m)
	}
	if told := (badBytes{place: 17}).Error(); told != "the bytes of nothing from place 17 on" {
		t.Error("it is told as", told)
	}
}
