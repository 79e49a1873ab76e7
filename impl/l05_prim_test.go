package impl

import "testing"

// What is made once is not seen from outside but for its names: so this is asked here.
func TestWhatIsMadeOnceAgreesWithWhatIsMadeInEachCall(t *testing.T) {
	table, names := madeOnce()
	if len(table) != Prims || len(names) != Prims {
		t.Fatalf("%d in the table, %d names", len(table), len(names))
	}
	for n := 1; n <= Prims; n++ {
		b := builtIn()[n-1]
		name := names[n-1]
		once, met := table[name]
		if !met || once != b {
			t.Errorf("the number %d: made once %+v, made in the call %+v", n, once, b)
		}
		if b.number != n || b.name != name || PrimName(n) != name {
			t.Errorf("the name of %d: made once %q, told %q, made in the call %+v", n, name, PrimName(n), b)
		}
		if once.number != n || PrimOf(name) != n {
			t.Errorf("the number of %q: made once %d, told %d; asked: %d", name, once.number, PrimOf(name), n)
		}
		if once.takes != PrimArgs(n) {
			t.Errorf("what %q takes: made once %d, told %d", name, once.takes, PrimArgs(n))
		}
	}
}
