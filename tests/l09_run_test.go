package tests

import (
	"fmt"
	"math"
	"slices"
	"strings"
	"testing"

	"loop.example/g00189/impl"
)

// ranByRules: step by step, as the document tells it; how many there were, and how often it was tidied.
func ranByRules(c impl.Code, m impl.Machine, steps int) (impl.Machine, int, int) {
	if !rightByRules(c, m) {
		return noMachine(), 0, 0
	}
	count, tidied := 0, 0
	for m.State == impl.MsRun && count < steps && count < 2000 {
		m = steppedByRules(c, m)
		if len(m.Pool.Nodes) > 2000 {
			m = tidiedByRules(m)
			tidied++
		}
		count++
	}
	return m, count, tidied
}

// An aloneState is what Alone tells of so many steps.
type aloneState struct {
	m     impl.Machine
	told  []string
	count int
}

// answeredAlone: the machine that asked and was answered, and what was told with it; it asks still, when there is no answer.
func answeredAlone(c impl.Code, m impl.Machine, told []string) (impl.Machine, []string) {
	answers := map[int]impl.Node{13: nilNode(), 14: pidNode(1), 19: nilNode()}
	answer, ok := answers[m.Ask]
	if m.State != impl.MsAsk || !ok {
		return m, told
	}
	if m.Ask == 13 {
		told = append(slices.Clone(told), impl.Write(m.Pool, m.Pool.Nodes[m.Arg].A))
	}
	return answeredByRules(c, m, poolOf(answer), 0), told
}

// aloneByRules: what Alone tells of no steps, of one, of two, and so on; the last one is what it tells of all that are more.
func aloneByRules(c impl.Code, name string, most int) []aloneState {
	m, ok := impl.MachineNew(c, name)
	if !ok {
		return []aloneState{{m: noMachine()}}
	}
	states := []aloneState{{m: m}}
	var told []string
	for count := 1; count <= most && m.State == impl.MsRun && count <= 2000; count++ {
		m = steppedByRules(c, m)
		if len(m.Pool.Nodes) > 2000 {
			m = tidiedByRules(m)
		}
		if m.State == impl.MsAsk {
			m, told = answeredAlone(c, m, told)
		}
		states = append(states, aloneState{m, told, count})
	}
	return states
}

func askRun(t *testing.T, why string, c impl.Code, m impl.Machine, steps int, want impl.Machine, wantCount int) {
	t.Helper()
	if got, count := impl.RunFor(c, m, steps); count != wantCount || !sameMachine(got, want) {
		t.Errorf("%s: RunFor %d steps of %s\ntells %d, %s\nnot %d, %s", why, steps, toldMachine(m, len(m.Pool.Nodes)-5), count, toldMachine(got, len(got.Pool.Nodes)-9), wantCount, toldMachine(want, len(want.Pool.Nodes)-9))
	}
}

func askAlone(t *testing.T, why string, c impl.Code, name string, steps int, want aloneState) {
	t.Helper()
	if m, told, count := impl.Alone(c, name, steps); count != want.count || !slices.Equal(told, want.told) || !sameMachine(m, want.m) {
		t.Errorf("%s: Alone of %q, %d steps\ntells %d, %.300q, %s\nnot %d, %.300q, %s", why, name, steps, count, told, toldMachine(m, len(m.Pool.Nodes)-9), want.count, want.told, toldMachine(want.m, len(want.m.Pool.Nodes)-9))
	}
}

// A program, what it tells alone, and how it ends there: with a value, with what it asks for, or with why it fails.
type program struct {
	text  string
	told  []string
	value string
	asks  string
	fails int
}

func words(list ...string) []string { return list }

func programsThatEnd() []program {
	return []program{
		{text: "5", value: "5"},
		{text: "(+ 1 (- (* 6 7) 8))", value: "35"},
		{text: "(if (< 1 2) (quote (a #f)) (x))", value: "(a #f)"},
		{text: "(do 1 (print 2) 3)", told: words("2"), value: "3"},
		{text: "(print (print 5))", told: words("5", "()"), value: "()"},
		{text: "(do (print 1) (go 1) (print (self)))", told: words("1", "#pid1"), value: "()"},
		{text: "(cons (go (quote there)) (cons (self) (go -1)))", value: "(() #pid1)"},
		{text: "(cons (self) (self))", value: "(#pid1 . #pid1)"},
		{text: "(define (f n) (if (< n 2) n (+ (f (- n 1)) (f (- n 2))))) (print (f 7))", told: words("13"), value: "()"},
		{text: "(define (fact n) (if (< n 2) 1 (* n (fact (- n 1))))) (do (print (fact 3)) (fact 12))", told: words("6"), value: "479001600"},
		{text: "(define (even n) (if (= n 0) #t (odd (- n 1)))) (define (odd n) (if (= n 0) #f (even (- n 1)))) (cons (even 11) (even 12))", value: "(#f . #t)"},
		{text: "(define (map f l) (if (null? l) () (cons (f (car l)) (map f (cdr l))))) (map (fn (x) (print (* x x))) (quote (1 2 3)))", told: words("1", "4", "9"), value: "(() () ())"},
		{text: "(define (rev l m) (if (null? l) m (rev (cdr l) (cons (car l) m)))) (rev (quote (a b (c d) e)) ())", value: "(e (c d) b a)"},
		{text: "(define (ack m n) (if (= m 0) (+ n 1) (if (= n 0) (ack (- m 1) 1) (ack (- m 1) (ack m (- n 1)))))) (ack 2 1)", value: "5"},
		// Functions know what was bound where they were made.
		{text: "(define (add n) (fn (x) (+ n x))) (let f (add 3) (let g (add 40) (do (print (f 1)) (print (g 1)) (f 2))))", told: words("4", "41"), value: "5"},
		{text: "(let x 1 (let f (fn () x) (let x 2 (cons x (f)))))", value: "(2 . 1)"},
		{text: "(let x 1 (let f (fn (y) (cons x y)) (let y 5 (f (f y)))))", value: "(1 1 . 5)"},
		{text: "(define (f g x) (g x)) (let x 10 (f (fn (y) (- y x)) 3))", value: "-7"},
		{text: "(((fn (f) (fn (n) (f f n))) (fn (f n) (if (= n 0) () (cons n (f f (- n 1)))))) 4)", value: "(4 3 2 1)"},
		{text: "(define (both f g) (fn (x) (f (g x)))) ((both (both car cdr) cdr) (quote (1 2 3)))", value: "3"},
		{text: "(fn (x) x)", value: "#fun17"},
		{text: "(print car)", told: words("#prim7"), value: "()"},
		{text: "(callcc print)", told: words("#kont0"), value: "()"},
		{text: "(do (print (fn (x) x)) (print (cons 1 2)))", told: words("#fun25", "(1 . 2)"), value: "()"},
	}
}

// What is caught and called comes back there, with what it was called with.
func programsThatCatch() []program {
	return []program{
		{text: "(+ 1 (callcc (fn (k) 5)))", value: "6"},
		{text: "(+ 1 (callcc (fn (k) (+ 100 (k 5)))))", value: "6"},
		{text: "(+ 1 (callcc (fn (k) (do (print 1) (k 5) (print 2)))))", told: words("1"), value: "6"},
		{text: "(cons 1 (callcc (fn (k) (cons 2 (k (quote (a b)))))))", value: "(1 a b)"},
		{text: "(+ 1 (callcc (fn (a) (+ 10 (callcc (fn (b) (a 5)))))))", value: "6"},
		{text: "(+ 1 (callcc (fn (a) (+ 10 (callcc (fn (b) (b 5)))))))", value: "16"},
		{text: "(let k (callcc (fn (k) k)) (if (pair? k) (car k) (do (print 0) (k (quote (7))))))", told: words("0"), value: "7"},
		{text: "(let k (callcc callcc) (if (null? k) 8 (k ())))", value: "8"},
		{text: "(define (f) (callcc (fn (k) k))) (let k (f) (if (pair? k) (car k) (+ 1 (k (quote (9))))))", value: "9"},
		{text: "(define (down n k) (if (= n 0) (k (quote out)) (+ 1 (down (- n 1) k)))) (callcc (fn (k) (down 20 k)))", value: "out"},
		// The frames come back, too: x is what it was there.
		{text: "(let x 1 (let k (callcc (fn (k) k)) (if (pair? k) (cons x k) (let x 2 (k (cons x ()))))))", value: "(1 2)"},
		{text: "(define (find f l) (callcc (fn (k) (go-on f l k)))) (define (go-on f l k) (if (null? l) #f (do (print (car l)) (if (f (car l)) (k (car l)) (go-on f (cdr l) k))))) (find (fn (x) (< 2 x)) (quote (1 2 3 4)))", told: words("1", "2", "3"), value: "3"},
		{text: "(define (loop p) (do (print (car p)) (if (< (car p) 4) ((cdr p) (cons (+ 1 (car p)) (cdr p))) 9))) (loop (callcc (fn (k) (cons 0 k))))", told: words("0", "1", "2", "3", "4"), value: "9"},
		{text: "(define (loop p) (if (< (car p) 25) ((cdr p) (cons (+ 1 (car p)) (cdr p))) (print (car p)))) (loop (callcc (fn (k) (cons 0 k))))", told: words("25"), value: "()"},
	}
}

func programsThatDoNotEnd() []program {
	return []program{
		{text: "(do (print 1) (send (self) 5) (print 2))", told: words("1"), asks: "send"},
		{text: "(recv)", asks: "recv"},
		{text: "(do (go 2) (print (cons 1 (recv))))", asks: "recv"},
		{text: "(do (print 4) (spawn (fn () (print 5))))", told: words("4"), asks: "spawn"},
		{text: "(do (print 1) (car 5) (print 2))", told: words("1"), fails: impl.FlType},
		{text: "(do (print 1) (nowhere) (print 2))", told: words("1"), fails: impl.FlName},
		{text: "(do (self) (print 1 2))", fails: impl.FlArgs},
		{text: "(do (print (quote x)) ((quote x)))", told: words("x"), fails: impl.FlCall},
		{text: "(do (print 1000000000) (+ 1000000000 1))", told: words("1000000000"), fails: impl.FlLimit},
	}
}

func allPrograms() []program {
	return slices.Concat(programsThatEnd(), programsThatCatch(), programsThatDoNotEnd())
}

// Endless ones, which need no more room the longer they run: the first one never asks, the others do again and again.
const (
	endless         = "(let k (callcc (fn (k) k)) (k k))"
	endlessPrinting = "(let k (callcc (fn (k) k)) (do (print 7) (k k)))"
	endlessGoing    = "(let k (callcc (fn (k) k)) (do (go 1) (self) (k k)))"
)

// One that needs more and more room, until there is none.
const growing = "(define (f) (cons (f) 1)) (do (print 0) (f))"

func begin(t *testing.T, text string) (impl.Code, impl.Machine) {
	t.Helper()
	c := programOf(t, text)
	m, ok := impl.MachineNew(c, "main")
	if !ok {
		t.Fatalf("%s does not begin", text)
	}
	return c, m
}

func TestRunLimits(t *testing.T) {
	if impl.KeepAbove != 2000 || impl.MaxSteps != 2000 {
		t.Error("limits", impl.KeepAbove, impl.MaxSteps)
	}
}

func TestRunForEachNumberOfSteps(t *testing.T) {
	for _, x := range allPrograms() {
		c, m := begin(t, x.text)
		for _, steps := range []int{-1, -2, -2000, math.MinInt, 0} {
			askRun(t, x.text, c, m, steps, m, 0)
		}
		want, count := m, 0
		for want.State == impl.MsRun {
			want, count = steppedByRules(c, want), count+1
			if len(want.Pool.Nodes) > 2000 {
				want = tidiedByRules(want)
			}
			askRun(t, x.text, c, m, count, want, count)
			if t.Failed() {
				return
			}
		}
		// It ends with the step behind which it runs no more, and that one is counted.
		for _, steps := range []int{count + 1, count + 2, 1999, 2000, 2001, 1 << 32, math.MaxInt} {
			askRun(t, x.text, c, m, max(count, steps), want, count)
		}
	}
}

func TestRunForMaxSteps(t *testing.T) {
	c, m := begin(t, endless)
	for _, steps := range []int{1999, 2000, 2001, 2002, 4000, 1 << 31, 1 << 32, math.MaxInt - 1, math.MaxInt} {
		want, count, tidied := ranByRules(c, m, steps)
		if count != min(steps, 2000) || tidied < 2 || want.State != impl.MsRun {
			t.Fatal("it should run on, and be tidied", steps, count, tidied, want.State)
		}
		askRun(t, "endless", c, m, steps, want, count)
	}
}

// A program that takes more steps than MaxSteps ends with the last one of MaxSteps, or with the one ahead of it, or does not.
func TestRunForThatEndsAtMaxSteps(t *testing.T) {
	c, begun := begin(t, "(define (loop p) (if (< (car p) 200) ((cdr p) (cons (+ 1 (car p)) (cdr p))) (car p))) (loop (callcc (fn (k) (cons 0 k))))")
	all, m := 0, begun
	for m.State == impl.MsRun {
		n, count := impl.RunFor(c, m, 100)
		m, all = n, all+count
	}
	if all < 2100 || impl.Write(m.Pool, m.Arg) != "200" {
		t.Fatal("it takes so many steps", all, toldMachine(m, 0))
	}
	for ahead := 1997; ahead <= 2003; ahead++ {
		from := begun
		for left := all - ahead; left > 0; {
			n, count := impl.RunFor(c, from, left)
			from, left = n, left-count
		}
		want, wantCount, _ := ranByRules(c, from, 3000)
		if wantCount != min(ahead, 2000) || (want.State == impl.MsDone) != (ahead <= 2000) {
			t.Fatal("from there", ahead, wantCount, want.State)
		}
		for _, steps := range []int{2000, 2001, math.MaxInt} {
			askRun(t, "from there", c, from, steps, want, wantCount)
		}
	}
}

func TestRunForOfWhatDoesNotRun(t *testing.T) {
	c, machines := machinesToAsk()
	_, clutter := rightClutter()
	for _, m := range slices.Concat(machines, clutter) {
		for _, n := range []impl.Machine{m, filled(m, 1000), filled(m, 999), filled(m, 0)} {
			for _, steps := range []int{math.MinInt, -1, 0} {
				askRun(t, "no steps", c, n, steps, n, 0)
			}
			for _, steps := range []int{1, 2, 2000, 2001, math.MaxInt} {
				if m.State != impl.MsRun {
					askRun(t, "it does not run", c, n, steps, n, 0)
				} else {
					want, count, _ := ranByRules(c, n, steps)
					askRun(t, "it runs", c, n, steps, want, count)
				}
			}
		}
	}
}

func TestRunForOfWhatIsNotRight(t *testing.T) {
	eachNotRight(func(why string, c impl.Code, m impl.Machine) {
		for _, steps := range []int{math.MinInt, -1, 0, 1, 2, 2000, 2001, math.MaxInt} {
			askRun(t, why, c, m, steps, noMachine(), 0)
		}
	})
}

// withNodes: the machine with as many nodes behind all as it takes to have so many.
func withNodes(m impl.Machine, count int) impl.Machine { return filled(m, impl.MaxNodes-count) }

// It is tidied where there are more than KeepAbove behind a step, whatever that step was and did.
func TestTidiedAboveKeepAbove(t *testing.T) {
	states := map[int]int{}
	steps := fillings()
	fails := codeFrom(impl.Pool{}, "pop, call 1, back, pop")
	for _, n := range []impl.Node{intNode(1), primNode(1), primNode(7), kontNode(2)} {
		steps = append(steps, filling{"fails", fails, aStack(1, n, intNode(1)), 0})
	}
	for _, f := range steps {
		for more := -2; more <= 3; more++ {
			m := withNodes(f.m, 2000+more-f.makes)
			want := steppedByRules(f.code, m)
			if len(want.Pool.Nodes) != 2000+more {
				t.Fatalf("%s: there should be %d nodes, not %d", f.why, 2000+more, len(want.Pool.Nodes))
			}
			if more > 0 {
				want = tidiedByRules(want)
				states[want.State]++
			}
			askRun(t, fmt.Sprint(f.why, ", with ", 2000+more), f.code, m, 1, want, 1)
		}
	}
	for state := range 4 {
		if states[state] == 0 {
			t.Error("none was tidied that came to state", state)
		}
	}
}

// Every second step makes two nodes: so it is known when they are too many.
func TestWhenItIsTidied(t *testing.T) {
	t.Parallel()
	c := codeFrom(poolOf(nilNode()), strings.Repeat("lit 0, pop, ", 150)+"lit 0, back")
	for count := 1980; count <= 2003; count++ {
		m := withNodes(impl.Machine{Pool: poolOf(nilNode())}, count)
		// The step behind which there are more than KeepAbove for the first time.
		first := 1
		if count < 1999 {
			first = 2*((2000-count)/2) + 1
		}
		for steps := 1; steps <= 40; steps++ {
			n, done := impl.RunFor(c, m, steps)
			made := (steps + 1) / 2 * 2
			if done != steps || steps < first && len(n.Pool.Nodes) != count+made || steps >= first && len(n.Pool.Nodes) > 50 {
				t.Fatalf("%d nodes, and %d steps: %d were done, and there are %d nodes", count, steps, done, len(n.Pool.Nodes))
			}
			want, _, tidied := ranByRules(c, m, steps)
			askRun(t, "as often as need be", c, m, steps, want, steps)
			if (tidied > 0) != (steps >= first) {
				t.Fatal("it is tidied at another step", count, steps, first)
			}
		}
	}
}

// Where more is needed than KeepAbove it is tidied behind each step, so that there is never anything else.
func TestTidiedBehindEachStep(t *testing.T) {
	t.Parallel()
	c, begun := begin(t, "(define (f n) (if (= n 0) 5 (f (- n 1)))) (f 12)")
	for _, needed := range []int{1990, 2000, 2100, 2700, 2985, 2998} {
		m := begun
		m.Pool = chain(needed)
		// All of the chain is what waits: it is never taken from.
		m.S, m.E, m.D = 0, 1, needed-1
		for _, steps := range []int{0, 1, 2, 3, 4, 5, 6, 7, 8, 9, 10, 20, 40, 80, 120} {
			want, count, tidied := ranByRules(c, m, steps)
			askRun(t, fmt.Sprint(needed, " are needed"), c, m, steps, want, count)
			if count > 0 && needed > 2000 && (tidied != count || !sameMachine(want, tidiedByRules(want))) {
				t.Fatal("it is not tidied behind each step", needed, steps, tidied, count)
			}
		}
	}
}

func TestRunForUntilItIsFull(t *testing.T) {
	t.Parallel()
	c, begun := begin(t, growing)
	printing, _ := impl.RunFor(c, begun, 2000)
	m := impl.Answer(c, printing, poolOf(nilNode()), 0)
	all, count, tidied := ranByRules(c, m, 2000)
	if all.State != impl.MsFail || all.Ask != impl.FlFull || count < 300 || tidied < 100 || tidied > count-100 {
		t.Fatal("it should be tidied often, and full at last", count, tidied, toldMachine(all, impl.MaxNodes))
	}
	for _, less := range []int{0, 1, 2, 3, 50, tidied - 2, tidied - 1, tidied, tidied + 1, tidied + 2, tidied + 50} {
		want, some, _ := ranByRules(c, m, count-less)
		askRun(t, "until it is full", c, m, count-less, want, some)
	}
	for _, steps := range []int{count + 1, 2000, 2001, math.MaxInt} {
		askRun(t, "until it is full", c, m, steps, all, count)
	}
}

// It is tidied behind a step, and not ahead of it: where there is no room, there is none, though there would be.
func TestNotTidiedAheadOfAStep(t *testing.T) {
	c, begun := begin(t, "(+ 1 2)")
	for room := range 4 {
		m := filled(begun, room)
		want := tidiedByRules(steppedByRules(c, m))
		if (want.State == impl.MsFail && want.Ask == impl.FlFull) != (room < 2) || len(want.Pool.Nodes) > 10 {
			t.Fatal("room", room, toldMachine(want, 0))
		}
		askRun(t, "one step", c, m, 1, want, 1)
		end, count, _ := ranByRules(c, m, 100)
		if (count == 1) != (room < 2) {
			t.Fatal("so many steps", count)
		}
		askRun(t, "to its end", c, m, 100, end, count)
	}
}

func TestRunsInParts(t *testing.T) {
	for _, x := range slices.Concat(allPrograms(), []program{{text: endless}, {text: endlessPrinting}}) {
		c, m := begin(t, x.text)
		for _, steps := range []int{0, 1, 2, 17, 70, 401, 2000} {
			want, all := impl.RunFor(c, m, steps)
			for one := 0; one <= steps; one += 1 + one/4 {
				a, first := impl.RunFor(c, m, one)
				b, second := impl.RunFor(c, a, steps-one)
				if first != min(one, all) || first+second != all || !sameMachine(b, want) {
					t.Fatalf("%s: %d of %d steps and then the rest are %d and %d, not %d; told %s\nasked %s", x.text, one, steps, first, second, all, toldMachine(b, 0), toldMachine(want, 0))
				}
			}
		}
		// One by one.
		n, count := m, 0
		for n.State == impl.MsRun && count < 2000 {
			more := 0
			n, more = impl.RunFor(c, n, 1)
			count += more
		}
		askRun(t, "one by one", c, m, 2000, n, count)
	}
}

func TestRunForByRules(t *testing.T) {
	t.Parallel()
	r := &aRandom{x: 97}
	states, tidied, long := map[int]int{}, 0, 0
	for range 6000 {
		c := r.someCode()
		m := r.someMachine(c)
		if r.below(3) == 0 {
			m = withNodes(m, 1970+r.below(40))
		}
		steps := r.below(30) - 1
		want, count, often := ranByRules(c, m, steps)
		askRun(t, "some", c, m, steps, want, count)
		if t.Failed() {
			return
		}
		states[want.State]++
		tidied += min(often, 1)
		long += count / 3
	}
	for state := range 4 {
		if states[state] < 100 {
			t.Error("the states came up so often", states)
		}
	}
	if tidied < 300 || long < 500 {
		t.Errorf("so many were tidied: %d, and so long: %d", tidied, long)
	}
}

// turnedAlone: the program alone, but turned behind the steps of which the numbers are told. It is only made of RunFor and Answer.
func turnedAlone(c impl.Code, m impl.Machine, turn func(m impl.Machine) impl.Machine, behind func(count int) int) aloneState {
	s := aloneState{m: m}
	for next := behind(0); ; {
		n, done := impl.RunFor(c, s.m, next-s.count)
		s.m, s.count = n, s.count+done
		if s.count == next {
			s.m = turn(s.m)
			next = behind(next)
		}
		if s.m.State == impl.MsAsk {
			s.m, s.told = answeredAlone(c, s.m, s.told)
		}
		if s.m.State != impl.MsRun {
			return s
		}
	}
}

// turns: a machine goes on as it would have, whichever of these is done to it.
func turns(t *testing.T, c impl.Code) map[string]func(m impl.Machine) impl.Machine {
	return map[string]func(m impl.Machine) impl.Machine{
		"as it is":      func(m impl.Machine) impl.Machine { return m },
		"tidied":        impl.Tidy,
		"with others":   func(m impl.Machine) impl.Machine { return withNodes(m, max(len(m.Pool.Nodes), 1950)) },
		"read as bytes": func(m impl.Machine) impl.Machine { return readAgain(t, c, m) },
	}
}

func readAgain(t *testing.T, c impl.Code, m impl.Machine) impl.Machine {
	t.Helper()
	s, ok := impl.MachinePack(c, m)
	n, fine := impl.MachineRead(c, s)
	if !ok || !fine {
		t.Fatalf("not written, or not read: %s", toldMachine(m, 0))
	}
	return n
}

// Promise 9: when a machine is tidied never matters, and from its bytes it goes on as it would have.
func TestRunsHoweverTheyAreTurned(t *testing.T) {
	t.Parallel()
	for _, x := range allPrograms() {
		c, m := begin(t, x.text)
		states := aloneByRules(c, "main", 5000)
		want := states[len(states)-1]
		for why, turn := range turns(t, c) {
			ask := func(when string, behind func(count int) int) {
				t.Helper()
				got := turnedAlone(c, m, turn, behind)
				if got.count != want.count || !slices.Equal(got.told, want.told) || !sameMachine(impl.Tidy(got.m), impl.Tidy(want.m)) {
					t.Fatalf("%s, %s %s, tells %d, %q, %s\nnot %d, %q, %s", x.text, why, when, got.count, got.told, toldMachine(got.m, 0), want.count, want.told, toldMachine(want.m, 0))
				}
			}
			for once := 1; once <= want.count; once++ {
				ask(fmt.Sprint("behind step ", once), func(count int) int {
					if count < once {
						return once
					}
					return 5000
				})
			}
			for often := 1; often <= 9; often++ {
				ask(fmt.Sprint("behind each step of ", often), func(count int) int { return count + often })
			}
			for seed := range 5 {
				r := &aRandom{x: uint64(101 + seed)}
				ask("behind some steps", func(count int) int { return count + 1 + r.below(12) })
			}
		}
	}
}

// A program that has just room for all without ever being tidied: it is tidied once by RunFor.
func TestNeverTidiedAgainstTidied(t *testing.T) {
	for _, text := range []string{
		"(define (f n) (if (= n 0) 0 (+ n (f (- n 1))))) (f 75)",
		"(define (loop p) (if (< (car p) 60) ((cdr p) (cons (+ 1 (car p)) (cdr p))) (car p))) (loop (callcc (fn (k) (cons 0 k))))",
		"(define (f n l) (if (= n 0) l (f (- n 1) (cons (fn (x) (+ x n)) l)))) ((car (f 65 ())) 4)",
	} {
		c, m := begin(t, text)
		never, steps := m, 0
		for never.State == impl.MsRun {
			never, steps = impl.Step(c, never), steps+1
		}
		if never.State != impl.MsDone || len(never.Pool.Nodes) < 2100 {
			t.Fatalf("%s: there are only %d nodes: %s", text, len(never.Pool.Nodes), toldMachine(never, impl.MaxNodes))
		}
		run, count := impl.RunFor(c, m, 2000)
		if count != steps || len(run.Pool.Nodes) == len(never.Pool.Nodes) || !sameMachine(impl.Tidy(run), impl.Tidy(never)) {
			t.Errorf("%s: tidied it comes to %d, %s\nand not to %d, %s", text, count, toldMachine(run, 0), steps, toldMachine(impl.Tidy(never), 0))
		}
	}
}

// askEnd asks what a program came to.
func askEnd(t *testing.T, x program, m impl.Machine, told []string) {
	t.Helper()
	right := slices.Equal(told, x.told)
	switch {
	case x.asks != "":
		right = right && m.State == impl.MsAsk && nameOf(m.Ask) == x.asks
	case x.fails != 0:
		right = right && m.State == impl.MsFail && m.Ask == x.fails && m.At == 0 && m.Arg == 0
	default:
		right = right && m.State == impl.MsDone && writtenWhole(m.Pool, m.Arg) == x.value
	}
	if !right {
		t.Errorf("%s tells %q, and not %q; it comes to %s", x.text, told, x.told, toldMachine(m, len(m.Pool.Nodes)-9))
	}
}

// Programs come to what they should; what is caught and called comes back there.
func TestProgramsAlone(t *testing.T) {
	for _, x := range append(allPrograms(), program{text: growing, told: words("0"), fails: impl.FlFull}) {
		c := programOf(t, x.text)
		for _, steps := range []int{1500, 2000, 2001, 100000, math.MaxInt} {
			m, told, count := impl.Alone(c, "main", steps)
			askEnd(t, x, m, told)
			if count < 2 || count > 1500 {
				t.Errorf("%s takes %d steps", x.text, count)
			}
		}
	}
}

func TestAloneOfOtherNames(t *testing.T) {
	c := programOf(t, "(define (one) (print 1)) (define (two) (do (one) (print 2))) (define (of x) (print x)) (define (car) (print 4)) (of (two))")
	for name, told := range map[string][]string{"one": {"1"}, "two": {"1", "2"}, "main": {"1", "2", "()"}, "car": {"4"}} {
		m, got, _ := impl.Alone(c, name, 500)
		askEnd(t, program{text: name, told: told, value: "()"}, m, got)
	}
	for _, name := range []string{"of", "three", "", "on", "onee", "ONE", "print", "cdr", "\x00", strings.Repeat("one", 2000)} {
		for _, steps := range []int{math.MinInt, -1, 0, 1, 500, math.MaxInt} {
			askAlone(t, "there is none", c, name, steps, aloneState{m: noMachine()})
		}
	}
}

func TestAloneOfWhatIsNoCode(t *testing.T) {
	for _, steps := range []int{math.MinInt, -1, 0, 1, 500, math.MaxInt} {
		for why, b := range brokenCodes() {
			askAlone(t, why, b, "main", steps, aloneState{m: noMachine()})
		}
		askAlone(t, "nothing", impl.Code{}, "main", steps, aloneState{m: noMachine()})
	}
}

// For each number of steps up to all, and beyond: what it is then, and what was told; fewer tell the beginning.
func TestAloneForEachNumberOfSteps(t *testing.T) {
	for _, x := range allPrograms() {
		c := programOf(t, x.text)
		states := aloneByRules(c, "main", 5000)
		all := len(states) - 1
		for _, steps := range []int{-1, -2, -2000, math.MinInt} {
			askAlone(t, x.text, c, "main", steps, states[0])
		}
		for steps, want := range states {
			if want.count != steps {
				t.Fatal("the steps are counted otherwise", steps, want.count)
			}
			askAlone(t, x.text, c, "main", steps, want)
			if last := states[all].told; !slices.Equal(want.told, last[:len(want.told)]) {
				t.Errorf("%s: with %d steps %q is told, with all %q", x.text, steps, want.told, last)
			}
		}
		for _, steps := range []int{all + 1, all + 2, all + 2000, 1 << 32, math.MaxInt} {
			askAlone(t, x.text, c, "main", steps, states[all])
		}
		if t.Failed() {
			return
		}
	}
}

// With just as many steps as it takes to ask it is answered still, and what it prints is told.
func TestAloneThatEndsWithAnAnswer(t *testing.T) {
	c := programOf(t, "(do (print 1) (self) (print 2))")
	// global, lit, call: it asks behind the third.
	for steps, told := range [][]string{nil, nil, nil, words("1"), words("1"), words("1"), words("1"), words("1"), words("1"), words("1"), words("1", "2"), words("1", "2"), words("1", "2")} {
		m, got, count := impl.Alone(c, "main", steps)
		if !slices.Equal(got, told) || count != min(steps, 11) || (m.State == impl.MsRun) != (steps < 11) {
			t.Errorf("with %d steps %q is told, and it comes to %d, %s", steps, got, count, toldMachine(m, 0))
		}
	}
	// What it asks for and is not told is asked still.
	m, told, count := impl.Alone(programOf(t, "(recv)"), "main", 2)
	if m.State != impl.MsAsk || nameOf(m.Ask) != "recv" || len(told) != 0 || count != 2 {
		t.Error("recv", toldMachine(m, 0), told, count)
	}
}

// Alone takes at most MaxSteps in all, however often it is answered, and however many are given.
func TestAloneBeyondMaxSteps(t *testing.T) {
	for text, told := range map[string]int{
		endless: 0, endlessPrinting: 249, endlessGoing: 0,
		// It asks at first, and then runs on.
		"(do (print 1) " + endless + ")":                                                                          1,
		"(do (go 1) (print (self)) (print 2) " + endless + ")":                                                    2,
		"(define (main) (f (callcc id))) (define (id k) k) (define (f k) (g (print 1) k)) (define (g x k) (k k))": 199,
	} {
		c := programOf(t, text)
		states := aloneByRules(c, "main", 9000)
		want := states[len(states)-1]
		if want.count != 2000 || want.m.State != impl.MsRun || len(want.told) != told {
			t.Fatalf("%s: it should run on, and tell %d; it tells %d, %d steps", text, told, len(want.told), want.count)
		}
		for _, steps := range []int{1, 500, 1998, 1999} {
			askAlone(t, text, c, "main", steps, states[steps])
		}
		for _, steps := range []int{2000, 2001, 2002, 2500, 3999, 4000, 4001, 8004, 1 << 31, 1 << 32, 1 << 62, math.MaxInt - 1, math.MaxInt} {
			askAlone(t, text, c, "main", steps, want)
			// With more steps a wrong one might never answer.
			if t.Failed() {
				return
			}
		}
	}
}

// atStep: a program that prints again and again and then comes to what is last, with its last step but for the answer just there.

// One that has printed often comes to its last part ahead of MaxSteps, with just that step, or never.
func TestAloneThatEndsAtMaxSteps(t *testing.T) {
	t.Parallel()
	// How it ends when there are steps enough for the last part; those that are answered take as many steps as those that are not.
	for last, state := range map[string]int{"(print 8)": impl.MsDone, "(self)": impl.MsDone, "(go 1)": impl.MsDone, "(recv)": impl.MsAsk, "(spawn 1)": impl.MsAsk, "(car 1)": impl.MsFail, "8": impl.MsDone} {
		ended := map[int]bool{}
		for _, more := range []int{26, 27, 28, 29, 30, 31, 32, 33, 34, 35, 36} {
			// A 5 takes two steps, and the if takes five.
			end := strings.Repeat("5 ", (more-more%2*5)/2) + strings.Repeat("(if 5 5 5) ", more%2) + last
			c := programOf(t, "(define (loop p) (if (< (car p) 67) (do (print (car p)) ((cdr p) (cons (+ 1 (car p)) (cdr p)))) (end)))", "(define (end) (do "+end+"))", "(loop (callcc (fn (k) (cons 0 k))))")
			states := aloneByRules(c, "main", 9000)
			all := len(states) - 1
			for _, steps := range []int{1998, 1999, 2000, 2001, 2002, 1 << 62} {
				askAlone(t, end, c, "main", steps, states[min(steps, all)])
			}
			ended[all] = ended[all] || states[all].m.State == state
			ended[-1] = ended[-1] || states[all].m.State == impl.MsRun
		}
		if !ended[1998] || !ended[1999] || !ended[2000] || !ended[-1] {
			t.Error(last, "should be the last part", ended)
		}
	}
}

// The steps behind which it is tidied: an answer may leave more than KeepAbove, and only the next step has it tidied.
func TestAloneIsTidiedBehindSteps(t *testing.T) {
	t.Parallel()
	above := 0
	for ahead := range 24 {
		// What is put ahead moves the number of nodes that an answer leaves.
		c := programOf(t, "(do "+strings.Repeat("main ", ahead%8)+strings.Repeat("5 ", ahead/8)+endlessPrinting+")")
		states := aloneByRules(c, "main", 900)
		for steps := 300; steps < 900; steps++ {
			if n := len(states[steps].m.Pool.Nodes); n > 1900 {
				askAlone(t, "many nodes", c, "main", steps, states[steps])
				if n > 2000 {
					above++
				}
			}
		}
	}
	if above == 0 {
		t.Error("no answer left more than KeepAbove")
	}
}

// What is printed is told as Write tells it: the empty text, where that is too long.
func TestAloneOfWhatIsLong(t *testing.T) {
	long := strings.Repeat(" a", 180)
	for names, length := range map[string]int{
		"abcdefghijkl abcdefghijkl abcdefghijk": 399, "abcdefghijkl abcdefghijkl abcdefghijkl": 400,
		"abcdefghijkl abcdefghijkl abcde abcdefg": 401, "abcdefghijkl abcdefghijkl abcdef abcdefg": 402,
	} {
		e := "(l)"
		for _, name := range slices.Backward(strings.Fields(names)) {
			e = "(cons (quote " + name + ") " + e + ")"
		}
		c := programOf(t, "(define (l) (quote ("+long+")))", "(do (print 1) (print "+e+") (print 2))")
		want := "(" + names + long + ")"
		if len(want) != length {
			t.Fatal("so long", len(want), length)
		}
		if length > 400 {
			want = ""
		}
		m, told, _ := impl.Alone(c, "main", 500)
		askEnd(t, program{text: names, told: words("1", want, "2"), value: "()"}, m, told)
	}
	c := programOf(t, "(define (d n) (if (= n 0) (quote a) (let x (d (- n 1)) (cons x x)))) (do (print (d 2)) (print (d 9)) (print (quote ok)))")
	m, told, _ := impl.Alone(c, "main", 2000)
	askEnd(t, program{text: "doubled", told: words("((a . a) a . a)", "", "ok"), value: "()"}, m, told)
}

// Where it is full it ends, and what was told stays.
func TestAloneOfWhatIsFull(t *testing.T) {
	t.Parallel()
	for more := range 3 {
		c := programOf(t, "(define (f n) (do (print n) "+strings.Repeat("(+ 1 ", 8)+"(f (+ n 1))"+strings.Repeat(")", 8)+"))", "(define (g l) (f 0))", "(g (quote ("+strings.Repeat("a ", more)+")))")
		states := aloneByRules(c, "main", 5000)
		want := states[len(states)-1]
		if want.m.State != impl.MsFail || want.m.Ask != impl.FlFull || len(want.told) < 50 {
			t.Fatal("it should be full", want.count, want.told)
		}
		for steps := want.count - 9; steps <= want.count+2; steps++ {
			askAlone(t, "full", c, "main", steps, states[min(steps, want.count)])
		}
	}
}

// talk: an expression that prints, goes about and comes back.
func (r *aRandom) talk(deep int) string {
	if deep == 0 {
		return []string{"1", "x", "x", "(self)", "(quote a)", "#f", "7"}[r.below(7)]
	}
	e := func() string { return r.talk(deep - 1 - r.below(2)*r.below(deep)) }
	switch kind := r.below(12); kind {
	case 0, 1, 2:
		return "(print " + e() + ")"
	case 3:
		return "(go " + e() + ")"
	case 4:
		return "(+ 1 " + []string{"2", "x", e()}[r.below(3)] + ")"
	default:
		return nested(kind, e)
	}
}

// nested: an expression of others that calls, binds and comes back; of each kind from 5 on another one.
func nested(kind int, e func() string) string {
	switch kind {
	case 5:
		return "(cons " + e() + " " + e() + ")"
	case 6:
		return "(if " + e() + " " + e() + " " + e() + ")"
	case 7:
		return "(let x " + e() + " " + e() + ")"
	case 8:
		return "(do " + e() + " " + e() + ")"
	case 9:
		return "(callcc (fn (x) (do " + e() + " (x " + e() + "))))"
	case 10:
		return "(f " + e() + ")"
	}
	return "((fn (x) " + e() + ") " + e() + ")"
}

func TestAloneByRules(t *testing.T) {
	t.Parallel()
	r := &aRandom{x: 103}
	states, said := map[int]int{}, 0
	for range 4000 {
		text := "(define (f x) " + r.talk(3) + ") (define (main) (let x 5 " + r.talk(5) + "))"
		if r.below(10) == 0 {
			text = strings.Replace(text, "(print ", "(spawn ", 1)
		}
		p, list, how, _ := impl.Read(impl.Pool{}, text)
		c, made, _ := impl.Compile(p, list)
		if how != impl.RdDone || made != impl.CpDone {
			continue
		}
		steps := r.below(400)
		all := aloneByRules(c, "main", steps)
		want := all[len(all)-1]
		askAlone(t, text, c, "main", steps, want)
		if t.Failed() {
			return
		}
		states[want.m.State]++
		said += len(want.told)
	}
	for state := range 4 {
		if states[state] < 50 {
			t.Error("they came to so many ends", states)
		}
	}
	if said < 2000 {
		t.Error("they told only so much", said)
	}
}

func TestNothingIsWrittenByRuns(t *testing.T) {
	list := stepsToAsk()
	for _, text := range []string{endless, endlessPrinting, "(define (f n) (if (< n 2) n (+ (f (- n 1)) (f (- n 2))))) (print (f 7))", "(recv)", "(car 1)"} {
		c, m := begin(t, text)
		list = append(list, filling{text, c, m, 0}, filling{text, c, withNodes(m, 1999), 0}, filling{text, c, withNodes(m, 2500), 0}, filling{text, c, filled(m, 0), 0})
	}
	for _, f := range list {
		for _, steps := range []int{-1, 0, 1, 2, 600} {
			askMemory(t, fmt.Sprint("RunFor ", steps, ", ", f.why), f, impl.Pool{}, func(c impl.Code, m impl.Machine, _ impl.Pool) impl.Machine {
				n, _ := impl.RunFor(c, m, steps)
				return n
			})
			for _, name := range []string{"main", "f", ""} {
				askMemory(t, fmt.Sprint("Alone ", steps, ", ", f.why), f, impl.Pool{}, func(c impl.Code, _ impl.Machine, _ impl.Pool) impl.Machine {
					n, _, _ := impl.Alone(c, name, steps)
					return n
				})
			}
		}
	}
}

func TestWhatIsToldIsNewMemory(t *testing.T) {
	c := programOf(t, "(define (none) 5) (do (print 1) (print 2) (print 3))")
	for name, want := range map[string][]string{"main": {"1", "2", "3"}, "none": nil, "nowhere": nil} {
		_, first, _ := impl.Alone(c, name, 500)
		_, second, _ := impl.Alone(c, name, 500)
		for i := range second[:cap(second)] {
			second[:cap(second)][i] = "spoilt"
		}
		_, third, _ := impl.Alone(c, name, 500)
		if !slices.Equal(first, want) || !slices.Equal(third, want) {
			t.Errorf("%s tells %q, and %q", name, first, third)
		}
	}
}
