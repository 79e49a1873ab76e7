package tests

import (
	"fmt"
	"math"
	"slices"
	"strings"
	"testing"

	"loop.example/g00189/impl"
)

// A made is all that Compile answers.
type made struct {
	code   impl.Code
	how    int
	number int
}

func compiled(p impl.Pool, list []int) made {
	code, how, number := impl.Compile(p, list)
	return made{code, how, number}
}

func sameCode(a impl.Code, b impl.Code) bool {
	return sameNodes(a.Pool, b.Pool) && slices.Equal(a.List, b.List) && slices.Equal(a.Defs, b.Defs)
}

func (a made) equal(b made) bool {
	return a.how == b.how && a.number == b.number && sameCode(a.code, b.code)
}

func cloneCode(c impl.Code) impl.Code {
	return impl.Code{Pool: copyOf(c.Pool), List: slices.Clone(c.List), Defs: slices.Clone(c.Defs)}
}

// valuesOf reads texts one behind the other, so that a program may have more than MaxText bytes.
func valuesOf(t *testing.T, texts ...string) (impl.Pool, []int) {
	t.Helper()
	var p impl.Pool
	var all []int
	for _, text := range texts {
		q, list, how, at := impl.Read(p, text)
		if how != impl.RdDone {
			t.Fatalf("%q is not read: %d at %d", text, how, at)
		}
		p, all = q, append(all, list...)
	}
	return p, all
}

// listing tells code as a text: each instruction by a word and its numbers, a literal as it is written.
func listing(c impl.Code) string {
	var words []string
	for _, in := range c.List {
		switch in.Op {
		case impl.OpLit:
			words = append(words, "lit "+writtenWhole(c.Pool, in.N))
		case impl.OpVar:
			words = append(words, fmt.Sprint("var ", in.N, " ", in.I))
		case impl.OpGlobal:
			words = append(words, "global "+in.S)
		case impl.OpElse:
			words = append(words, fmt.Sprint("else ", in.N))
		case impl.OpJump:
			words = append(words, fmt.Sprint("jump ", in.N))
		case impl.OpFun:
			words = append(words, fmt.Sprint("fun ", in.N, " ", in.I))
		case impl.OpCall:
			words = append(words, fmt.Sprint("call ", in.I))
		case impl.OpBack:
			words = append(words, "back")
		case impl.OpPop:
			words = append(words, "pop")
		default:
			words = append(words, fmt.Sprintf("%+v", in))
		}
	}
	return strings.Join(words, ", ")
}

func defsListing(c impl.Code) string {
	var words []string
	for _, d := range c.Defs {
		words = append(words, fmt.Sprint(d.Name, " ", d.At, " ", d.Args))
	}
	return strings.Join(words, ", ")
}

// askCode asks what a text is compiled to: its instructions and its definitions.
func askCode(t *testing.T, text string, instrs string, defs string) {
	t.Helper()
	p, list := valuesOf(t, text)
	got := compiled(p, list)
	if got.how != impl.CpDone || got.number != len(list) {
		t.Errorf("%s: %d, %d; %d values are asked", text, got.how, got.number, len(list))
		return
	}
	if l := listing(got.code); l != instrs {
		t.Errorf("%s\n is compiled to %s\n       asked: %s", text, l, instrs)
	}
	if l := defsListing(got.code); l != defs {
		t.Errorf("%s: the definitions %s; asked: %s", text, l, defs)
	}
	if !sameNodes(got.code.Pool, p) || !impl.CodeOk(got.code) {
		t.Errorf("%s: the pool is another one, or the code is not right", text)
	}
}

// askMain asks what one expression is compiled to, but for the OpBack behind it.
func askMain(t *testing.T, text string, instrs string) {
	t.Helper()
	askCode(t, text, instrs+", back", "main 0 0")
}

func askRefused(t *testing.T, text string, how int, number int) {
	t.Helper()
	p, list := valuesOf(t, text)
	if got := compiled(p, list); !got.equal(made{how: how, number: number}) {
		t.Errorf("%s: %d at %d, %s; asked: %d at %d", text, got.how, got.number, listing(got.code), how, number)
	}
}

func TestCodeNumbers(t *testing.T) {
	ops := []int{impl.OpLit, impl.OpVar, impl.OpGlobal, impl.OpElse, impl.OpJump, impl.OpFun, impl.OpCall, impl.OpBack, impl.OpPop}
	if !slices.Equal(ops, []int{1, 2, 3, 4, 5, 6, 7, 8, 9}) {
		t.Error("instructions", ops)
	}
	codes := []int{impl.CpDone, impl.CpForm, impl.CpName, impl.CpFull}
	if !slices.Equal(codes, []int{0, 1, 2, 3}) {
		t.Error("codes", codes)
	}
	if impl.MaxCode != 400 || impl.MaxArgs != 4 || impl.MaxDefs != 20 {
		t.Error("limits", impl.MaxCode, impl.MaxArgs, impl.MaxDefs)
	}
}

// backs: so many OpBack.
func backs(n int) []impl.Instr {
	return slices.Repeat([]impl.Instr{{Op: impl.OpBack}}, n)
}

// askInstr asks CodeOk of an instruction among others that are right.
func askInstr(t *testing.T, in impl.Instr, at int, count int, want bool) {
	t.Helper()
	c := impl.Code{Pool: poolOf(nilNode(), intNode(1), intNode(2)), List: backs(count)}
	c.List[at] = in
	if impl.CodeOk(c) != want {
		t.Errorf("%+v at %d of %d: %v", in, at, count, !want)
	}
}

// farNumbers are beyond whatever any instruction lets.
var farNumbers = []int{-2, -100, 401, impl.MaxInt, math.MaxInt, math.MinInt, 1 << 32}

func TestInstrNumbers(t *testing.T) {
	const at, count = 3, 7
	bounds := map[int][4]int{
		// The least and the greatest N, the least and the greatest I.
		impl.OpLit:  {0, 2, 0, 0},
		impl.OpVar:  {0, 20, 0, impl.MaxArgs - 1},
		impl.OpElse: {at + 1, count, 0, 0},
		impl.OpJump: {at + 1, count, 0, 0},
		impl.OpFun:  {at + 1, count - 1, 0, impl.MaxArgs},
		impl.OpCall: {0, 0, 0, impl.MaxArgs},
		impl.OpBack: {0, 0, 0, 0},
		impl.OpPop:  {0, 0, 0, 0},
	}
	for op, b := range bounds {
		for n := -1; n <= 30; n++ {
			for i := -1; i <= 30; i++ {
				want := n >= b[0] && n <= b[1] && i >= b[2] && i <= b[3]
				askInstr(t, impl.Instr{Op: op, N: n, I: i}, at, count, want)
			}
		}
		for _, far := range farNumbers {
			askInstr(t, impl.Instr{Op: op, N: far, I: b[2]}, at, count, false)
			askInstr(t, impl.Instr{Op: op, N: b[0], I: far}, at, count, false)
		}
		for _, s := range []string{"x", "+", "A", "\x00", "main"} {
			askInstr(t, impl.Instr{Op: op, N: b[0], I: b[2], S: s}, at, count, false)
			askInstr(t, impl.Instr{Op: op, N: b[1], I: b[3], S: s}, at, count, false)
		}
	}
}

func TestInstrGlobal(t *testing.T) {
	for s, want := range map[string]bool{
		"x": true, "+": true, "null?": true, "if": true, "abcdefghijkl": true,
		"": false, "abcdefghijklm": false, "A": false, "x1": false, " ": false, "é": false,
	} {
		askInstr(t, impl.Instr{Op: impl.OpGlobal, S: s}, 0, 1, want)
		for _, x := range []int{1, -1, 2, math.MaxInt, math.MinInt} {
			askInstr(t, impl.Instr{Op: impl.OpGlobal, N: x, S: s}, 0, 3, false)
			askInstr(t, impl.Instr{Op: impl.OpGlobal, I: x, S: s}, 0, 3, false)
		}
	}
}

func TestInstrThatIsNone(t *testing.T) {
	for _, op := range []int{0, -1, 10, 11, -9, 100, 1 << 32, 1<<32 + 8, math.MaxInt, math.MinInt} {
		for _, in := range []impl.Instr{{Op: op}, {Op: op, N: 1}, {Op: op, I: 1}, {Op: op, S: "x"}} {
			askInstr(t, in, 0, 3, false)
			askInstr(t, in, 2, 3, false)
		}
	}
}

func TestWaysAtEachPlace(t *testing.T) {
	for count := 1; count <= 6; count++ {
		for at := range count {
			for n := -1; n <= count+2; n++ {
				askInstr(t, impl.Instr{Op: impl.OpElse, N: n}, at, count, n > at && n <= count)
				askInstr(t, impl.Instr{Op: impl.OpJump, N: n}, at, count, n > at && n <= count)
				askInstr(t, impl.Instr{Op: impl.OpFun, N: n}, at, count, n > at && n < count)
			}
		}
	}
}

func TestLiteralsOfThePool(t *testing.T) {
	for count := range 5 {
		c := impl.Code{Pool: manyNodes(count)}
		for n := -2; n <= count+2; n++ {
			c.List = []impl.Instr{{Op: impl.OpLit, N: n}}
			if want := n >= 0 && n < count; impl.CodeOk(c) != want {
				t.Errorf("literal %d of %d nodes: %v", n, count, !want)
			}
		}
	}
	for why, p := range brokenPools() {
		for _, list := range [][]impl.Instr{nil, backs(1), {{Op: impl.OpLit}}} {
			if impl.CodeOk(impl.Code{Pool: p, List: list}) {
				t.Errorf("CodeOk: %s", why)
			}
		}
	}
}

func TestCodeSizes(t *testing.T) {
	for _, n := range []int{0, 1, impl.MaxCode - 1, impl.MaxCode, impl.MaxCode + 1, 5 * impl.MaxCode} {
		if impl.CodeOk(impl.Code{List: backs(n)}) != (n <= impl.MaxCode) {
			t.Errorf("CodeOk of %d instructions: %v", n, n > impl.MaxCode)
		}
	}
	c := impl.Code{List: backs(impl.MaxCode)}
	for _, at := range []int{0, 200, impl.MaxCode - 1} {
		c.List[at] = impl.Instr{Op: impl.OpJump, N: impl.MaxCode}
		if !impl.CodeOk(c) {
			t.Errorf("a jump at %d behind all of MaxCode", at)
		}
		c.List[at].N++
		if impl.CodeOk(c) {
			t.Errorf("a jump at %d beyond MaxCode", at)
		}
		c.List[at] = impl.Instr{Op: impl.OpBack}
	}
	if !impl.CodeOk(impl.Code{}) {
		t.Error("the empty code")
	}
}

// manyDefs: code with n definitions, no two of one name.
func manyDefs(n int) impl.Code {
	c := impl.Code{List: backs(3)}
	for i := range n {
		c.Defs = append(c.Defs, impl.Def{Name: strings.Repeat("f", 1+i%6) + string([]byte{'a' + byte(i/6)}), At: i % 3, Args: i % 5})
	}
	return c
}

func TestDefCounts(t *testing.T) {
	for _, n := range []int{0, 1, impl.MaxDefs - 1, impl.MaxDefs, impl.MaxDefs + 1, 2 * impl.MaxDefs} {
		if impl.CodeOk(manyDefs(n)) != (n <= impl.MaxDefs) {
			t.Errorf("CodeOk with %d definitions: %v", n, n > impl.MaxDefs)
		}
	}
	for i := range impl.MaxDefs {
		for j := range impl.MaxDefs {
			c := manyDefs(impl.MaxDefs)
			c.Defs[i].Name = c.Defs[j].Name
			if impl.CodeOk(c) != (i == j) {
				t.Errorf("%d has the name of %d: %v", i, j, i != j)
			}
		}
	}
}

func TestDefNumbers(t *testing.T) {
	for count := range 4 {
		for at := -2; at <= count+2; at++ {
			for args := -2; args <= impl.MaxArgs+2; args++ {
				c := impl.Code{List: backs(count), Defs: []impl.Def{{Name: "f", At: at, Args: args}}}
				if want := at >= 0 && at < count && args >= 0 && args <= impl.MaxArgs; impl.CodeOk(c) != want {
					t.Errorf("%+v of %d instructions: %v", c.Defs[0], count, !want)
				}
			}
		}
	}
	for _, far := range farNumbers {
		for _, d := range []impl.Def{{Name: "f", At: far}, {Name: "f", Args: far}} {
			for i := range 3 {
				c := manyDefs(3)
				c.Defs[i] = d
				if impl.CodeOk(c) {
					t.Errorf("%+v is let", d)
				}
			}
		}
	}
	for name, want := range map[string]bool{"f": true, "main": true, "if": true, "abcdefghijkl": true, "": false, "abcdefghijklm": false, "F": false, "f ": false, "f1": false} {
		c := impl.Code{List: backs(1), Defs: []impl.Def{{Name: name}}}
		if impl.CodeOk(c) != want {
			t.Errorf("a definition of %q: %v", name, !want)
		}
	}
}

func TestDefOf(t *testing.T) {
	c := impl.Code{Defs: []impl.Def{{Name: "f"}, {Name: "g", At: 9}, {Name: "f", At: 5}, {Name: "G"}, {Name: "g"}, {Name: "h", Args: -1}}}
	for name, want := range map[string]int{"f": 0, "g": 1, "G": 3, "h": 5, "i": -1, "": -1, "F": -1, "ff": -1, "f ": -1, "main": -1, "abcdefghijklm": -1} {
		if got := impl.DefOf(c, name); got != want {
			t.Errorf("DefOf %q is %d, not %d", name, got, want)
		}
		if got := impl.DefOf(impl.Code{}, name); got != -1 {
			t.Errorf("DefOf %q of no definitions is %d", name, got)
		}
	}
	c = manyDefs(impl.MaxDefs)
	for i, d := range c.Defs {
		if impl.DefOf(c, d.Name) != i {
			t.Errorf("DefOf %q is %d, not %d", d.Name, impl.DefOf(c, d.Name), i)
		}
	}
}

func TestCompileOfNothing(t *testing.T) {
	for _, p := range []impl.Pool{{}, mixedPool(), manyNodes(impl.MaxNodes)} {
		for _, list := range [][]int{nil, {}} {
			if got := compiled(p, list); !got.equal(made{code: impl.Code{Pool: p}}) {
				t.Errorf("no value of %d nodes: %+v", len(p.Nodes), got)
			}
		}
	}
}

func TestCompileOfNoNodes(t *testing.T) {
	full := made{how: impl.CpFull}
	for why, p := range brokenPools() {
		for _, list := range [][]int{nil, {}, {0}, {0, 0}, {-1}} {
			if got := compiled(p, list); !got.equal(full) {
				t.Errorf("%s: %+v", why, got)
			}
		}
	}
	p := poolOf(intNode(1), symNode("if"), nilNode())
	for _, bad := range []int{-1, -2, 3, 4, impl.MaxNodes, math.MaxInt, math.MinInt} {
		// It counts ahead of every mistake, wherever it stands.
		for _, list := range [][]int{{bad}, {0, bad}, {bad, 0}, {1, bad}, {0, 0, 0, bad}, {bad, bad}} {
			if got := compiled(p, list); !got.equal(full) {
				t.Errorf("the values %v: %d at %d", list, got.how, got.number)
			}
		}
	}
	if got := compiled(impl.Pool{}, []int{0}); !got.equal(full) {
		t.Errorf("a value of the empty pool: %+v", got)
	}
}

func TestCompileLiterals(t *testing.T) {
	for _, text := range []string{"#t", "#f", "0", "7", "-7", "1000000000", "-1000000000", "()"} {
		askMain(t, text, "lit "+text)
		askMain(t, "(quote "+text+")", "lit "+text)
	}
	for _, text := range []string{"a", "if", "quote", "(a b)", "(quote a)", "(if)", "(define f)", "(fn (x x))", "(a b c d e f g)", "((()))"} {
		askMain(t, "(quote "+text+")", "lit "+text)
	}
	// The literal is the value itself, not one that is alike to it.
	p := poolOf(intNode(5), intNode(5), symNode("quote"), nilNode(), pairNode(1, 3), pairNode(2, 4))
	for v, want := range map[int]int{0: 0, 1: 1, 3: 3, 5: 1} {
		if got := compiled(p, []int{v}); got.how != impl.CpDone || got.code.List[0] != (impl.Instr{Op: impl.OpLit, N: want}) {
			t.Errorf("%d is compiled to %+v", v, got)
		}
	}
}

// Whatever kind it is of, what is quoted is let; as expressions some kinds are not.
func TestCompileEachKind(t *testing.T) {
	p := poolOf(nilNode(), boolNode(0), intNode(3), symNode("x"), pairNode(3, 0), funNode(8, 0), kontNode(0), primNode(1), pidNode(2), pairNode(2, 3))
	firsts := map[int]int{0: impl.OpLit, 1: impl.OpLit, 2: impl.OpLit, 3: impl.OpGlobal, 4: impl.OpGlobal}
	wrong := made{how: impl.CpForm}
	for v := range p.Nodes {
		got := compiled(p, []int{v})
		if op, let := firsts[v]; let && (got.how != impl.CpDone || got.number != 1 || got.code.List[0].Op != op) || !let && !got.equal(wrong) {
			t.Errorf("%+v is compiled to %+v", p.Nodes[v], got)
		}
		q, quote := impl.Make(p, symNode("quote"))
		q, list := impl.MakeList(q, []int{quote, v})
		got = compiled(q, []int{list})
		if got.how != impl.CpDone || got.code.List[0] != (impl.Instr{Op: impl.OpLit, N: v}) {
			t.Errorf("%+v is quoted as %+v", p.Nodes[v], got)
		}
		for _, within := range [][]int{{v}, {v, 2}, {2, v}, {3, 2, v}} {
			q, list := impl.MakeList(p, within)
			got := compiled(q, []int{list})
			if _, let := firsts[v]; let && got.how != impl.CpDone || !let && !got.equal(wrong) {
				t.Errorf("%+v in a list: %+v", p.Nodes[v], got)
			}
		}
	}
}

func TestCompileVariables(t *testing.T) {
	askMain(t, "x", "global x")
	askMain(t, "main", "global main")
	askMain(t, "car", "global car")
	askCode(t, "(define (f) f)", "global f, back", "f 0 0")
	askCode(t, "(define (f x) x)", "var 0 0, back", "f 0 1")
	askCode(t, "(define (f f) f)", "var 0 0, back", "f 0 1")
	askCode(t, "(define (f a b c d) d c b a e)", "var 0 3, pop, var 0 2, pop, var 0 1, pop, var 0 0, pop, global e, back", "f 0 4")
	// The innermost hides the outer ones, and only as far as it reaches.
	askCode(t, "(define (f x y) (fn (x) x y) x)",
		"fun 2 1, jump 6, var 0 0, pop, var 1 1, back, pop, var 0 0, back", "f 0 2")
	askCode(t, "(define (f x y) (fn (y z) (fn (x) x y z f)))",
		"fun 2 2, jump 13, fun 4 1, jump 12, var 0 0, pop, var 1 0, pop, var 1 1, pop, global f, back, back, back", "f 0 2")
	askCode(t, "(define (f x) (let x x x) x)",
		"fun 2 1, jump 4, var 0 0, back, var 0 0, call 1, pop, var 0 0, back", "f 0 1")
	// A frame without a variable is a frame, too.
	askCode(t, "(define (f x) (fn () (fn () x)))",
		"fun 2 0, jump 7, fun 4 0, jump 6, var 2 0, back, back, back", "f 0 1")
	askMain(t, "(fn (x) x)", "fun 2 1, jump 4, var 0 0, back")
	// What one definition binds is not bound in the next one.
	askCode(t, "(define (f x) x) (define (g y) x y) x",
		"var 0 0, back, global x, pop, var 0 0, back, global x, back", "f 0 1, g 2 1, main 6 0")
}

func TestCompileIf(t *testing.T) {
	askMain(t, "(if 1 2 3)", "lit 1, else 4, lit 2, jump 5, lit 3")
	askMain(t, "(if a (f) (g 1))", "global a, else 5, global f, call 0, jump 8, global g, lit 1, call 1")
	askMain(t, "(if (if 1 2 3) 4 5)", "lit 1, else 4, lit 2, jump 5, lit 3, else 8, lit 4, jump 9, lit 5")
	askMain(t, "(if 1 (if 2 3 4) 5)", "lit 1, else 8, lit 2, else 6, lit 3, jump 7, lit 4, jump 9, lit 5")
	askMain(t, "(if 1 2 (if 3 4 5))", "lit 1, else 4, lit 2, jump 9, lit 3, else 8, lit 4, jump 9, lit 5")
	askMain(t, "(if 1 (fn () 2) 3)", "lit 1, else 7, fun 4 0, jump 6, lit 2, back, jump 8, lit 3")
	askMain(t, "(if 1 2 (fn () 3))", "lit 1, else 4, lit 2, jump 8, fun 6 0, jump 8, lit 3, back")
	askMain(t, "(if 1 (do 2 3) (do 4))", "lit 1, else 6, lit 2, pop, lit 3, jump 7, lit 4")
	askMain(t, "(if 1 (let x 2 x) 3)", "lit 1, else 9, fun 4 1, jump 6, var 0 0, back, lit 2, call 1, jump 10, lit 3")
	askCode(t, "(define (f) 1 2) (if 1 2 3)", "lit 1, pop, lit 2, back, lit 1, else 8, lit 2, jump 9, lit 3, back", "f 0 0, main 4 0")
}

func TestCompileFn(t *testing.T) {
	askMain(t, "(fn () 1)", "fun 2 0, jump 4, lit 1, back")
	askMain(t, "(fn (a b c d) 1)", "fun 2 4, jump 4, lit 1, back")
	askMain(t, "(fn (x) 1 2 3)", "fun 2 1, jump 8, lit 1, pop, lit 2, pop, lit 3, back")
	askMain(t, "(fn (x) (fn (y) 1))", "fun 2 1, jump 7, fun 4 1, jump 6, lit 1, back, back")
	askMain(t, "(fn () (fn () 1) (fn () 2))", "fun 2 0, jump 12, fun 4 0, jump 6, lit 1, back, pop, fun 9 0, jump 11, lit 2, back, back")
	askMain(t, "(fn () (if 1 2 3))", "fun 2 0, jump 8, lit 1, else 6, lit 2, jump 7, lit 3, back")
	askMain(t, "((fn (x) x) 1)", "fun 2 1, jump 4, var 0 0, back, lit 1, call 1")
	askCode(t, "(define (f) 1) (define (g) (fn () 2))", "lit 1, back, fun 4 0, jump 6, lit 2, back, back", "f 0 0, g 2 0")
}

func TestCompileDo(t *testing.T) {
	askMain(t, "(do 1)", "lit 1")
	askMain(t, "(do 1 2)", "lit 1, pop, lit 2")
	askMain(t, "(do (do 1 2) 3)", "lit 1, pop, lit 2, pop, lit 3")
	askMain(t, "(do 1 (do 2 3))", "lit 1, pop, lit 2, pop, lit 3")
	askMain(t, "(do (do (do 1)))", "lit 1")
	askMain(t, "(do 1 2 3 4 5 6 7)", "lit 1, pop, lit 2, pop, lit 3, pop, lit 4, pop, lit 5, pop, lit 6, pop, lit 7")
	askMain(t, "(do (if 1 2 3) (fn () 4))", "lit 1, else 4, lit 2, jump 5, lit 3, pop, fun 8 0, jump 10, lit 4, back")
}

func TestCompileLet(t *testing.T) {
	askMain(t, "(let x 1 x)", "fun 2 1, jump 4, var 0 0, back, lit 1, call 1")
	askMain(t, "(let x 1 2 x)", "fun 2 1, jump 6, lit 2, pop, var 0 0, back, lit 1, call 1")
	askMain(t, "(let x (let y 1 x) x)", "fun 2 1, jump 4, var 0 0, back, fun 6 1, jump 8, global x, back, lit 1, call 1, call 1")
	askMain(t, "(let x 1 (let y 2 x y))", "fun 2 1, jump 11, fun 4 1, jump 8, var 1 0, pop, var 0 0, back, lit 2, call 1, back, lit 1, call 1")
	for _, text := range [][2]string{
		{"(let x 1 x)", "((fn (x) x) 1)"},
		{"(let x (f x) (if x 1 x) y)", "((fn (x) (if x 1 x) y) (f x))"},
		{"(let f (fn (f) f) (let g f (f g)))", "((fn (f) ((fn (g) (f g)) f)) (fn (f) f))"},
		{"(define (f x) (let y x (let x y (f x y z))))", "(define (f x) ((fn (y) ((fn (x) (f x y z)) y)) x))"},
	} {
		p, list := valuesOf(t, text[0], text[1])
		a, b := compiled(p, list[:1]), compiled(p, list[1:])
		if a.how != impl.CpDone || b.how != impl.CpDone || listing(a.code) != listing(b.code) || !slices.Equal(a.code.Defs, b.code.Defs) {
			t.Errorf("%s: %s\n%s: %s", text[0], listing(a.code), text[1], listing(b.code))
		}
	}
}

func TestCompileCalls(t *testing.T) {
	askMain(t, "(f)", "global f, call 0")
	askMain(t, "(f 1)", "global f, lit 1, call 1")
	askMain(t, "(f 1 2 3 4)", "global f, lit 1, lit 2, lit 3, lit 4, call 4")
	askMain(t, "((f 1) 2)", "global f, lit 1, call 1, lit 2, call 1")
	askMain(t, "(f (g (h 1) 2) 3)", "global f, global g, global h, lit 1, call 1, lit 2, call 2, lit 3, call 2")
	askMain(t, "(1 2)", "lit 1, lit 2, call 1")
	askMain(t, "(())", "lit (), call 0")
	askMain(t, "(((1)))", "lit 1, call 0, call 0, call 0")
	askMain(t, "(#t ())", "lit #t, lit (), call 1")
	askMain(t, "((quote if) 1 2)", "lit if, lit 1, lit 2, call 2")
	askMain(t, "((if 1 car cdr) 2)", "lit 1, else 4, global car, jump 5, global cdr, lit 2, call 1")
	askRefused(t, "(f 1 2 3 4 5)", impl.CpForm, 0)
	askRefused(t, "(1 2 3 4 5 6)", impl.CpForm, 0)
	askRefused(t, "((f) 1 2 3 4 5)", impl.CpForm, 0)
	// The whole list counts ahead of what is in it.
	askRefused(t, "((fn (x x) 1) 1 2 3 4 5)", impl.CpForm, 0)
	askRefused(t, "((fn (x x) 1) 1 2 3 4)", impl.CpName, 0)
}

func TestCompileDefinitions(t *testing.T) {
	askCode(t, "(define (f) 1)", "lit 1, back", "f 0 0")
	askCode(t, "(define (f a b c d) 1 2)", "lit 1, pop, lit 2, back", "f 0 4")
	askCode(t, "(define (main) 1)", "lit 1, back", "main 0 0")
	askCode(t, "(define (main x) x)", "var 0 0, back", "main 0 1")
	askCode(t, "(define (f x) (g x)) (define (g x) (f x)) (f 1)",
		"global g, var 0 0, call 1, back, global f, var 0 0, call 1, back, global f, lit 1, call 1, back", "f 0 1, g 4 1, main 8 0")
	askCode(t, "1 (define (f) 2) (define (g) 3)", "lit 1, back, lit 2, back, lit 3, back", "main 0 0, f 2 0, g 4 0")
	askCode(t, "(define (car x) x) (car 1)", "var 0 0, back, global car, lit 1, call 1, back", "car 0 1, main 2 0")
	for _, text := range []string{
		"(define (f x x) 1)", "(define (f a b c a) 1)", "(define (f a b b c) 1)",
	} {
		askRefused(t, text, impl.CpName, 0)
	}
	for _, text := range []string{
		"(define)", "(define f)", "(define f 1)", "(define (f))", "(define (f x))", "(define () 1)", "(define (()) 1)", "(define (5) 1)", "(define (#t) 1)",
		"(define ((f) x) 1)", "(define (f 5) 1)", "(define (f (x)) 1)", "(define (f ()) 1)", "(define (f a b c d e) 1)", "(define 5 1)", "(define #f 1)",
		"(define (f if) 1)", "(define (f define) 1)", "(define (f x quote) 1)",
		"(define (f x x 5) 1)", "(define (f x x))", "(define (f a a b c d) 1)",
		"(define (quote) 1)", "(define (if x) 1)", "(define (fn) 1)", "(define (do) 1)", "(define (let) 1)", "(define (define) 1)",
	} {
		askRefused(t, text, impl.CpForm, 0)
	}
}

func TestCompileOneMain(t *testing.T) {
	askRefused(t, "1 2", impl.CpName, 1)
	askRefused(t, "1 (define (f) 2) 3", impl.CpName, 2)
	askRefused(t, "(define (main) 1) 2", impl.CpName, 1)
	askRefused(t, "2 (define (main) 1)", impl.CpName, 1)
	askRefused(t, "2 (define (main x) 1)", impl.CpName, 1)
	askRefused(t, "(define (f) 1) (define (f x) 2)", impl.CpName, 1)
	askRefused(t, "(define (f) 1) (define (g) 2) 3 (define (g) 4)", impl.CpName, 3)
	askRefused(t, "x x", impl.CpName, 1)
	// The definition that an expression is comes ahead of the expression.
	askRefused(t, "1 (if)", impl.CpName, 1)
	askRefused(t, "1 if", impl.CpName, 1)
	askRefused(t, "(define (f) 1) (define (f) (if))", impl.CpName, 1)
	askRefused(t, "(define (f) 1) (define (f x x) (if))", impl.CpName, 1)
	// But what is no definition, though it begins as one, is none of main either.
	askRefused(t, "1 (define)", impl.CpForm, 1)
	askRefused(t, "1 (define f 2)", impl.CpForm, 1)
	askRefused(t, "(define (f) 1) (define (f))", impl.CpForm, 1)
}

func TestCompileFormsThatAreNotAsTold(t *testing.T) {
	bad := []string{
		"quote", "if", "fn", "do", "let", "define",
		"(quote)", "(quote a b)", "(quote 1 2 3)",
		"(if)", "(if 1)", "(if 1 2)", "(if 1 2 3 4)",
		"(fn)", "(fn ())", "(fn (x))", "(fn x x)", "(fn 5 x)", "(fn #t 1)", "(fn (5) 1)", "(fn (()) 1)", "(fn ((x)) 1)", "(fn (x 5) 1)", "(fn (a b c d e) 1)",
		"(fn (quote) 1)", "(fn (if) 1)", "(fn (fn) 1)", "(fn (do) 1)", "(fn (let) 1)", "(fn (define) 1)", "(fn (x x 5) 1)", "(fn (x x))", "(fn (a a b c d) 1)",
		"(do)",
		"(let)", "(let x)", "(let x 1)", "(let 5 1 2)", "(let (x) 1 2)", "(let () 1 2)", "(let if 1 2)", "(let define 1 2)", "(let quote 1 2)", "(let (x 1) x)", "(let ((x 1)) x)",
		"(define (f) 1)",
	}
	for i, form := range bad {
		if form != "(define (f) 1)" {
			askRefused(t, form, impl.CpForm, 0)
			askRefused(t, "(define (g) 1) "+form, impl.CpForm, 1)
		}
		for _, around := range []string{
			"(f %s)", "(%s)", "(%s 1)", "(f 1 2 3 %s)", "(if %s 2 3)", "(if 1 %s 3)", "(if 1 2 %s)", "(do %s)", "(do 1 %s)", "(do %s 1)", "(fn () %s)", "(fn (x) 1 %s)",
			"(let x %s 1)", "(let x 1 %s)", "(let x 1 %s 2)", "(define (h) %s)", "(define (h x) x %s)", "(do (fn () (if 1 (f %s) 2)))",
		} {
			// A name of the forms ahead in a list makes that form of it.
			if i < 6 && strings.HasPrefix(around, "(%s") {
				continue
			}
			askRefused(t, fmt.Sprintf(around, form), impl.CpForm, 0)
		}
		askMain(t, "(quote "+form+")", "lit "+form)
	}
}

func TestCompileNamesTwice(t *testing.T) {
	for _, text := range []string{"(fn (x x) 1)", "(fn (a b a) 1)", "(fn (a b c c) 1)", "(fn (x x) (if))", "(f (fn (x x) 1))", "(let x (fn (y y) 1) 2)", "(let x 1 (fn (y y) 1))"} {
		askRefused(t, text, impl.CpName, 0)
	}
	// In different forms a name may stand more than once.
	askMain(t, "(fn (x) (fn (x) x))", "fun 2 1, jump 7, fun 4 1, jump 6, var 0 0, back, back")
	askMain(t, "(do (fn (x) x) (fn (x) x))", "fun 2 1, jump 4, var 0 0, back, pop, fun 7 1, jump 9, var 0 0, back")
}

func TestCompileWhichMistakeComesFirst(t *testing.T) {
	const form, twice = "(if)", "(fn (x x) 1)"
	for _, around := range []string{"(f %s %s)", "(%s %s)", "(if %s %s 3)", "(if %s 2 %s)", "(if 1 %s %s)", "(do %s %s)", "(do %s 1 %s)", "(fn (x) %s %s)", "(define (h) %s %s)", "(let x 1 %s %s)", "(f (g %s) %s)", "(f %s (g %s))"} {
		askRefused(t, fmt.Sprintf(around, form, twice), impl.CpForm, 0)
		askRefused(t, fmt.Sprintf(around, twice, form), impl.CpName, 0)
	}
	// A let's body stands ahead of its value.
	askRefused(t, "(let x (if) (fn (y y) 1))", impl.CpName, 0)
	askRefused(t, "(let x (fn (y y) 1) (if))", impl.CpForm, 0)
	askRefused(t, "(let x (fn (y y) 1) 1 (if))", impl.CpForm, 0)
	// A form counts ahead of what is in it.
	askRefused(t, "(if (fn (x x) 1) 2)", impl.CpForm, 0)
	askRefused(t, "(let x (fn (y y) 1))", impl.CpForm, 0)
	askRefused(t, "(fn (x x) (if))", impl.CpName, 0)
	askRefused(t, "(fn (x x))", impl.CpForm, 0)
	askRefused(t, "(fn (x x) (do))", impl.CpName, 0)
	// Of two values the first one that is wrong.
	askRefused(t, "(define (f) (if)) (define (f) 1)", impl.CpForm, 0)
	askRefused(t, "(define (f) 1) (define (g x x) 1) (define (h) (if))", impl.CpName, 1)
	askRefused(t, "(define (f) 1) (define (h) (if)) (define (g x x) 1)", impl.CpForm, 1)
	askRefused(t, "(define (f) 1) (define (h) 1) (define (f) 1) if", impl.CpName, 2)
	askRefused(t, "(define (f) 1) (define (h) 1) if (define (f) 1)", impl.CpForm, 2)
}

// Pairs that end with no KNil are no lists, wherever a form wants one.
func TestCompilePairsThatAreNoLists(t *testing.T) {
	p, list := valuesOf(t, "1 x () quote if fn do let define (x) (1) (2 3)")
	one, x := list[0], list[1]
	wrong := made{how: impl.CpForm}
	ask := func(q impl.Pool, v int) {
		t.Helper()
		if got := compiled(q, []int{v}); !got.equal(wrong) {
			t.Errorf("%s: %d at %d, %s", writtenWhole(q, v), got.how, got.number, listing(got.code))
		}
	}
	for _, first := range list {
		for _, end := range []int{one, x} {
			q, v := impl.Make(p, pairNode(first, end))
			ask(q, v)
			for _, second := range list {
				q, v := impl.Make(q, pairNode(second, v))
				ask(q, v)
			}
		}
	}
	// (fn (x . 1) 1), (fn (x . x) 1), (define (x . x) 1), (define (x x . 1) 1)
	p, pair := impl.Make(p, pairNode(x, x))
	p, longer := impl.Make(p, pairNode(x, pair))
	p, odd := impl.Make(p, pairNode(x, one))
	for _, vars := range []int{pair, longer, odd} {
		for _, name := range []int{list[5], list[8]} {
			q, v := impl.MakeList(p, []int{name, vars, one})
			ask(q, v)
		}
	}
}

// A program whose code has as many instructions as are asked: n bodies of one, and what more.
func longProgram(n int, more ...string) (impl.Pool, int) {
	p, list, _, _ := impl.Read(impl.Pool{}, "define (f) 1 "+strings.Join(more, " "))
	whole := append([]int{list[0], list[1]}, slices.Repeat([]int{list[2]}, n)...)
	return impl.MakeList(p, append(whole, list[3:]...))
}

func TestCompileUpToMaxCode(t *testing.T) {
	// So many times 1 are 2n instructions; a 2 behind them two more, a (g) three, an (if 1 2 3) six.
	for _, c := range []struct {
		n    int
		more []string
		size int
	}{
		{199, nil, 398}, {199, []string{"2"}, 400}, {200, nil, 400}, {198, []string{"(g)"}, 399}, {197, []string{"(if 1 2 3)"}, 400}, {198, []string{"(g 1)"}, 400},
		{197, []string{"(fn () 1)"}, 399}, {197, []string{"(fn () 1)", "2"}, 401}, {197, []string{"(g)", "(g)"}, 400},
		{200, []string{"2"}, 402}, {199, []string{"(g)"}, 401}, {201, nil, 402}, {198, []string{"(fn () 1)"}, 401}, {198, []string{"(if 1 2 3)"}, 402}, {800, nil, 1600}, {196, []string{"(let x 1 x)"}, 399}, {197, []string{"(let x 1 x)"}, 401},
	} {
		p, v := longProgram(c.n, c.more...)
		got := compiled(p, []int{v})
		if c.size <= impl.MaxCode {
			if got.how != impl.CpDone || got.number != 1 || len(got.code.List) != c.size || !impl.CodeOk(got.code) {
				t.Errorf("%d and %v: %d at %d, %d instructions; asked: %d", c.n, c.more, got.how, got.number, len(got.code.List), c.size)
			}
		} else if !got.equal(made{how: impl.CpFull}) {
			t.Errorf("%d and %v, %d instructions: %d at %d", c.n, c.more, c.size, got.how, got.number)
		}
	}
}

func TestCompileFullAmongMistakes(t *testing.T) {
	askLong := func(n int, how int, more ...string) {
		t.Helper()
		p, v := longProgram(n, more...)
		if got := compiled(p, []int{v}); !got.equal(made{how: how}) {
			t.Errorf("%d and %v: %d at %d; asked: %d", n, more, got.how, got.number, how)
		}
	}
	// With the OpPop that stands behind them, 200 are MaxCode instructions, and 199 are two less.
	askLong(200, impl.CpForm, "(if)")
	askLong(200, impl.CpName, "(fn (x x) 1)")
	askLong(200, impl.CpFull, "2", "(if)")
	askLong(200, impl.CpFull, "(f (if))")
	askLong(200, impl.CpForm, "((if))")
	askLong(200, impl.CpFull, "(if 1 (if) 2)")
	askLong(200, impl.CpFull, "(fn () (if))")
	askLong(201, impl.CpFull, "(if)")
	askLong(201, impl.CpFull, "(fn (x x) 1)")
	askLong(199, impl.CpForm, "(f (if))")
	askLong(199, impl.CpForm, "2", "(if)")
	askLong(199, impl.CpForm, "(f 1 (if))")
	askLong(199, impl.CpFull, "(f 1 1 (if))")
	askLong(199, impl.CpForm, "(fn () (if))")
	askLong(199, impl.CpFull, "(fn () 1 (if))")
	// A definition that is wrong in itself is so even where there is no more room.
	p, v := longProgram(200)
	for text, how := range map[string]int{"(define (f) 1)": impl.CpName, "(define (g x x) 1)": impl.CpName, "(define (g))": impl.CpForm, "if": impl.CpForm, "(if)": impl.CpForm} {
		q, list, _, _ := impl.Read(p, text)
		if got := compiled(q, []int{v, list[0]}); !got.equal(made{how: how, number: 1}) {
			t.Errorf("%s behind MaxCode instructions: %d at %d", text, got.how, got.number)
		}
	}
	for _, text := range []string{"(define (g) 1)", "1", "(g (if))", "(define (g) 1 (if)) (define (g) 1)"} {
		q, list, _, _ := impl.Read(p, text)
		if got := compiled(q, append([]int{v}, list...)); !got.equal(made{how: impl.CpFull}) {
			t.Errorf("%s behind MaxCode instructions: %d at %d", text, got.how, got.number)
		}
	}
}

// What is not CodeOk is told in the end: behind every other mistake, and with the number 0.
func TestCompileWhatIsNotCodeOk(t *testing.T) {
	deep := func(n int, inner string) string {
		return "(define (f x) " + strings.Repeat("(fn () ", n) + inner + strings.Repeat(")", n) + ")"
	}
	for n := range 30 {
		p, list := valuesOf(t, "(define (a) 1)", deep(n, "x"), "2")
		got := compiled(p, list)
		if n <= 20 && (got.how != impl.CpDone || got.number != 3 || got.code.List[2+2*n] != (impl.Instr{Op: impl.OpVar, N: n})) {
			t.Errorf("a variable %d frames out: %d at %d, %s", n, got.how, got.number, listing(got.code))
		}
		if n > 20 && !got.equal(made{how: impl.CpFull}) {
			t.Errorf("a variable %d frames out: %d at %d", n, got.how, got.number)
		}
		p, list = valuesOf(t, "(define (a) 1)", deep(n, "x"), "(if)")
		if got := compiled(p, list); !got.equal(made{how: impl.CpForm, number: 2}) {
			t.Errorf("a mistake behind a variable %d frames out: %d at %d", n, got.how, got.number)
		}
		p, list = valuesOf(t, deep(n, "y"))
		if got := compiled(p, list); got.how != impl.CpDone {
			t.Errorf("%d frames: %d at %d", n, got.how, got.number)
		}
	}
	for n := range 2 * impl.MaxDefs {
		var texts []string
		for i := range n {
			texts = append(texts, "(define ("+manyDefs(n).Defs[i].Name+") 1)")
		}
		p, list := valuesOf(t, texts...)
		got := compiled(p, list)
		if n <= impl.MaxDefs && (got.how != impl.CpDone || got.number != n || len(got.code.Defs) != n) || n > impl.MaxDefs && !got.equal(made{how: impl.CpFull}) {
			t.Errorf("%d definitions: %d at %d", n, got.how, got.number)
		}
		p, list = valuesOf(t, append(texts, "if")...)
		if got := compiled(p, list); !got.equal(made{how: impl.CpForm, number: n}) {
			t.Errorf("a mistake behind %d definitions: %d at %d", n, got.how, got.number)
		}
	}
}

// However often a value that shares comes up, the end of the code ends it.
func TestCompileOfValuesThatShare(t *testing.T) {
	p := poolOf(nilNode(), symNode("do"), intNode(1), symNode("if"))
	wide, deep, calls, ifs := 2, 2, 2, 2
	make1 := func(parts ...int) int {
		var v int
		p, v = impl.MakeList(p, parts)
		return v
	}
	for range 100 {
		wide, deep, calls, ifs = make1(1, wide, wide), make1(1, deep), make1(calls, calls), make1(3, ifs, ifs, ifs)
	}
	for _, v := range []int{wide, calls, ifs} {
		if got := compiled(p, []int{v}); !got.equal(made{how: impl.CpFull}) {
			t.Errorf("a value that doubles: %d at %d", got.how, got.number)
		}
	}
	if got := compiled(p, []int{deep}); got.how != impl.CpDone || listing(got.code) != "lit 1, back" {
		t.Errorf("one within the other: %d at %d", got.how, got.number)
	}
	// As deep as a pool lets it be.
	p = poolOf(nilNode(), intNode(1))
	for at := 1; len(p.Nodes) < impl.MaxNodes; at++ {
		p.Nodes = append(p.Nodes, pairNode(at, 0))
	}
	for _, v := range []int{1, 2, 100, 399, 400, 1000, impl.MaxNodes - 1} {
		got := compiled(p, []int{v})
		if v <= 399 && (got.how != impl.CpDone || len(got.code.List) != v+1) || v > 399 && !got.equal(made{how: impl.CpFull}) {
			t.Errorf("%d calls within each other: %d at %d, %d instructions", v-1, got.how, got.number, len(got.code.List))
		}
	}
}

// A ruler compiles as the document tells it, piece by piece: places in a piece are counted from the instruction that has them.
type ruler struct {
	p     impl.Pool
	count int
}

type pieces []impl.Instr

// one is an instruction, counted where it comes up.
func (r *ruler) one(in impl.Instr) pieces {
	r.count++
	if r.count > impl.MaxCode {
		panic(impl.CpFull)
	}
	return pieces{in}
}

// must ends a ruler that meets a mistake.
func must(ok bool, how int) {
	if !ok {
		panic(how)
	}
}

func (r *ruler) list(v int) []int {
	list, ok := impl.ListOf(r.p, v)
	must(ok, impl.CpForm)
	return list
}

func (r *ruler) vars(list []int) []string {
	var names []string
	for _, v := range list {
		n := r.p.Nodes[v]
		must(n.Kind == impl.KSym && !strings.Contains(" quote if fn do let define ", " "+n.S+" "), impl.CpForm)
		names = append(names, n.S)
	}
	must(len(names) <= impl.MaxArgs, impl.CpForm)
	return names
}

func apart(names []string) {
	for i := range names {
		must(slices.Index(names, names[i]) == i, impl.CpName)
	}
}

func (r *ruler) body(list []int, frames [][]string) pieces {
	out := r.expr(list[0], frames)
	for _, v := range list[1:] {
		out = append(out, r.one(impl.Instr{Op: impl.OpPop})...)
		out = append(out, r.expr(v, frames)...)
	}
	return out
}

func (r *ruler) fn(names []string, body []int, frames [][]string) pieces {
	apart(names)
	head := append(r.one(impl.Instr{Op: impl.OpFun, N: 2, I: len(names)}), r.one(impl.Instr{Op: impl.OpJump})...)
	inner := r.body(body, slices.Concat([][]string{names}, frames))
	inner = append(inner, r.one(impl.Instr{Op: impl.OpBack})...)
	head[1].N = 1 + len(inner)
	return append(head, inner...)
}

func (r *ruler) expr(v int, frames [][]string) pieces {
	n := r.p.Nodes[v]
	switch n.Kind {
	case impl.KNil, impl.KBool, impl.KInt:
		return r.one(impl.Instr{Op: impl.OpLit, N: v})
	case impl.KSym:
		r.vars([]int{v})
		for out, names := range frames {
			if i := slices.Index(names, n.S); i >= 0 {
				return r.one(impl.Instr{Op: impl.OpVar, N: out, I: i})
			}
		}
		return r.one(impl.Instr{Op: impl.OpGlobal, S: n.S})
	case impl.KPair:
		return r.listExpr(r.list(v), frames)
	}
	panic(impl.CpForm)
}

func (r *ruler) listExpr(list []int, frames [][]string) pieces {
	switch r.p.Nodes[list[0]].S {
	case "quote":
		must(len(list) == 2, impl.CpForm)
		return r.one(impl.Instr{Op: impl.OpLit, N: list[1]})
	case "if":
		must(len(list) == 4, impl.CpForm)
		a := r.expr(list[1], frames)
		toElse := r.one(impl.Instr{Op: impl.OpElse})
		b := r.expr(list[2], frames)
		toEnd := r.one(impl.Instr{Op: impl.OpJump})
		c := r.expr(list[3], frames)
		toElse[0].N, toEnd[0].N = len(b)+2, len(c)+1
		return slices.Concat(a, toElse, b, toEnd, c)
	case "fn":
		must(len(list) >= 3, impl.CpForm)
		return r.fn(r.vars(r.list(list[1])), list[2:], frames)
	case "do":
		must(len(list) >= 2, impl.CpForm)
		return r.body(list[1:], frames)
	case "let":
		must(len(list) >= 4, impl.CpForm)
		f := r.fn(r.vars(list[1:2]), list[3:], frames)
		e := r.expr(list[2], frames)
		return slices.Concat(f, e, r.one(impl.Instr{Op: impl.OpCall, I: 1}))
	case "define":
		panic(impl.CpForm)
	}
	must(len(list) <= impl.MaxArgs+1, impl.CpForm)
	var out pieces
	for _, v := range list {
		out = append(out, r.expr(v, frames)...)
	}
	return append(out, r.one(impl.Instr{Op: impl.OpCall, I: len(list) - 1})...)
}

// headOf tells what a value defines, by which name and with which variables.
func (r *ruler) headOf(v int) (string, []string, []int) {
	list, ok := impl.ListOf(r.p, v)
	if !ok || len(list) == 0 || r.p.Nodes[list[0]] != symNode("define") {
		return "main", nil, []int{v}
	}
	must(len(list) >= 3, impl.CpForm)
	head := r.list(list[1])
	must(len(head) >= 1, impl.CpForm)
	name := r.vars(head[:1])[0]
	return name, r.vars(head[1:]), list[2:]
}

func compiledByRules(p impl.Pool, list []int) (got made) {
	number := 0
	defer func() {
		if how := recover(); how != nil {
			got = made{how: how.(int), number: number}
			if got.how == impl.CpFull {
				got.number = 0
			}
		}
	}()
	r := &ruler{p: p}
	c := impl.Code{Pool: p}
	far := false
	for i, v := range list {
		number = i
		name, vars, body := r.headOf(v)
		apart(vars)
		must(!slices.ContainsFunc(c.Defs, func(d impl.Def) bool { return d.Name == name }), impl.CpName)
		c.Defs = append(c.Defs, impl.Def{Name: name, At: len(c.List), Args: len(vars)})
		for _, in := range append(r.body(body, [][]string{vars}), r.one(impl.Instr{Op: impl.OpBack})...) {
			if in.Op == impl.OpElse || in.Op == impl.OpJump || in.Op == impl.OpFun {
				in.N += len(c.List)
			}
			far = far || in.Op == impl.OpVar && in.N > 20
			c.List = append(c.List, in)
		}
	}
	must(len(c.Defs) <= impl.MaxDefs && !far, impl.CpFull)
	return made{code: c, number: len(list)}
}

// program: definitions and expressions, mostly right; the higher loose is, the more is wrong.
func (r *aRandom) program(loose int) string {
	var out []string
	for range 1 + r.below(4) {
		e := r.form(4, loose)
		if r.below(4) > 0 {
			e = "(define (" + []string{"f", "g", "h", "main", "k", "car"}[r.below(6)] + r.someVars(loose) + ") " + r.forms(1+r.below(2), 3, loose) + ")"
		}
		out = append(out, e)
	}
	return strings.Join(out, " ")
}

func (r *aRandom) someVars(loose int) string {
	s := ""
	names := []string{"x", "y", "z", "a"}
	for i := range r.below(4) {
		if r.below(100) < loose {
			s += " " + []string{"x", "if", "5", "(x)", "y y y"}[r.below(5)]
			continue
		}
		s += " " + names[i]
	}
	return s
}

func (r *aRandom) forms(n int, deep int, loose int) string {
	var out []string
	for range n {
		out = append(out, r.form(deep, loose))
	}
	return strings.Join(out, " ")
}

func (r *aRandom) form(deep int, loose int) string {
	if r.below(100) < loose {
		return []string{"if", "(if)", "(do)", "(fn (x x) 1)", "(fn (5) 1)", "(let 1 2 3)", "(quote)", "(f 1 2 3 4 5)", "(define (f) 1)", "(let x 1)"}[r.below(10)]
	}
	if deep == 0 || r.below(4) == 0 {
		return []string{"x", "y", "z", "a", "f", "main", "+", "5", "#f", "()", "(quote (if x))"}[r.below(11)]
	}
	deep--
	switch r.below(5) {
	case 0:
		return "(if " + r.forms(3, deep, loose) + ")"
	case 1:
		return "(fn (" + r.someVars(loose) + ") " + r.forms(1+r.below(2), deep, loose) + ")"
	case 2:
		return "(do " + r.forms(1+r.below(3), deep, loose) + ")"
	case 3:
		return "(let " + []string{"x", "y", "z"}[r.below(3)] + " " + r.forms(2+r.below(2), deep, loose) + ")"
	}
	return "(" + r.forms(1+r.below(3), deep, loose) + ")"
}

func TestCompileByRules(t *testing.T) {
	r := &aRandom{x: 5}
	met := map[int]int{}
	for i := range 6000 {
		text := r.program([]int{0, 1, 4, 20}[i%4])
		p, list, how, _ := impl.Read(mixedPool(), text)
		if how != impl.RdDone {
			continue
		}
		got, asked := compiled(p, list), compiledByRules(p, list)
		met[asked.how]++
		if !got.equal(asked) {
			t.Fatalf("%s\n%d at %d: %s\nasked: %d at %d: %s", text, got.how, got.number, listing(got.code), asked.how, asked.number, listing(asked.code))
		}
	}
	for how := impl.CpDone; how <= impl.CpName; how++ {
		if met[how] < 300 {
			t.Errorf("the code %d came up %d times", how, met[how])
		}
	}
}

// Programs of about MaxCode instructions, with mistakes ahead of the last one or behind it.
func TestLongProgramsByRules(t *testing.T) {
	t.Parallel()
	r := &aRandom{x: 31}
	met := map[int]int{}
	for i := range 400 {
		p, list := valuesOf(t, "do (define (f x) x)")
		parts := []int{list[0]}
		for range 15 + r.below(30) {
			var more []int
			p, more, _, _ = impl.Read(p, r.form(3, i%2))
			parts = append(parts, more...)
		}
		p, v := impl.MakeList(p, parts)
		if v < 0 {
			continue
		}
		values := []int{list[1], v}
		got, asked := compiled(p, values), compiledByRules(p, values)
		met[asked.how]++
		if !got.equal(asked) {
			t.Fatalf("%d forms: %d at %d, %d instructions; asked: %d at %d, %d", len(parts), got.how, got.number, len(got.code.List), asked.how, asked.number, len(asked.code.List))
		}
	}
	if met[impl.CpDone] < 50 || met[impl.CpForm] < 50 || met[impl.CpName] < 10 || met[impl.CpFull] < 50 {
		t.Errorf("the codes came up so often: %v", met)
	}
}

// Values of any pool, as they come: mostly no programs, but each has its answer.
func TestCompileOfAnyPools(t *testing.T) {
	r := &aRandom{x: 17}
	names := []string{"quote", "if", "fn", "do", "let", "define", "x", "y", "f"}
	met := map[int]int{}
	for range 4000 {
		p := r.pool(4 + r.below(20))
		for at := range p.Nodes {
			switch r.below(4) {
			case 0:
				p.Nodes[at] = symNode(names[r.below(len(names))])
			case 1:
				if at > 0 {
					p.Nodes[at] = pairNode(r.below(at), r.below(at))
				}
			}
		}
		for range 4 {
			var v int
			p, v = impl.MakeList(p, []int{r.below(len(p.Nodes)), r.below(len(p.Nodes)), r.below(len(p.Nodes))}[:1+r.below(3)])
			got, asked := compiled(p, []int{v}), compiledByRules(p, []int{v})
			met[asked.how]++
			if !got.equal(asked) {
				t.Fatalf("%d of %+v: %d at %d; asked: %d at %d", v, p, got.how, got.number, asked.how, asked.number)
			}
		}
	}
	if met[impl.CpDone] < 100 || met[impl.CpForm] < 100 {
		t.Errorf("the codes came up so often: %v", met)
	}
}

// Promise 4: what is compiled is right; its ways go forward, its definitions begin where one before it ends.
func TestWhatIsCompiledIsRight(t *testing.T) {
	r := &aRandom{x: 23}
	done := 0
	for range 3000 {
		text := r.program(0)
		p, list, read, _ := impl.Read(impl.Pool{}, text)
		c, how, number := impl.Compile(p, list)
		if read != impl.RdDone || how != impl.CpDone {
			continue
		}
		done++
		if !impl.CodeOk(c) || number != len(list) || len(c.Defs) != len(list) || !sameNodes(c.Pool, p) {
			t.Fatalf("%s: %d, %s, %s", text, number, listing(c), defsListing(c))
		}
		for i, d := range c.Defs {
			if impl.DefOf(c, d.Name) != i || d.At > 0 && c.List[d.At-1].Op != impl.OpBack || i == 0 && d.At != 0 {
				t.Fatalf("%s: the definition %+v", text, d)
			}
		}
		for at, in := range c.List {
			askWay(t, text, c, at, in)
		}
		if c.List[len(c.List)-1] != (impl.Instr{Op: impl.OpBack}) {
			t.Fatalf("%s does not end with OpBack", text)
		}
	}
	if done < 800 {
		t.Errorf("only %d were compiled", done)
	}
}

// askWay asks where an instruction goes: behind an OpJump, behind a body, and never out of its definition.
func askWay(t *testing.T, text string, c impl.Code, at int, in impl.Instr) {
	t.Helper()
	switch in.Op {
	case impl.OpElse:
		if in.N <= at || c.List[in.N-1].Op != impl.OpJump {
			t.Fatalf("%s: the OpElse at %d goes to %d", text, at, in.N)
		}
	case impl.OpFun:
		if in.N != at+2 || c.List[at+1].Op != impl.OpJump || c.List[c.List[at+1].N-1].Op != impl.OpBack {
			t.Fatalf("%s: the OpFun at %d begins at %d", text, at, in.N)
		}
	}
	if in.Op != impl.OpElse && in.Op != impl.OpJump {
		return
	}
	for _, d := range c.Defs {
		if d.At > at && in.N >= d.At {
			t.Fatalf("%s: what stands at %d goes out of its definition to %d", text, at, in.N)
		}
	}
}

func programsToAsk() []string {
	return []string{"", "1", "x", "(define (f x) (if x (quote a) (fn (y) (f y)))) (f 3)", "(let x 1 (do x (f x)))", "1 2", "(if)", "(fn (x x) 1)", "(define (f) 1) (define (f) 2)"}
}

func TestNothingIsWrittenByCompile(t *testing.T) {
	for _, text := range programsToAsk() {
		p, list := valuesOf(t, text)
		q, nodes := roomy(p)
		values := append(slices.Clone(list), -5, -6, -7)
		nodesBefore, valuesBefore := slices.Clone(nodes), slices.Clone(values)
		first := compiled(q, values[:len(list)])
		kept := made{cloneCode(first.code), first.how, first.number}
		second := compiled(q, values[:len(list)])
		spoilCode(second.code)
		if !slices.Equal(nodes, nodesBefore) || !slices.Equal(values, valuesBefore) {
			t.Errorf("%s: an argument was written into, or the answer shares its memory", text)
		}
		spoilNodes(impl.Pool{Nodes: nodes})
		for i := range values {
			values[i] = -9
		}
		if !first.equal(kept) {
			t.Errorf("%s: the answer shares memory with an argument, or with another one", text)
		}
		if third := compiled(p, list); !third.equal(kept) {
			t.Errorf("%s: something is kept from call to call", text)
		}
	}
}

func spoilCode(c impl.Code) {
	spoilNodes(c.Pool)
	for i := range c.List[:cap(c.List)] {
		c.List[:cap(c.List)][i] = impl.Instr{Op: -7, N: -7, I: -7, S: "spoilt"}
	}
	for i := range c.Defs[:cap(c.Defs)] {
		c.Defs[:cap(c.Defs)][i] = impl.Def{Name: "spoilt", At: -7, Args: -7}
	}
}

func TestCompileOfBrokenPoolsWritesNothing(t *testing.T) {
	for _, p := range poolsToAsk() {
		q, whole := roomy(p)
		before := slices.Clone(whole)
		list := []int{0, 0, -1, len(p.Nodes)}
		for n := range list {
			compiled(q, list[:n])
		}
		if !slices.Equal(whole, before) || !slices.Equal(list, []int{0, 0, -1, len(p.Nodes)}) {
			t.Errorf("a pool of %d nodes or the list was written into", len(p.Nodes))
		}
	}
}

func TestNothingIsWrittenIntoCode(t *testing.T) {
	codes := []impl.Code{{}, {List: backs(3)}, {List: backs(impl.MaxCode + 1)}, manyDefs(5), manyDefs(30), {Pool: mixedPool(), List: []impl.Instr{{Op: impl.OpLit, N: 99}}}}
	for _, c := range codes {
		nodes := append(slices.Clone(c.Pool.Nodes), intNode(7))
		list := append(slices.Clone(c.List), impl.Instr{Op: impl.OpPop})
		defs := append(slices.Clone(c.Defs), impl.Def{Name: "spare"})
		q := impl.Code{Pool: impl.Pool{Nodes: nodes[:len(nodes)-1]}, List: list[:len(list)-1], Defs: defs[:len(defs)-1]}
		impl.CodeOk(q)
		for _, name := range []string{"", "f", "spare", "fa"} {
			impl.DefOf(q, name)
		}
		if !sameCode(q, c) || nodes[len(nodes)-1] != intNode(7) || list[len(list)-1].Op != impl.OpPop || defs[len(defs)-1].Name != "spare" {
			t.Errorf("code of %d instructions was written into", len(c.List))
		}
		if impl.DefOf(q, "spare") != -1 {
			t.Error("a definition in the spare room is found")
		}
	}
}
