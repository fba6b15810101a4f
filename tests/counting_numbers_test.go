package tests

import (
	"fmt"
	"math/rand"
	"slices"
	"strings"
	"testing"

	"loop.example/g00094/impl"
)

// exitsHave is how many exits of code are guards, have more frames than one, and have unmade records.
type exitsHave struct {
	guards int
	above  int
	recs   int
}

func whatExitsHave(c impl.Fast) exitsHave {
	var out exitsHave
	for _, e := range c.Exits {
		if e.Kind == impl.ExGuard {
			out.guards++
		}
		if len(e.Frames) > 1 {
			out.above++
		}
		if len(e.Recs) > 0 {
			out.recs++
		}
	}
	return out
}

// checkPromise13 asks of code that was made that no op works on values where the plan guesses numbers, and that its
// exits have nothing that the plan does not allow. It tells at how many such guesses there are ops.
func checkPromise13(t *testing.T, a asking, c impl.Fast) int {
	t.Helper()
	guessed := 0
	for _, s := range a.p.Specs {
		if s.Kind != impl.SpInt {
			continue
		}
		ops := impl.OpsAt(a.m, c, s.Func, s.Pc)
		for _, op := range []int{impl.FAdd, impl.FSub, impl.FMul, impl.FLess} {
			if slices.Contains(ops, op) {
				t.Fatalf("%+v: %v at the guess %v:\n%s", a, ops, s, fastTextByLaw(c))
			}
		}
		guessed += min(len(ops), 1)
	}
	has := whatExitsHave(c)
	if len(a.p.Specs) == 0 && has.guards > 0 || a.p.Lay == 0 && has.above > 0 || !a.p.Bare && has.recs > 0 {
		t.Fatalf("%+v: exits have %+v:\n%s", a, has, fastTextByLaw(c))
	}
	return guessed
}

// setting is where an instruction behind two sources may stand. In its code # stands for the sources, and ! for the
// instruction, which is then instruction pc of function f; in that of function 0 pc counts from the sources' end on.
type setting struct {
	name string
	code string
	f    int
	pc   int
}

// unmadeLocal has an unmade record in local 2, with another one in its field 1.
const unmadeLocal = "new 2; store 2; load 2; new 1; put 1; "

func settings() []setting {
	ends := "; nil; return; func 1 1; load 0; return"
	return []setting{
		{"in the function itself", "func 2 3; " + unmadeLocal + "#; !; print" + ends, 0, 0},
		{"in a loop", "func 2 3; nil; drop; " + unmadeLocal + "#; !; print; load 1; if 2" + ends, 0, 0},
		{"behind a branch", "func 2 3; load 1; if 2; " + unmadeLocal + "#; !; print" + ends, 0, 0},
		{"in a function that was laid in", "func 2 3; " + unmadeLocal + "#; invoke 2; print" + ends + "; func 2 2; load 0; load 1; !; return", 2, 2},
		{"in one that was laid in by a call", "func 2 3; " + unmadeLocal + "fun 2; #; call 2; print" + ends + "; func 2 2; load 0; load 1; !; return", 2, 2},
		{"two deep", "func 2 3; " + unmadeLocal + "#; invoke 3; print" + ends + "; func 2 4; load 0; load 1; !; return; func 2 2; load 0; load 1; invoke 2; return", 2, 2},
		{"three deep, in a loop", "func 2 3; nil; drop; " + unmadeLocal + "#; invoke 3; print; load 1; if 2" + ends +
			"; func 2 4; load 0; load 1; !; return; func 2 2; load 0; load 1; invoke 4; return; func 2 2; load 0; load 1; invoke 2; return", 2, 2},
	}
}

// module puts the sources and the instruction in, and tells where this stands.
func (x setting) module(sources string, word string) (impl.Module, int) {
	pc := x.pc
	if x.f == 0 {
		ahead, _, _ := strings.Cut(x.code, "!")
		pc = strings.Count(strings.Replace(ahead, "#", sources, 1), ";") - 1
	}
	return mod(`text "a"; ` + strings.NewReplacer("#", sources, "!", word).Replace(x.code)), pc
}

// bareOpsOf are the ops where numbers are guessed of these two sources: what is no number is opened, the same register
// once, and what cannot be one leaves; then constants get a bare register.
func bareOpsOf(a sourceKind, b sourceKind, same bool, bare bool, which int) []string {
	var out []string
	for i, s := range []sourceKind{a, b} {
		register := s.value || s.record && !bare
		switch {
		case !s.number && !register:
			return append(out, "exit")
		case register && (i == 0 || !same):
			out = append(out, "open")
		}
	}
	for _, s := range []sourceKind{a, b} {
		if s.code == "int 7" {
			out = append(out, "num")
		}
	}
	return append(out, opWords[impl.FAddN+which])
}

// sourcePair is code that lays two sources. They are the same one where a local is loaded twice, or the top laid once
// more.
type sourcePair struct {
	code string
	a    sourceKind
	b    sourceKind
	same bool
}

func sourcePairs() []sourcePair {
	var out []sourcePair
	for _, a := range sourceKinds() {
		out = append(out, sourcePair{a.code + "; dup", a, a, true})
		for _, b := range sourceKinds() {
			last := a.code[strings.LastIndex(a.code, ";")+1:]
			out = append(out, sourcePair{a.code + "; " + b.code, a, b, a.name == b.name && strings.Contains(last, "load")})
		}
	}
	return out
}

// Each of the four, of each two sources, wherever it stands, at each entry: where numbers are guessed the ops are just
// these, and none works on values; without the guess one does, unless both are numbers anyway.
func TestNumbersGuessedOfAllSources(t *testing.T) {
	tried, midst := 0, 0
	for _, where := range settings() {
		for _, pair := range sourcePairs() {
			for which, word := range []string{"add", "sub", "mul", "less"} {
				m, pc := where.module(pair.code, word)
				guess := spec(where.f, pc, impl.SpInt, 0)
				for _, bare := range []bool{false, true} {
					name := fmt.Sprint(word, " of ", pair.code, " ", where.name, ", Bare ", bare)
					for _, a := range allAskings(m, impl.Plan{Specs: specs(guess), Lay: 3, Bare: bare}) {
						if a.f != 0 {
							continue
						}
						mustBeBare(t, name, a, where.f, pc, bareOpsOf(pair.a, pair.b, pair.same, bare, which))
						a.p.Specs = nil
						mustNotGuess(t, name, a, where.f, pc, pair.a.number && pair.b.number, which)
						tried++
						midst += min(a.entry, 1)
					}
				}
			}
		}
	}
	if tried < 10000 || midst < 2000 {
		t.Errorf("%d codes, %d entered in the midst: they try too little", tried, midst)
	}
}

func mustBeBare(t *testing.T, name string, a asking, f int, pc int, want []string) {
	t.Helper()
	c, ok := a.make()
	if !ok || checkPromise13(t, a, c) != 1 {
		t.Fatalf("%s: nothing is made: %+v", name, a)
	}
	var got []string
	for _, op := range impl.OpsAt(a.m, c, f, pc) {
		got = append(got, opWords[op])
	}
	if !slices.Equal(got, want) {
		t.Fatalf("%s: %v, not %v:\n%s", name, got, want, fastTextByLaw(c))
	}
}

func mustNotGuess(t *testing.T, name string, a asking, f int, pc int, numbers bool, which int) {
	t.Helper()
	c, ok := a.make()
	if !ok {
		t.Fatalf("%s: nothing is made: %+v", name, a)
	}
	checkPromise13(t, a, c)
	ops := impl.OpsAt(a.m, c, f, pc)
	want := impl.FAdd + which
	if numbers {
		want = impl.FAddN + which
	}
	if len(ops) == 0 || ops[len(ops)-1] != want || slices.Contains(ops, impl.FOpen) || slices.Contains(ops, impl.FExit) {
		t.Fatalf("%s, without a guess: %v:\n%s", name, ops, fastTextByLaw(c))
	}
}

// someOf are those of a list whose bits are set.
func someOf(list []impl.Spec, bits int) []impl.Spec {
	var out []impl.Spec
	for i, s := range list {
		if bits>>i&1 == 1 {
			out = append(out, s)
		}
	}
	return out
}

// Of several instructions some are guessed and others are not; they work on registers of their own, so that none of
// them hangs on another's guess. They stand in the function itself, or in one that was laid in.
func TestSomeGuessedAndOthersNot(t *testing.T) {
	four := "load 0; load 1; add; drop; load 2; load 3; sub; drop; load 4; load 5; mul; drop; new 1; get 0; new 1; get 0; less; drop; "
	pcs := []int{2, 6, 10, 16}
	for f, m := range []impl.Module{
		mod("func 6 6; " + four + "nil; return"),
		mod("func 6 6; load 0; load 1; load 2; load 3; load 4; load 5; invoke 1; return; func 6 6; " + four + "nil; return"),
	} {
		var guesses []impl.Spec
		for _, pc := range pcs {
			guesses = append(guesses, spec(f, pc, impl.SpInt, 0))
		}
		for bits := range 16 {
			a := asking{m, 0, 0, layOn(1, someOf(guesses, bits)...)}
			c, ok := a.make()
			if !ok {
				t.Fatalf("%+v: nothing is made", a)
			}
			if got := checkPromise13(t, a, c); got != len(a.p.Specs) {
				t.Errorf("%v: %d guesses have ops", a.p, got)
			}
			for which, pc := range pcs {
				want := places(impl.FAdd + which)
				if bits>>which&1 == 1 {
					want = places(impl.FOpen, impl.FOpen, impl.FAddN+which)
				}
				if got := impl.OpsAt(m, c, f, pc); !slices.Equal(got, want) {
					t.Errorf("%v: %v, not %v, at %d:\n%s", a.p, got, want, pc, fastTextByLaw(c))
				}
			}
		}
	}
}

// All work on the same two registers: behind the first guess these are numbers, also where nothing is guessed.
func TestGuessesThatOthersRestOn(t *testing.T) {
	m := mod("func 2 2; load 0; load 1; add; drop; load 0; load 1; sub; drop; load 1; load 0; mul; drop; load 1; load 1; less; return")
	pcs, registers := []int{2, 6, 10, 14}, [][]int{{0, 1}, {0, 1}, {1, 0}, {1}}
	for bits := range 16 {
		var p impl.Plan
		for which, pc := range pcs {
			if bits>>which&1 == 1 {
				p.Specs = append(p.Specs, spec(0, pc, impl.SpInt, 0))
			}
		}
		c, _ := impl.Make(m, 0, 0, p)
		checkPromise13(t, asking{m, 0, 0, p}, c)
		opened := map[int]int{}
		for which, pc := range pcs {
			var want []int
			for _, n := range registers[which] {
				if opened[n] == 0 {
					want = append(want, impl.FOpen)
				}
			}
			if len(want) > 0 && bits>>which&1 == 0 {
				want = places(impl.FAdd + which)
			} else {
				want = append(want, impl.FAddN+which)
				for _, n := range registers[which] {
					opened[n]++
				}
			}
			if got := impl.OpsAt(m, c, 0, pc); !slices.Equal(got, want) {
				t.Errorf("guesses %v: %v, not %v, at %d:\n%s", p.Specs, got, want, pc, fastTextByLaw(c))
			}
		}
	}
}

// partsPlan has the parts of a plan whose bits are set: guesses, functions that are laid in, unmade records.
func partsPlan(full impl.Plan, bits int) impl.Plan {
	var p impl.Plan
	if bits&1 > 0 {
		p.Specs = full.Specs
	}
	if bits&2 > 0 {
		p.Lay = full.Lay
	}
	p.Bare = bits&4 > 0 && full.Bare
	return p
}

// What a plan has is in the code, and what it has not is not, whatever else it has: each part by itself, and with the
// others, at each entry. Numbers and functions are guessed in function 0, and numbers in those that are laid in.
func TestEachPartOfAPlanByItself(t *testing.T) {
	m := mod("func 3 5; nil; drop; new 2; store 3; load 3; load 0; put 0; load 0; load 1; add; store 4; load 4; load 1; invoke 1; print; load 3; invoke 2; print; " +
		"load 2; load 3; call 1; print; load 1; if 2; load 3; return; func 2 2; load 0; load 1; mul; return; func 1 1; load 0; get 0; load 0; get 0; sub; return")
	for _, guesses := range [][]impl.Spec{
		specs(spec(0, 9, impl.SpInt, 0), spec(0, 20, impl.SpFun, 2), spec(1, 2, impl.SpInt, 0), spec(2, 4, impl.SpInt, 0)),
		specs(spec(0, 9, impl.SpInt, 0)), specs(spec(0, 20, impl.SpFun, 2)),
	} {
		for lay := 1; lay <= 3; lay++ {
			for bits := range 8 {
				for _, entry := range []int{0, 2} {
					a := asking{m, 0, entry, partsPlan(impl.Plan{Specs: guesses, Lay: lay, Bare: true}, bits)}
					c, ok := a.make()
					if !ok {
						t.Fatalf("%+v: nothing is made", a)
					}
					checkPromise13(t, a, c)
					checkCount(t, m, c)
					has := whatExitsHave(c)
					// Without Lay it leaves at the first call, which is ahead of that of a guessed function.
					guards := bits&1 > 0 && (bits&2 > 0 || guesses[0].Kind == impl.SpInt)
					if (has.guards > 0) != guards || (has.above > 0) != (bits&2 > 0) || (has.recs > 0) != (bits&4 > 0) {
						t.Errorf("%+v: exits have %+v:\n%s", a.p, has, fastTextByLaw(c))
					}
				}
			}
		}
	}
}

// TestEachPartOfManyPlans asks it of many programs at each entry of each function: what is not in the plan is not in the
// code, and what is in it is often enough. What was swept keeps the promise.
func TestEachPartOfManyPlans(t *testing.T) {
	r := rand.New(rand.NewSource(78))
	var all [8]exitsHave
	guessed := 0
	for n := range 500 {
		m := looseProgram(r, n)
		full := boldPlan(r, m)
		full.Lay, full.Bare = 1+r.Intn(3), true
		if n%3 == 0 {
			// Some are guessed, and others not.
			full.Specs = randomPlan(r, m).Specs
		}
		for bits := range 8 {
			for _, a := range allAskings(m, partsPlan(full, bits)) {
				c, ok := a.make()
				if !ok {
					continue
				}
				guessed += checkPromise13(t, a, c)
				checkPromise13(t, a, impl.Sweep(m, c))
				has := whatExitsHave(c)
				all[bits].guards += has.guards
				all[bits].above += has.above
				all[bits].recs += has.recs
			}
		}
	}
	for bits, has := range all {
		if has.guards < 1000*(bits&1) || has.above < 50*(bits&2) || has.recs < 250*(bits&4) {
			t.Errorf("of plans with the parts %b exits have %+v: they try too little", bits, has)
		}
	}
	if guessed < 5000 {
		t.Errorf("%d guesses have ops: they try too little", guessed)
	}
}
