package tests

import (
	"math"
	"slices"
	"strings"
	"testing"

	"loop.example/g00094/impl"
)

// opsCode has as many ops as it is asked for, where the functions of opsFuncs are laid in two deep and local 0 is a
// value: an invoke of function 1 has 85 of them, one of function 2 has 12, a print has one.
func opsCode(n int) string {
	return strings.Repeat("load 0; invoke 1; drop; ", n/85) + strings.Repeat("load 0; invoke 2; drop; ", n%85/12) + strings.Repeat("load 0; print; ", n%85%12)
}

func opsFuncs() string {
	return "; func 1 1; " + strings.Repeat("load 0; invoke 2; drop; ", 7) + "load 0; return; " +
		"func 1 1; " + strings.Repeat("load 0; print; ", 11) + "load 0; return"
}

// opsModule has so many ops ahead of what comes last.
func opsModule(n int, last string) impl.Module {
	return mod("func 1 1; " + opsCode(n) + last + opsFuncs())
}

func TestMakingUpToMaxOps(t *testing.T) {
	for n := impl.MaxOps - 4; n <= impl.MaxOps+3; n++ {
		c, ok := checkMake(t, asking{opsModule(n-1, "load 0; return"), 0, 0, layOn(2)})
		if want := n <= impl.MaxOps; ok != want || ok && (len(c.Ops) != n || len(c.Exits) != n-1) {
			t.Errorf("%d ops: %v, %d", n, ok, len(c.Ops))
		}
		// Of two blocks together: the second one has a single op.
		c, ok = checkMake(t, asking{opsModule(n-4, "load 0; if 0; load 0; return"), 0, 0, layOn(2)})
		if want := n+1 <= impl.MaxOps; ok != want || ok && len(c.Ops) != n+1 {
			t.Errorf("%d ops in blocks: %v, %d", n+1, ok, len(c.Ops))
		}
	}
}

// valsModule needs n registers for values where functions are laid in: 22 for each call, and one for each not.
func valsModule(n int) impl.Module {
	n -= 2
	return mod("func 1 1; " + strings.Repeat("load 0; invoke 1; drop; ", n/22) + "load 0; " + strings.Repeat("not; ", n%22) + "return; " +
		"func 1 1; load 0; " + strings.Repeat("not; ", 22) + "return")
}

// numsModule needs n bare registers where functions are laid in and numbers are guessed at its first sum.
func numsModule(n int) impl.Module {
	n -= 6
	return mod("func 1 1; load 0; int 1; add; store 0; " + strings.Repeat("load 0; invoke 1; drop; ", n/22) + "load 0; " + strings.Repeat("load 0; add; ", n%22) + "return; " +
		"func 1 1; load 0; " + strings.Repeat("int 1; add; ", 11) + "return")
}

func TestMakingUpToMaxRegs(t *testing.T) {
	guess := layOn(1, spec(0, 2, 1, 0))
	for n := impl.MaxRegs - 3; n <= impl.MaxRegs+3; n++ {
		c, ok := checkMake(t, asking{valsModule(n), 0, 0, layOn(1)})
		if want := n <= impl.MaxRegs; ok != want || ok && (c.Vals != n || c.Nums != 2) {
			t.Errorf("%d registers for values: %v, %d, %d", n, ok, c.Vals, c.Nums)
		}
		c, ok = checkMake(t, asking{numsModule(n), 0, 0, guess})
		if want := n <= impl.MaxRegs; ok != want || ok && (c.Nums != n || c.Vals != 4) {
			t.Errorf("%d bare registers: %v, %d, %d", n, ok, c.Nums, c.Vals)
		}
	}
	// A block that needs fewer does not hide one that needs more.
	for n, want := range map[int]bool{impl.MaxRegs: true, impl.MaxRegs + 1: false} {
		m := valsModule(n)
		m.Funcs[0].Code = append([]impl.Ins{ins(impl.OpLoad, 0), ifTo(2)}, m.Funcs[0].Code...)
		if _, ok := checkMake(t, asking{m, 0, 0, layOn(1)}); ok != want {
			t.Errorf("%d registers in the last block: %v", n, ok)
		}
	}
}

// mustNotMake asks for the zero Fast, false, and no numbers.
func mustNotMake(t *testing.T, name string, a asking) {
	t.Helper()
	c, ok := checkMake(t, a)
	if ok || !sameFast(c, impl.Fast{}) || len(checkNumbers(t, a)) != 0 {
		t.Errorf("%s: made %+v, or numbers %v", name, c, a.numbers())
	}
}

func mustBeMade(t *testing.T, name string, a asking) impl.Fast {
	t.Helper()
	c, ok := checkMake(t, a)
	if !ok || len(checkNumbers(t, a)) != len(a.m.Funcs[a.f].Code) {
		t.Errorf("%s: nothing is made", name)
	}
	return c
}

func TestModulesOfWhichNothingIsMade(t *testing.T) {
	for name, m := range notGood() {
		mustNotMake(t, name, asking{m, 0, 0, impl.Plan{}})
		mustNotMake(t, name, asking{m, len(m.Funcs) - 1, 0, layOn(3)})
	}
	for name, m := range wrongModules() {
		mustNotMake(t, name, asking{m, 0, 0, bareOn()})
	}
	// The one function is fine, another one is not.
	mustBeMade(t, "two good functions", asking{mod("func 0 0; nil; return; func 0 0; nil; return"), 0, 0, impl.Plan{}})
	mustNotMake(t, "another one that is not", asking{mod("func 0 0; nil; return; func 0 0; nil"), 0, 0, impl.Plan{}})
}

func TestFunctionsAndEntriesOfWhichNothingIsMade(t *testing.T) {
	m := mod("func 1 1; load 0; if 4; load 0; print; load 0; if 4; jump 8; jump 8; load 0; return; jump 2; func 0 0; nil; return")
	for f := range m.Funcs {
		entries := []int{0, 4}[:2-f]
		for _, entry := range []int{-1, 0, 1, 2, 3, 4, 5, 6, 7, 8, 9, 10, 11, 63, 64, 119, 120, 127, 128, 129, math.MinInt, math.MaxInt} {
			a := asking{m, f, entry, layOn(1)}
			if slices.Contains(entries, entry) {
				if c := mustBeMade(t, "an entry", a); c.Func != f || c.Entry != entry {
					t.Errorf("other code: %+v", c)
				}
			} else {
				mustNotMake(t, "no entry", a)
			}
		}
	}
	for _, f := range []int{-1, 2, 3, 12, math.MinInt, math.MaxInt} {
		mustNotMake(t, "no function", asking{m, f, 0, layOn(1)})
	}
}

func TestPlansByWhichNothingIsMade(t *testing.T) {
	m := planModule()
	for name, p := range map[string]impl.Plan{
		"Lay of 4": layOn(4), "Lay of -1": layOn(-1), "a great Lay": layOn(math.MaxInt), "two at one place": planOn(spec(0, 2, 1, 0), spec(0, 2, 1, 0)),
		"in another order": planOn(spec(0, 4, 1, 0), spec(0, 2, 1, 0)), "of no instruction": planOn(spec(0, 200, 1, 0)), "of a load": planOn(spec(0, 0, 1, 0)),
		"of another Kind": planOn(spec(0, 2, 2, 0)), "with a Target": planOn(spec(0, 2, 1, 1)), "with other Params": planOn(spec(0, 11, 2, 0)), "odd": oddPlan(),
	} {
		for f := range m.Funcs {
			mustNotMake(t, name, asking{m, f, 0, p})
		}
	}
	for lay := range 4 {
		mustBeMade(t, "a good plan", asking{m, 0, 0, layOn(lay, fullGuesses()...)})
	}
	many := manySites(impl.MaxSites + 1)
	mustBeMade(t, "as many guesses as there may be", asking{many, 0, 0, planOn(manyGuesses(impl.MaxSites)...)})
	mustNotMake(t, "one more", asking{many, 0, 0, planOn(manyGuesses(impl.MaxSites + 1)...)})
}

// The greatest modules: as many instructions, locals and functions as there may be.
func TestMakingOfTheGreatestFunctions(t *testing.T) {
	code := append(slices.Repeat([]impl.Ins{ins(impl.OpLoad, 11), ins(impl.OpStore, 0)}, 59), ins(impl.OpLoad, 0), returnIns)
	c := mustBeMade(t, "MaxCode instructions", asking{impl.Module{Funcs: []impl.Func{{Params: 6, Locals: 12, Code: code}}}, 0, 0, impl.Plan{}})
	if want := []string{"13 13", "ret v11 @119"}; !slices.Equal(spelled(c), want) {
		t.Error(spelled(c))
	}
	high := append(slices.Repeat([]impl.Ins{ins(impl.OpLoad, 0)}, 16), returnIns)
	c = mustBeMade(t, "MaxStack", asking{impl.Module{Funcs: []impl.Func{{Params: 1, Locals: 12, Code: high}}}, 0, 0, impl.Plan{}})
	if want := []string{"28 28", "ret v0 @16"}; !slices.Equal(spelled(c), want) {
		t.Error(spelled(c))
	}
	m := ownLoops(impl.MaxFuncs)
	for f := range m.Funcs {
		for _, entry := range impl.EntriesOf(m, f) {
			mustBeMade(t, "loops", asking{m, f, entry, layOn(3)})
		}
	}
	last := append(slices.Repeat([]impl.Ins{nilIns, ins(impl.OpDrop, 0)}, 59), jump(119), jump(119))
	c = mustBeMade(t, "a loop at the last instruction", asking{one(last...), 0, 119, impl.Plan{}})
	if want := []string{"1 1", "safe x0 @119", "jump 0 @119", "x0 pause / 0 119 |"}; !slices.Equal(spelled(c), want) {
		t.Error(spelled(c))
	}
}
