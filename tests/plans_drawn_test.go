package tests

import (
	"fmt"
	"math"
	"slices"
	"testing"

	"loop.example/g00094/impl"
)

// Only what fits, and nothing else, is guessed.
func TestPlansOfEachSeen(t *testing.T) {
	m := planModule()
	mustBePlan(t, "nothing seen", m, nil, nil)
	mustBePlan(t, "all seen", m, fullSights(), nil, fullGuesses()...)
	for i, s := range fullSights() {
		mustBePlan(t, "one alone", m, sites(s), nil, fullGuesses()[i])
		for seen := 2; seen <= 3; seen++ {
			if seen == 3 && opAt(m, s.Func, s.Pc) == impl.OpCall {
				continue
			}
			other := site(s.Func, s.Pc, seen, 0)
			mustBePlan(t, "something else", m, sites(other), nil)
			all := fullSights()
			all[i] = other
			mustBePlan(t, "something else among others", m, all, nil, slices.Delete(fullGuesses(), i, i+1)...)
		}
	}
	var none []impl.Site
	for _, s := range fullSights() {
		none = append(none, site(s.Func, s.Pc, 2, 0))
	}
	mustBePlan(t, "something else everywhere", m, none, nil)
}

// A Site may have seen a function that cannot be called so; of that there is no guess.
func TestPlansOfTargetsWithOtherParams(t *testing.T) {
	m := planModule()
	for i, s := range fullSights() {
		for _, x := range planCalls {
			if x.f != s.Func || x.pc != s.Pc {
				continue
			}
			for target := range m.Funcs {
				all := fullSights()
				all[i].Target = target
				want, guess := fullGuesses(), spec(s.Func, s.Pc, impl.SpFun, target)
				if slices.Contains(x.fits, target) {
					want[i] = guess
					mustBePlan(t, "it fits", m, sites(all[i]), nil, guess)
				} else {
					want = slices.Delete(want, i, i+1)
					mustBePlan(t, "it does not", m, sites(all[i]), nil)
					mustBePlan(t, "it does not, and is black", m, sites(all[i]), specs(guess))
				}
				mustBePlan(t, "among others", m, all, nil, want...)
			}
		}
	}
}

// A guess is black by Func, Pc and Kind, whatever its Target.
func TestPlansWithOneBlack(t *testing.T) {
	m := planModule()
	for i, s := range fullGuesses() {
		rest := slices.Delete(fullGuesses(), i, i+1)
		for _, target := range []int{s.Target, 0, 1, 2, 3, 4, 5, -1, math.MinInt, math.MaxInt} {
			black := spec(s.Func, s.Pc, s.Kind, target)
			mustBePlan(t, "black", m, fullSights(), specs(black), rest...)
			mustBePlan(t, "black alone", m, sites(fullSights()[i]), specs(black))
			mustBePlan(t, "black twice", m, fullSights(), specs(black, black), rest...)
			mustBePlan(t, "black with two targets", m, fullSights(), specs(black, s, black), rest...)
			mustBePlan(t, "black behind others", m, fullSights(), append(blackBeside(spec(9, 99, 1, 0)), black), rest...)
		}
	}
}

// What differs in just one of Func, Pc and Kind changes nothing.
func TestPlansWithBlackBeside(t *testing.T) {
	m := planModule()
	for i, s := range fullGuesses() {
		for _, black := range blackBeside(s) {
			mustBePlan(t, fmt.Sprint(black), m, sites(fullSights()[i]), specs(black), s)
			mustBePlan(t, fmt.Sprint(black, " twice"), m, sites(fullSights()[i]), specs(black, black), s)
		}
		mustBePlan(t, "all of them", m, sites(fullSights()[i]), blackBeside(s), s)
	}
}

// What is no Spec of the module is black, too, and changes nothing.
func TestPlansWithBlackThatIsNone(t *testing.T) {
	m := planModule()
	var none []impl.Spec
	for _, f := range []int{-1, 0, 3, 5, 12, math.MinInt, math.MaxInt} {
		for _, pc := range []int{-1, 0, 1, 3, 120, math.MinInt, math.MaxInt} {
			for _, kind := range []int{0, 1, 2, 3, -1, math.MaxInt} {
				none = append(none, spec(f, pc, kind, 0), spec(f, pc, kind, -1))
			}
		}
	}
	mustBePlan(t, "nothing that is there", m, fullSights(), none, fullGuesses()...)
	mustBePlan(t, "nothing that is there, twice", m, fullSights(), append(none, none...), fullGuesses()...)
	mustBePlan(t, "zero Specs", m, fullSights(), make([]impl.Spec, 300), fullGuesses()...)
	mustBePlan(t, "all that is there as well", m, fullSights(), append(none, fullGuesses()...))
	mustBePlan(t, "nothing seen", m, nil, append(none, fullGuesses()...))
	// Of an instruction that was not seen, or saw something else.
	mustBePlan(t, "others than what was seen", m, fullSights()[3:6], append(fullGuesses()[:3], fullGuesses()[6:]...), fullGuesses()[3:6]...)
	mustBePlan(t, "what is not guessed anyway", m, sites(site(0, 2, 3, 0), site(0, 4, 1, 0)), specs(spec(0, 2, 1, 0)), spec(0, 4, 1, 0))
}

// Each subset of the guesses is black once, in either order: no black one takes another with it, in its function or
// in another one.
func TestPlansWithEachSubsetBlack(t *testing.T) {
	m, all := planModule(), fullGuesses()
	for n := range 1 << len(all) {
		var black, rest []impl.Spec
		for i, s := range all {
			if n>>i&1 == 1 {
				s.Target = n % 5
				black = append(black, s)
			} else {
				rest = append(rest, s)
			}
		}
		for range 2 {
			if got := checkPlan(t, m, fullSights(), black, n%4, n%3 == 0); !slices.Equal(got.Specs, rest) {
				t.Fatalf("%v of %v without %v", got, all, black)
			}
			slices.Reverse(black)
		}
	}
}

// The same Pc and Kind in several functions: what is black in one is not so in the others.
func TestBlackInOneFunctionAlone(t *testing.T) {
	m := impl.Module{}
	var list []impl.Site
	var guesses []impl.Spec
	for f := range impl.MaxFuncs {
		m.Funcs = append(m.Funcs, mod("func 0 0; int 1; int 2; add; int 3; less; return").Funcs...)
		list = append(list, site(f, 2, 1, 0), site(f, 4, 1, 0))
		guesses = append(guesses, spec(f, 2, 1, 0), spec(f, 4, 1, 0))
	}
	mustBePlan(t, "none", m, list, nil, guesses...)
	for i, s := range guesses {
		rest := slices.Delete(slices.Clone(guesses), i, i+1)
		mustBePlan(t, "one", m, list, specs(s), rest...)
		mustBePlan(t, "all but one", m, list, rest, s)
	}
}

// Profiles that are not ok have no plan, also where all but one Site is.
func TestPlansOfProfilesThatAreNotOk(t *testing.T) {
	m := watchModule()
	for name, list := range wrongProfiles() {
		for lay := range 4 {
			if got := checkPlan(t, m, list, nil, lay, true); !samePlan(got, impl.Plan{}) {
				t.Errorf("%s: %v", name, got)
			}
		}
	}
	own := planModule()
	for i, s := range fullSights() {
		for _, wrong := range sites(site(s.Func, s.Pc, 0, s.Target), site(s.Func, s.Pc, 4, 0), site(s.Func, s.Pc, 1, 5), site(s.Func, s.Pc, 1, -1), site(s.Func, s.Pc, 2, 1), impl.Site{}) {
			list := fullSights()
			list[i] = wrong
			if got := checkPlan(t, own, list, nil, 1, true); !samePlan(got, impl.Plan{}) {
				t.Errorf("%v: %v", wrong, got)
			}
		}
	}
	twice := append(fullSights(), fullSights()[9])
	if got := checkPlan(t, own, twice, fullGuesses(), 1, true); !samePlan(got, impl.Plan{}) {
		t.Errorf("two of one instruction: %v", got)
	}
}

// A refused call leaves nothing behind, neither does one that draws up a plan.
func TestPlansHangNotOnOtherCalls(t *testing.T) {
	m := planModule()
	for range 3 {
		mustBePlan(t, "nothing black", m, fullSights(), nil, fullGuesses()...)
		mustBePlan(t, "all black", m, fullSights(), fullGuesses())
		if got := impl.PlanOf(m, fullSights(), fullGuesses(), 4, true); !samePlan(got, impl.Plan{}) {
			t.Error(got)
		}
		if got := impl.PlanOf(impl.Module{}, fullSights(), fullGuesses(), 1, true); !samePlan(got, impl.Plan{}) {
			t.Error(got)
		}
	}
}
