package tests

import (
	"fmt"
	"math"
	"slices"
	"testing"

	"loop.example/g00094/impl"
)

func TestNumbersOfPlans(t *testing.T) {
	if impl.SpInt != 1 || impl.SpFun != 2 {
		t.Error(impl.SpInt, impl.SpFun)
	}
}

// planModule has in function 0 each of the four at 2, 4, 6 and 8, and calls with one value at 11 and 13; in function 1
// a call without one; in function 2, where nobody comes to, a sum at 2, and calls with two and with six values.
// Functions 1 and 3 take one value, 2 takes none, 0 takes two, and 4 takes six.
func planModule() impl.Module {
	return mod("func 2 2; load 0; load 1; add; load 1; sub; load 1; mul; load 1; less; not; load 0; call 1; nil; call 1; return; " +
		"func 1 1; load 0; call 0; return; " +
		"func 0 0; nil; return; add; call 2; call 6; " +
		"func 1 1; load 0; return; " +
		"func 6 6; nil; return")
}

// numberPcs are where the four stand in function 0 of planModule.
var numberPcs = []int{2, 4, 6, 8}

// planCalls are the calls of planModule, and the functions that each of them can call.
var planCalls = []struct {
	f    int
	pc   int
	fits []int
}{
	{0, 11, []int{1, 3}}, {0, 13, []int{1, 3}}, {1, 1, []int{2}}, {2, 3, []int{0}}, {2, 4, []int{4}},
}

// fullGuesses has a guess at each instruction of planModule at which there is one.
func fullGuesses() []impl.Spec {
	return specs(spec(0, 2, 1, 0), spec(0, 4, 1, 0), spec(0, 6, 1, 0), spec(0, 8, 1, 0), spec(0, 11, 2, 1), spec(0, 13, 2, 3),
		spec(1, 1, 2, 2), spec(2, 2, 1, 0), spec(2, 3, 2, 0), spec(2, 4, 2, 4))
}

// fullSights is a profile of which fullGuesses are drawn up.
func fullSights() []impl.Site {
	var out []impl.Site
	for _, s := range fullGuesses() {
		out = append(out, site(s.Func, s.Pc, 1, s.Target))
	}
	return out
}

func checkPlans(t *testing.T, name string, m impl.Module, p impl.Plan, want bool) {
	t.Helper()
	if got := checkPlanOk(t, m, p); got != want {
		t.Errorf("%s: %v of %v", name, got, p)
	}
}

func TestPlansThatAreOk(t *testing.T) {
	m := planModule()
	list := []impl.Plan{{}, planOn(), planOn(fullGuesses()...), planOn(fullGuesses()[3:7]...), planOn(fullGuesses()[9:]...)}
	for _, s := range fullGuesses() {
		list = append(list, planOn(s))
	}
	for _, x := range planCalls {
		for _, target := range x.fits {
			list = append(list, planOn(spec(x.f, x.pc, impl.SpFun, target)))
		}
	}
	for _, p := range list {
		for lay := range 4 {
			p.Lay = lay
			for _, bare := range []bool{false, true} {
				p.Bare = bare
				checkPlans(t, "a plan", m, p, true)
			}
		}
	}
}

func TestLayOfPlans(t *testing.T) {
	m := planModule()
	for _, lay := range []int{-1, -2, 4, 5, math.MinInt, math.MaxInt} {
		for _, list := range [][]impl.Spec{nil, {}, fullGuesses()} {
			for _, bare := range []bool{false, true} {
				checkPlans(t, fmt.Sprint("Lay ", lay), m, impl.Plan{Specs: list, Lay: lay, Bare: bare}, false)
				if got := checkPlan(t, m, fullSights(), list, lay, bare); !samePlan(got, impl.Plan{}) {
					t.Errorf("Lay %d: %v", lay, got)
				}
			}
		}
	}
}

// Each of the four has two numbers, and is about no function.
func TestGuessesAtNumbers(t *testing.T) {
	m := planModule()
	for _, pc := range numberPcs {
		for kind := -1; kind <= 4; kind++ {
			for _, target := range []int{0, 1, -1, 2, 3, 4, 5, math.MinInt, math.MaxInt} {
				checkPlans(t, "of the four", m, planOn(spec(0, pc, kind, target)), kind == 1 && target == 0)
			}
		}
	}
}

// What is called must be there, and take as many values as there are.
func TestGuessesAtCalls(t *testing.T) {
	m := planModule()
	for _, x := range planCalls {
		for kind := -1; kind <= 4; kind++ {
			for _, target := range []int{0, 1, 2, 3, 4, -1, 5, 6, math.MinInt, math.MaxInt} {
				want := kind == 2 && slices.Contains(x.fits, target)
				checkPlans(t, "of a call", m, planOn(spec(x.f, x.pc, kind, target)), want)
			}
		}
	}
}

// A call and a function with each number of values.
func TestGuessesAtCallsWithEachNumberOfValues(t *testing.T) {
	for a := range impl.MaxParams + 1 {
		m := impl.Module{Funcs: []impl.Func{{Code: append(nils(a+1), call(a), returnIns)}}}
		for params := range impl.MaxParams + 1 {
			m.Funcs = append(m.Funcs, impl.Func{Params: params, Locals: params + 1, Code: []impl.Ins{nilIns, returnIns}})
		}
		for target := range m.Funcs {
			fits := target == a+1 || target == 0 && a == 0
			guess := spec(0, a+1, impl.SpFun, target)
			checkPlans(t, "of a call", m, planOn(guess), fits)
			if fits {
				mustBePlan(t, "it fits", m, sites(site(0, a+1, 1, target)), nil, guess)
			} else {
				mustBePlan(t, "it does not", m, sites(site(0, a+1, 1, target)), nil)
			}
		}
	}
}

// Nothing is guessed at the others, also not at those that work on numbers, or call, in another way.
func TestGuessesAtOtherOps(t *testing.T) {
	for _, x := range eachOp(8) {
		m := atHeight(8, x)
		pc := slices.Index(m.Funcs[0].Code, x)
		for kind := -1; kind <= 4; kind++ {
			for target := -1; target <= len(m.Funcs); target++ {
				p := planOn(spec(0, pc, kind, target))
				four := within(x.Op, impl.OpAdd, impl.OpLess) && kind == 1 && target == 0
				if ok := checkPlanOk(t, m, p); ok && !four && x.Op != impl.OpCall {
					t.Errorf("%v at %v is taken", p, x)
				}
			}
		}
	}
	m := planModule()
	for pc, x := range m.Funcs[0].Code {
		if !within(x.Op, impl.OpAdd, impl.OpLess) && x.Op != impl.OpCall {
			checkPlans(t, "another one", m, planOn(spec(0, pc, 1, 0)), false)
			checkPlans(t, "another one", m, planOn(spec(0, pc, 2, 1)), false)
		}
	}
	invoking := mod("func 0 0; nil; invoke 1; return; func 1 1; load 0; dup; same; return")
	checkPlans(t, "an invoke", invoking, planOn(spec(0, 1, 2, 1)), false)
	checkPlans(t, "a same", invoking, planOn(spec(1, 2, 1, 0)), false)
	checkPlans(t, "the zero Spec", one(nilIns, returnIns), planOn(impl.Spec{}), false)
	checkPlans(t, "the zero Spec", mod("func 0 0; jump 2; add; nil; return"), planOn(impl.Spec{}), false)
}

func TestGuessesAtNoInstruction(t *testing.T) {
	m := planModule()
	for _, kind := range []int{impl.SpInt, impl.SpFun} {
		for _, f := range []int{-1, 5, 6, 12, math.MinInt, math.MaxInt} {
			for _, pc := range []int{0, 1, 2, 11, -1} {
				checkPlans(t, "no function", m, planOn(spec(f, pc, kind, 0)), false)
			}
		}
		for f, fn := range m.Funcs {
			for _, pc := range []int{-1, -2, len(fn.Code), len(fn.Code) + 1, 120, math.MinInt, math.MaxInt} {
				checkPlans(t, "no instruction", m, planOn(spec(f, pc, kind, 0)), false)
			}
		}
	}
	// An instruction that another function has alone.
	checkPlans(t, "of a longer function", m, planOn(spec(2, 6, impl.SpInt, 0)), false)
	checkPlans(t, "of a longer function", m, planOn(spec(3, 11, impl.SpFun, 1)), false)
}

func TestTheOrderOfGuesses(t *testing.T) {
	m, all := planModule(), fullGuesses()
	for i, a := range all {
		for k, b := range all {
			checkPlans(t, "two of them", m, planOn(a, b), i < k)
		}
		checkPlans(t, "one twice", m, planOn(slices.Insert(fullGuesses(), i, a)...), false)
		checkPlans(t, "without one", m, planOn(slices.Delete(fullGuesses(), i, i+1)...), true)
		if i > 0 {
			turned := fullGuesses()
			turned[i-1], turned[i] = turned[i], turned[i-1]
			checkPlans(t, "two turned about", m, planOn(turned...), false)
		}
	}
	checkPlans(t, "two targets of one call", m, planOn(spec(0, 11, 2, 1), spec(0, 11, 2, 3)), false)
	checkPlans(t, "two targets of one call", m, planOn(spec(0, 11, 2, 3), spec(0, 11, 2, 1)), false)
	checkPlans(t, "Pc rises, Func falls", m, planOn(spec(1, 1, 2, 2), spec(0, 2, 1, 0)), false)
	checkPlans(t, "Func rises, Pc falls", m, planOn(spec(0, 13, 2, 1), spec(1, 1, 2, 2)), true)
	slices.Reverse(all)
	checkPlans(t, "all turned about", m, planOn(all...), false)
}

// One Spec of an ordinary plan is changed so that this alone is wrong.
func TestEachGuessOfAPlanIsAsked(t *testing.T) {
	m := planModule()
	for i, was := range fullGuesses() {
		for _, s := range specs(spec(-1, was.Pc, was.Kind, was.Target), spec(was.Func, was.Pc, 0, was.Target), spec(was.Func, was.Pc, 3, was.Target),
			spec(was.Func, was.Pc, 3-was.Kind, was.Target), spec(was.Func, was.Pc, was.Kind, 5), spec(was.Func, was.Pc, was.Kind, -1), impl.Spec{}) {
			p := planOn(fullGuesses()...)
			p.Specs[i] = s
			checkPlans(t, "one changed", m, p, false)
		}
	}
}

// manyGuesses are the guesses at the sums of manySites, in order.
func manyGuesses(n int) []impl.Spec {
	var out []impl.Spec
	for _, s := range allSums(n, 1) {
		out = append(out, spec(s.Func, s.Pc, impl.SpInt, 0))
	}
	return out
}

func TestPlansOfMaxSitesAndOneMore(t *testing.T) {
	at, past := manySites(impl.MaxSites), manySites(impl.MaxSites+1)
	checkPlans(t, "MaxSites", at, planOn(manyGuesses(150)...), true)
	checkPlans(t, "MaxSites, and one that is not there", at, planOn(manyGuesses(151)...), false)
	checkPlans(t, "MaxSites of one more", past, planOn(manyGuesses(150)...), true)
	checkPlans(t, "one more", past, planOn(manyGuesses(151)...), false)
	checkPlans(t, "far more", manySites(550), planOn(manyGuesses(550)...), false)
	for _, i := range []int{0, 70, 150} {
		checkPlans(t, "one more, without one", past, planOn(slices.Delete(manyGuesses(151), i, i+1)...), true)
	}
	mustBePlan(t, "MaxSites", past, allSums(150, 1), nil, manyGuesses(150)...)
	mustBePlan(t, "MaxSites, the last ones", past, allSums(151, 1)[1:], nil, manyGuesses(151)[1:]...)
	if got := checkPlan(t, past, allSums(151, 1), nil, 3, true); !samePlan(got, impl.Plan{}) {
		t.Errorf("one more: %v", got)
	}
	// All of them black, and each second one.
	mustBePlan(t, "all black", past, allSums(150, 1), manyGuesses(550))
	var odd, even []impl.Spec
	for i, s := range manyGuesses(150) {
		if i%2 == 0 {
			even = append(even, s)
		} else {
			odd = append(odd, s)
		}
	}
	mustBePlan(t, "each second one black", past, allSums(150, 1), odd, even...)
}

func TestPlansOfModulesThatAreNotGood(t *testing.T) {
	modules := notGood()
	for _, x := range limitsOfModules() {
		modules["past "+x.name] = x.past
	}
	modules["a sum beside a fault"] = mod("func 0 0; int 1; int 2; add; return; func 0 0; nil")
	modules["a sum that finds nothing"] = mod("func 0 0; nil; nil; add; add; return")
	for name, m := range modules {
		for _, p := range []impl.Plan{{}, planOn(spec(0, 2, 1, 0)), {Lay: 2, Bare: true}, planOn(impl.Spec{})} {
			checkPlans(t, name, m, p, false)
		}
		for _, list := range [][]impl.Site{nil, {}, sites(site(0, 2, 1, 0)), {{}}} {
			for _, black := range [][]impl.Spec{nil, specs(spec(0, 2, 1, 0))} {
				if got := checkPlan(t, m, list, black, 2, true); !samePlan(got, impl.Plan{}) {
					t.Errorf("%s: %v", name, got)
				}
			}
		}
	}
	good := mod("func 0 0; int 1; int 2; add; return; func 0 0; nil; return")
	checkPlans(t, "a good one", good, planOn(spec(0, 2, 1, 0)), true)
	mustBePlan(t, "a good one", good, sites(site(0, 2, 1, 0)), nil, spec(0, 2, 1, 0))
}

// oddPlan is in no order, has several Specs of one instruction, and such as are of none.
func oddPlan() impl.Plan {
	return impl.Plan{Specs: specs(spec(1, 2, 7, 7), spec(0, 3, 1, 4), spec(1, 2, 1, 0), spec(-1, -2, 5, 6), spec(0, 3, 2, 0), spec(0, 0, 0, 9), impl.Spec{}), Lay: 9}
}

func TestSpecAt(t *testing.T) {
	odd := oddPlan()
	behind := func(n int) impl.Plan { return impl.Plan{Specs: odd.Specs[n:], Lay: -4, Bare: true} }
	for _, x := range []struct {
		p    impl.Plan
		f    int
		pc   int
		want impl.Spec
	}{
		{impl.Plan{}, 0, 0, impl.Spec{}},
		{planOn(), 1, 2, impl.Spec{}},
		{odd, 1, 2, spec(1, 2, 7, 7)},
		{odd, 0, 3, spec(0, 3, 1, 4)},
		{behind(1), 1, 2, spec(1, 2, 1, 0)},
		{behind(2), 0, 3, spec(0, 3, 2, 0)},
		{behind(3), 1, 2, impl.Spec{}},
		{odd, -1, -2, spec(-1, -2, 5, 6)},
		{odd, 0, 0, spec(0, 0, 0, 9)},
		{behind(6), 0, 0, impl.Spec{}},
		{odd, 0, 2, impl.Spec{}},
		{odd, 1, 3, impl.Spec{}},
		{odd, 2, 1, impl.Spec{}},
		{odd, math.MinInt, math.MaxInt, impl.Spec{}},
		{planOn(spec(math.MinInt, math.MaxInt, 2, -1)), math.MinInt, math.MaxInt, spec(math.MinInt, math.MaxInt, 2, -1)},
	} {
		if got := impl.SpecAt(x.p, x.f, x.pc); got != x.want {
			t.Errorf("at %d, %d of %v: %v, not %v", x.f, x.pc, x.p, got, x.want)
		}
	}
	for _, s := range fullGuesses() {
		if got := impl.SpecAt(planOn(fullGuesses()...), s.Func, s.Pc); got != s {
			t.Errorf("%v, not %v", got, s)
		}
	}
	many := slices.Repeat(specs(spec(0, 1, 1, 0)), 1000)
	if got := impl.SpecAt(planOn(append(many, spec(5, 5, 2, 1))...), 5, 5); got != spec(5, 5, 2, 1) {
		t.Error("the last of many:", got)
	}
}

func TestSpecText(t *testing.T) {
	const least, most = "-9223372036854775808", "9223372036854775807"
	for _, x := range []struct {
		s    impl.Spec
		want string
	}{
		{spec(0, 0, 1, 0), "int 0 0"},
		{spec(0, 4, 1, 0), "int 0 4"},
		{spec(11, 119, 1, 0), "int 11 119"},
		{spec(1, 2, 1, 3), "int 1 2"},
		{spec(-1, -20, 1, -3), "int -1 -20"},
		{spec(math.MinInt, math.MaxInt, 1, math.MaxInt), "int " + least + " " + most},
		{spec(0, 0, 2, 0), "fun 0 0 0"},
		{spec(1, 2, 2, 3), "fun 1 2 3"},
		{spec(3, 2, 2, 1), "fun 3 2 1"},
		{spec(11, 119, 2, 11), "fun 11 119 11"},
		{spec(-1, -20, 2, -3), "fun -1 -20 -3"},
		{spec(0, 5, 2, -1), "fun 0 5 -1"},
		{spec(math.MaxInt, math.MinInt, 2, math.MinInt), "fun " + most + " " + least + " " + least},
		{spec(math.MinInt, math.MaxInt, 2, math.MaxInt), "fun " + least + " " + most + " " + most},
		{spec(1000000000, -1000000000, 2, 1000000001), "fun 1000000000 -1000000000 1000000001"},
		{impl.Spec{}, ""},
	} {
		if got := impl.SpecText(x.s); got != x.want {
			t.Errorf("%v: %q, not %q", x.s, got, x.want)
		}
	}
	for _, kind := range []int{0, 3, -1, 4, math.MinInt, math.MaxInt} {
		if got := impl.SpecText(spec(1, 2, kind, 3)); got != "" {
			t.Errorf("Kind %d: %q", kind, got)
		}
	}
}
