package tests

import (
	"math/rand"
	"slices"
	"testing"

	"loop.example/g00094/impl"
)

// plannedRun is a program that is run once with each of some arguments, and what a plan guesses of that.
type plannedRun struct {
	name string
	code string
	args [][]impl.Value
	want []impl.Spec
}

func TestPlansOfRuns(t *testing.T) {
	two := "func 2 2; load 0; load 1; "
	callers := "; return; func 1 1; load 0; call 0; return; func 0 0; nil; return; func 0 0; int 1; return; func 1 1; load 0; return"
	for _, x := range []plannedRun{
		{"a sum of numbers", two + "add; return", [][]impl.Value{vals(num(1), num(2))}, specs(spec(0, 2, 1, 0))},
		{"numbers that trap", two + "mul; return", [][]impl.Value{vals(num(1000000000), num(2))}, specs(spec(0, 2, 1, 0))},
		{"a sum of texts", two + "add; return", [][]impl.Value{vals(text("a"), text("b"))}, nil},
		{"a number and nothing", two + "less; return", [][]impl.Value{vals(num(1), impl.Value{})}, nil},
		{"numbers, then texts", two + "less; return", [][]impl.Value{vals(num(1), num(2)), vals(text("a"), text("b"))}, nil},
		{"numbers, then other numbers", two + "sub; return", [][]impl.Value{vals(num(1), num(2)), vals(num(3), num(-4))}, specs(spec(0, 2, 1, 0))},
		{"what is not come to", two + "add; return; less", [][]impl.Value{vals(num(1), num(2))}, specs(spec(0, 2, 1, 0))},
		{"a same", two + "same; return", [][]impl.Value{vals(num(1), num(2))}, nil},
		{"one function", "func 1 1; load 0; invoke 1" + callers, [][]impl.Value{vals(fun(2))}, specs(spec(1, 1, 2, 2))},
		{"one function twice", "func 1 1; load 0; invoke 1" + callers, [][]impl.Value{vals(fun(3)), vals(fun(3))}, specs(spec(1, 1, 2, 3))},
		{"two functions", "func 1 1; load 0; invoke 1" + callers, [][]impl.Value{vals(fun(2)), vals(fun(3))}, nil},
		{"no function", "func 1 1; load 0; invoke 1" + callers, [][]impl.Value{vals(num(2))}, nil},
		// It traps each time, so its one target is seen, and cannot be guessed.
		{"a function with other parameters", "func 1 1; load 0; invoke 1" + callers, [][]impl.Value{vals(fun(4))}, nil},
		{"itself", "func 0 0; fun 0; call 0; return", [][]impl.Value{nil}, specs(spec(0, 1, 2, 0))},
		{"a sum and a call", "func 1 1; load 0; int 1; add; drop; fun 1; call 0; return; func 0 0; int 2; int 3; less; return", [][]impl.Value{vals(num(1))}, specs(spec(0, 2, 1, 0), spec(0, 5, 2, 1), spec(1, 2, 1, 0))},
	} {
		m := mod(x.code)
		var p []impl.Site
		for _, args := range x.args {
			p = checkMerged(t, m, p, impl.ProfileOf(m, args, 200))
		}
		mustBePlan(t, x.name, m, p, nil, x.want...)
		mustBePlan(t, x.name+", all black", m, p, x.want)
		for i, s := range x.want {
			mustBePlan(t, x.name+", one black", m, p, specs(s), slices.Delete(slices.Clone(x.want), i, i+1)...)
		}
	}
}

// What a plan guesses of a run was so in each step of that run, whatever is black; and where nothing is black it
// leaves out nothing that was so in each step.
func checkPlanOfRun(t *testing.T, m impl.Module, args []impl.Value, fuel int, black []impl.Spec) []impl.Spec {
	t.Helper()
	list := impl.ProfileOf(m, args, fuel)
	p := checkPlan(t, m, list, black, 3, true)
	all := checkPlan(t, m, list, nil, 0, false)
	came := map[[2]int]int{}
	for vm, _ := impl.Start(m, args); fuel > 0 && vm.Status == impl.StRun; fuel-- {
		if saw, watched := sightByLaw(m, vm); watched {
			came[[2]int{saw.Func, saw.Pc}]++
			for _, plan := range []impl.Plan{p, all} {
				guess := impl.SpecAt(plan, saw.Func, saw.Pc)
				if guess.Kind != 0 && (saw.Seen != 1 || saw.Target != guess.Target) {
					t.Fatalf("%v with %v guesses %v, a step saw %v", m, args, guess, saw)
				}
			}
		}
		vm = impl.Step(m, vm)
	}
	for _, s := range all.Specs {
		if came[[2]int{s.Func, s.Pc}] == 0 {
			t.Fatalf("%v with %v guesses %v, where no step was", m, args, s)
		}
		if got := impl.SpecAt(p, s.Func, s.Pc); (got == s) == isBlack(black, s) {
			t.Fatalf("%v with %v guesses %v, not %v, with %v black", m, args, got, s, black)
		}
	}
	return p.Specs
}

func TestPlansOfManyRuns(t *testing.T) {
	r := rand.New(rand.NewSource(32))
	kinds, struck, misfits := map[int]int{}, 0, 0
	for i := range 900 {
		m := randomProgram(r)
		if i%2 == 0 {
			m = mixedProgram(r)
			// Function 5 is called without a value: of such a call there is no guess.
			m.Funcs[5].Params = i / 2 % 2
			m.Funcs[5].Locals = m.Funcs[5].Params
		}
		args, fuel := randomArgs(r, m), r.Intn(400)
		list := impl.ProfileOf(m, args, fuel)
		black := randomBlack(r, m, list)
		for _, s := range checkPlanOfRun(t, m, args, fuel, black) {
			kinds[s.Kind]++
		}
		for _, s := range list {
			guess := specByLaw(m, s)
			switch {
			case s.Seen == 1 && !specOkByLaw(m, guess):
				misfits++
			case s.Seen == 1 && isBlack(black, guess):
				struck++
			}
		}
		other := impl.ProfileOf(m, randomArgs(r, m), fuel)
		both := checkMerged(t, m, list, other)
		checkPlan(t, m, both, black, r.Intn(4), r.Intn(2) == 0)
		checkMergedPlan(t, m, list, other, both)
	}
	if kinds[impl.SpInt] < 500 || kinds[impl.SpFun] < 100 || struck < 200 || misfits < 20 {
		t.Errorf("guesses %v, %d black, %d with other parameters alone: the runs try too little", kinds, struck, misfits)
	}
}

// checkMergedPlan asks that a plan of two runs guesses nothing that a plan of either would not, where that one saw
// the instruction.
func checkMergedPlan(t *testing.T, m impl.Module, p []impl.Site, q []impl.Site, both []impl.Site) {
	t.Helper()
	for _, s := range impl.PlanOf(m, both, nil, 0, false).Specs {
		for _, list := range [][]impl.Site{p, q} {
			saw := impl.SiteAt(list, s.Func, s.Pc) != impl.Site{}
			if saw && impl.SpecAt(impl.PlanOf(m, list, nil, 0, false), s.Func, s.Pc) != s {
				t.Fatalf("%v is guessed of %v and %v together", s, p, q)
			}
		}
	}
}

// TestManyForgedPlans draws up plans of profiles that no run need tell, and of such as are not ok.
func TestManyForgedPlans(t *testing.T) {
	r := rand.New(rand.NewSource(33))
	misfits, struck, oks := 0, 0, map[bool]int{}
	for range 400 {
		m := randomProgram(r)
		for range 10 {
			list := randomSites(r, m)
			black := randomBlack(r, m, list)
			p := checkPlan(t, m, list, black, r.Intn(4), r.Intn(2) == 0)
			for _, s := range list {
				guess := specByLaw(m, s)
				switch {
				case s.Seen == 1 && !specOkByLaw(m, guess):
					misfits++
				case s.Seen == 1 && isBlack(black, guess):
					struck++
				}
			}
			// What was drawn up, black in its turn, leaves nothing.
			if got := checkPlan(t, m, list, append(black, p.Specs...), p.Lay, p.Bare); len(got.Specs) != 0 {
				t.Fatalf("%v of %v, all black", got, list)
			}
			checkPlan(t, m, list, black, r.Intn(8)-2, true)
			wrong := spoiledSites(r, list)
			checkPlan(t, m, wrong, black, r.Intn(4), true)
			oks[impl.ProfileOk(m, wrong)]++
		}
	}
	if misfits < 500 || struck < 1000 || oks[true] < 100 || oks[false] < 500 {
		t.Errorf("%d with other parameters, %d black, spoiled profiles are ok or not %v times: they try too little", misfits, struck, oks)
	}
}

// TestManyPlans holds plans that nobody drew up, and such as are not ok, against the law.
func TestManyPlans(t *testing.T) {
	r := rand.New(rand.NewSource(34))
	oks := map[bool]int{}
	for range 400 {
		m := randomProgram(r)
		for range 10 {
			p := randomPlan(r, m)
			if !checkPlanOk(t, m, p) {
				t.Fatalf("%v: %v is refused", m, p)
			}
			oks[checkPlanOk(t, m, spoiledPlan(r, p))]++
			other := randomProgram(r)
			checkPlanOk(t, other, p)
		}
	}
	if oks[true] < 100 || oks[false] < 1000 {
		t.Errorf("spoiled plans are ok or not %v times: they try too little", oks)
	}
}

func FuzzPlans(f *testing.F) {
	r := rand.New(rand.NewSource(35))
	for _, m := range append(someModules(), several(), planModule(), watchModule(), manySites(151), randomProgram(r), randomProgram(r)) {
		f.Add(told(m), int64(1), 20, 2)
	}
	f.Fuzz(func(t *testing.T, b []byte, seed int64, fuel int, lay int) {
		m, ok := impl.Load(b)
		if !ok {
			return
		}
		if impl.Verify(m).Code != impl.OK {
			checkPlan(t, m, nil, nil, lay, true)
			checkPlanOk(t, m, impl.Plan{Lay: lay})
			return
		}
		r := rand.New(rand.NewSource(seed))
		args := randomArgs(r, m)
		if fuel > 300 && fuel <= impl.MaxSteps {
			fuel %= 300
		}
		checkPlan(t, m, impl.ProfileOf(m, args, fuel), nil, lay, false)
		for range 5 {
			list := randomSites(r, m)
			black := randomBlack(r, m, list)
			checkPlan(t, m, list, black, lay, true)
			checkPlan(t, m, spoiledSites(r, list), black, r.Intn(4), false)
			p := randomPlan(r, m)
			checkPlanOk(t, m, p)
			checkPlanOk(t, m, spoiledPlan(r, p))
		}
	})
}
