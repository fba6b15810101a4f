package tests

import (
	"math/rand"
	"slices"
	"testing"

	"loop.example/g00094/impl"
)

func spec(f int, pc int, kind int, target int) impl.Spec {
	return impl.Spec{Func: f, Pc: pc, Kind: kind, Target: target}
}

func specs(list ...impl.Spec) []impl.Spec { return list }

// planOn is a plan of these guesses, and of nothing else.
func planOn(list ...impl.Spec) impl.Plan { return impl.Plan{Specs: list} }

// samePlan holds an empty list and nil for the same.
func samePlan(a impl.Plan, b impl.Plan) bool {
	return slices.Equal(a.Specs, b.Specs) && a.Lay == b.Lay && a.Bare == b.Bare
}

// specOkByLaw asks of a Spec by itself what the document's words say of it.
func specOkByLaw(m impl.Module, s impl.Spec) bool {
	switch opAt(m, s.Func, s.Pc) {
	case 11, 12, 13, 14:
		return s.Kind == 1 && s.Target == 0
	case 23:
		return s.Kind == 2 && within(s.Target, 0, len(m.Funcs)-1) && m.Funcs[s.Target].Params == m.Funcs[s.Func].Code[s.Pc].A
	}
	return false
}

// planOkByLaw is PlanOk by the document's words.
func planOkByLaw(m impl.Module, p impl.Plan) bool {
	if !goodByLaw(m) || len(p.Specs) > 150 || !within(p.Lay, 0, 3) {
		return false
	}
	for i, s := range p.Specs {
		notAhead := func(x impl.Spec) bool { return x.Func > s.Func || x.Func == s.Func && x.Pc >= s.Pc }
		if !specOkByLaw(m, s) || slices.ContainsFunc(p.Specs[:i], notAhead) {
			return false
		}
	}
	return true
}

// specByLaw is the Spec of a Site with Seen 1, whether it is one that a plan may have or not.
func specByLaw(m impl.Module, s impl.Site) impl.Spec {
	if opAt(m, s.Func, s.Pc) == 23 {
		return spec(s.Func, s.Pc, 2, s.Target)
	}
	return spec(s.Func, s.Pc, 1, 0)
}

// isBlack tells whether black has one of this Func, Pc and Kind.
func isBlack(black []impl.Spec, s impl.Spec) bool {
	return slices.ContainsFunc(black, func(x impl.Spec) bool { return x.Func == s.Func && x.Pc == s.Pc && x.Kind == s.Kind })
}

// planOfByLaw is PlanOf by the document's words.
func planOfByLaw(m impl.Module, list []impl.Site, black []impl.Spec, lay int, bare bool) impl.Plan {
	if !profileOkByLaw(m, list) || !within(lay, 0, 3) {
		return impl.Plan{}
	}
	out := impl.Plan{Lay: lay, Bare: bare}
	for _, s := range list {
		if guess := specByLaw(m, s); s.Seen == 1 && specOkByLaw(m, guess) && !isBlack(black, guess) {
			out.Specs = append(out.Specs, guess)
		}
	}
	return out
}

func specAtByLaw(p impl.Plan, f int, pc int) impl.Spec {
	i := slices.IndexFunc(p.Specs, func(s impl.Spec) bool { return s.Func == f && s.Pc == pc })
	if i == -1 {
		return impl.Spec{}
	}
	return p.Specs[i]
}

// checkPlanOk holds a plan, ok or not, against the law, and tells which it is.
func checkPlanOk(t *testing.T, m impl.Module, p impl.Plan) bool {
	t.Helper()
	ok := planOkByLaw(m, p)
	if got := impl.PlanOk(m, p); got != ok {
		t.Fatalf("PlanOk of %v\nof %v: %v", p, m, got)
	}
	for _, s := range p.Specs {
		if got := impl.SpecAt(p, s.Func, s.Pc); got != specAtByLaw(p, s.Func, s.Pc) || ok && got != s {
			t.Fatalf("SpecAt %d, %d of %v: %v", s.Func, s.Pc, p, got)
		}
	}
	return ok
}

// checkGuesses asks promise 7 of a plan from both sides: each of its guesses is of a Site that saw just this, and is
// not black; each Site with Seen 1 has its guess there, or one reason to have none.
func checkGuesses(t *testing.T, m impl.Module, list []impl.Site, black []impl.Spec, p impl.Plan) {
	t.Helper()
	for _, s := range p.Specs {
		saw := impl.SiteAt(list, s.Func, s.Pc)
		if saw.Seen != 1 || saw.Target != s.Target || s != specByLaw(m, saw) {
			t.Fatalf("%v guesses %v, what was seen is %v\nof %v", p, s, saw, m)
		}
		if isBlack(black, s) {
			t.Fatalf("%v guesses %v, which is black by %v\nof %v", p, s, black, m)
		}
	}
	for _, s := range list {
		got, guess := impl.SpecAt(p, s.Func, s.Pc), specByLaw(m, s)
		out := s.Seen != 1 || isBlack(black, guess) || !specOkByLaw(m, guess)
		if out && got != (impl.Spec{}) || !out && got != guess {
			t.Fatalf("%v guesses %v of %v, black are %v\nof %v", p, got, s, black, m)
		}
	}
}

// checkPlan holds what PlanOf draws up, of what is ok or not, against the law, and asks promise 7 of it.
func checkPlan(t *testing.T, m impl.Module, list []impl.Site, black []impl.Spec, lay int, bare bool) impl.Plan {
	t.Helper()
	got := impl.PlanOf(m, list, black, lay, bare)
	if want := planOfByLaw(m, list, black, lay, bare); !samePlan(got, want) {
		t.Fatalf("PlanOf %v, %v, %d, %v\nof %v:\n  %v, not\n  %v", list, black, lay, bare, m, got, want)
	}
	if !profileOkByLaw(m, list) || !within(lay, 0, 3) {
		return got
	}
	if !checkPlanOk(t, m, got) {
		t.Fatalf("PlanOf %v, %v, %d, %v\nof %v is not ok: %v", list, black, lay, bare, m, got)
	}
	checkGuesses(t, m, list, black, got)
	return got
}

// mustBePlan holds what PlanOf draws up against what is written, and against the law.
func mustBePlan(t *testing.T, name string, m impl.Module, list []impl.Site, black []impl.Spec, want ...impl.Spec) {
	t.Helper()
	for lay := range 4 {
		for _, bare := range []bool{false, true} {
			got := checkPlan(t, m, list, black, lay, bare)
			if !samePlan(got, impl.Plan{Specs: want, Lay: lay, Bare: bare}) {
				t.Errorf("%s: %v, not %v", name, got, want)
			}
		}
	}
}

// blackBeside has guesses that differ from s in just one of Func, Pc and Kind, and are black instead of it.
func blackBeside(s impl.Spec) []impl.Spec {
	return specs(spec(s.Func+1, s.Pc, s.Kind, s.Target), spec(s.Func-1, s.Pc, s.Kind, s.Target), spec(s.Func, s.Pc+1, s.Kind, s.Target),
		spec(s.Func, s.Pc-1, s.Kind, s.Target), spec(s.Func, s.Pc, 3-s.Kind, s.Target), spec(s.Func, s.Pc, 0, s.Target), spec(s.Func, s.Pc, 3, s.Target))
}

// randomBlack has guesses of some of these Sites with whatever Target, such as are beside them, and such as are none.
func randomBlack(r *rand.Rand, m impl.Module, list []impl.Site) []impl.Spec {
	var out []impl.Spec
	often := 1 + r.Intn(6)
	for _, s := range list {
		guess := specByLaw(m, s)
		guess.Target += r.Intn(3) - 1
		switch r.Intn(often) {
		case 0:
			out = append(out, guess)
		case 1:
			out = append(out, blackBeside(guess)[r.Intn(7)])
		}
	}
	for range r.Intn(3) {
		out = append(out, spec(r.Intn(15)-1, r.Intn(30)-1, r.Intn(4), r.Intn(4)))
	}
	if len(out) > 0 && r.Intn(3) == 0 {
		out = append(out, out[r.Intn(len(out))])
	}
	r.Shuffle(len(out), func(i int, k int) { out[i], out[k] = out[k], out[i] })
	return out
}

// randomPlan is a plan that is ok, of guesses that nobody need have seen.
func randomPlan(r *rand.Rand, m impl.Module) impl.Plan {
	out := impl.Plan{Lay: r.Intn(4), Bare: r.Intn(2) == 0}
	often := 1 + r.Intn(4)
	for _, s := range watchable(m) {
		s.Target = 0
		if opAt(m, s.Func, s.Pc) == impl.OpCall {
			s.Target = r.Intn(len(m.Funcs))
		}
		if guess := specByLaw(m, s); r.Intn(often) == 0 && specOkByLaw(m, guess) && len(out.Specs) < impl.MaxSites {
			out.Specs = append(out.Specs, guess)
		}
	}
	return out
}

// spoiledPlan is a plan with one thing changed somewhere; it is seldom ok still.
func spoiledPlan(r *rand.Rand, was impl.Plan) impl.Plan {
	p := impl.Plan{Specs: append(slices.Clone(was.Specs), spec(r.Intn(3), r.Intn(20), 1+r.Intn(2), 0)), Lay: was.Lay, Bare: was.Bare}
	if len(was.Specs) > 0 && r.Intn(4) > 0 {
		p.Specs = p.Specs[:len(was.Specs)]
	}
	s := &p.Specs[r.Intn(len(p.Specs))]
	by := []int{1, -1, 2, -2}[r.Intn(4)]
	switch r.Intn(6) {
	case 0:
		s.Func += by
	case 1:
		s.Pc += by
	case 2:
		s.Kind += by
	case 3:
		s.Target += by
	case 4:
		p.Lay += by
	case 5:
		i := r.Intn(len(p.Specs))
		p.Specs[i], *s = *s, p.Specs[i]
	}
	return p
}
