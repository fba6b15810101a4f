package tests

import (
	"math/rand"
	"slices"
	"testing"

	"loop.example/g00094/impl"
)

// spareSpecs lie behind a list of Specs; with them it would be another one.
func spareSpecs() []impl.Spec { return specs(spec(0, 2, 1, 0), spec(-1, -1, 9, 9)) }

func roomySpecs(list []impl.Spec) []impl.Spec {
	return append(slices.Clone(list), spareSpecs()...)[:len(list)]
}

// untouchedSpecs tells whether a list and the spare room behind it are as roomySpecs made them.
func untouchedSpecs(list []impl.Spec, was []impl.Spec) bool {
	return slices.Equal(list[:len(was)+2], slices.Concat(was, spareSpecs()))
}

// fillSpecs writes over all that a list of Specs has, up to its capacity.
func fillSpecs(list []impl.Spec) {
	for i := range list[:cap(list)] {
		list[:cap(list)][i] = spec(-5, -5, -5, -5)
	}
}

// drawing is what PlanOf is given.
type drawing struct {
	m     impl.Module
	list  []impl.Site
	black []impl.Spec
	lay   int
	bare  bool
}

func (x drawing) plan() impl.Plan { return impl.PlanOf(x.m, x.list, x.black, x.lay, x.bare) }

func (x drawing) planByLaw() impl.Plan { return planOfByLaw(x.m, x.list, x.black, x.lay, x.bare) }

func roomyDrawing(x drawing) drawing {
	return drawing{roomy(x.m), roomySites(x.list), roomySpecs(x.black), x.lay, x.bare}
}

func untouchedDrawing(x drawing, was drawing) bool {
	return untouched(x.m, was.m) && untouchedSites(x.list, was.list) && untouchedSpecs(x.black, was.black)
}

// someDrawings have lists that are full, empty or not ok, black guesses of all, of some and of none of the Sites, and
// such as are refused.
func someDrawings() []drawing {
	m, many := planModule(), manySites(impl.MaxSites+1)
	out := []drawing{
		{m, fullSights(), nil, 0, false}, {m, fullSights(), fullGuesses(), 1, true}, {m, fullSights(), fullGuesses()[2:5], 2, true},
		{m, nil, nil, 3, true}, {m, []impl.Site{}, []impl.Spec{}, 3, false}, {m, nil, fullGuesses(), 0, true},
		{m, fullSights(), nil, 4, true}, {m, fullSights(), fullGuesses(), -1, true}, {m, append(fullSights(), fullSights()...), nil, 1, true},
		{m, sites(site(0, 1, 1, 0)), fullGuesses(), 1, true}, {impl.Module{}, fullSights(), fullGuesses(), 1, true},
		{many, allSums(150, 1), manyGuesses(151), 1, true}, {many, allSums(151, 1), nil, 1, true}, {many, allSums(150, 1), nil, 1, true},
	}
	// The spare Site and the spare Spec are of this sum; neither may be read.
	sum := mod("func 2 2; load 0; load 1; add; load 1; sub; return")
	out = append(out, drawing{sum, nil, nil, 1, true}, drawing{sum, sites(site(0, 2, 1, 0)), nil, 1, true}, drawing{sum, sites(site(0, 2, 1, 0)), specs(spec(0, 4, 1, 0)), 1, true})
	r := rand.New(rand.NewSource(36))
	for range 200 {
		m := randomProgram(r)
		list := randomSites(r, m)
		black := randomBlack(r, m, list)
		if r.Intn(5) == 0 {
			list = spoiledSites(r, list)
		}
		out = append(out, drawing{m, list, black, r.Intn(4), r.Intn(2) == 0})
	}
	return out
}

func TestWhatPlansAreDrawnOfIsNotWrittenInto(t *testing.T) {
	for _, was := range someDrawings() {
		x := roomyDrawing(was)
		if got, want := x.plan(), was.planByLaw(); !samePlan(got, want) {
			t.Errorf("PlanOf, with room behind lists, of %v: %v, not %v", was, got, want)
		}
		if !untouchedDrawing(x, was) {
			t.Errorf("%v: written into", was)
		}
	}
}

// planned is a plan, ok or not, and the module that it is asked of.
type planned struct {
	m impl.Module
	p impl.Plan
}

func somePlans() []planned {
	m, sum := planModule(), mod("func 2 2; load 0; load 1; add; load 1; sub; return")
	out := []planned{
		{m, impl.Plan{}}, {m, planOn()}, {m, planOn(fullGuesses()...)}, {m, planOn(fullGuesses()[:3]...)}, {m, oddPlan()},
		{m, impl.Plan{Lay: 4}}, {m, impl.Plan{Lay: 3, Bare: true}}, {impl.Module{}, planOn(fullGuesses()...)},
		{sum, impl.Plan{}}, {sum, planOn(spec(0, 2, 1, 0))}, {sum, planOn(spec(0, 4, 1, 0))}, {sum, planOn(spec(0, 4, 1, 0), spec(0, 2, 1, 0))},
	}
	r := rand.New(rand.NewSource(37))
	for range 100 {
		m := randomProgram(r)
		p := randomPlan(r, m)
		out = append(out, planned{m, p}, planned{m, spoiledPlan(r, p)})
	}
	return out
}

func TestPlansAreNotWrittenInto(t *testing.T) {
	for _, was := range somePlans() {
		m := roomy(was.m)
		p := impl.Plan{Specs: roomySpecs(was.p.Specs), Lay: was.p.Lay, Bare: was.p.Bare}
		if got, want := impl.PlanOk(m, p), planOkByLaw(was.m, was.p); got != want {
			t.Errorf("PlanOk, with room behind lists, of %v: %v", was, got)
		}
		for _, s := range append(slices.Clone(was.p.Specs), spareSpecs()...) {
			if got, want := impl.SpecAt(p, s.Func, s.Pc), specAtByLaw(was.p, s.Func, s.Pc); got != want {
				t.Errorf("SpecAt %d, %d, with room behind the list, of %v: %v", s.Func, s.Pc, was, got)
			}
		}
		if !untouched(m, was.m) || !untouchedSpecs(p.Specs, was.p.Specs) {
			t.Errorf("%v: written into", was)
		}
	}
}

// What is written into one plan does not show in what was handed in, nor in other plans, nor the other way round.
func TestPlansAreKeptApart(t *testing.T) {
	for _, was := range someDrawings() {
		x := roomyDrawing(was)
		first, other := x.plan(), x.plan()
		want := was.planByLaw()
		fillSpecs(first.Specs)
		if !untouchedDrawing(x, was) {
			t.Errorf("%v shares memory with its plan", was)
		}
		if !samePlan(other, want) || !samePlan(x.plan(), want) {
			t.Errorf("%v: its plans share memory: %v, not %v", was, other, want)
		}
		fillSites(x.list)
		fillSpecs(x.black)
		fillLists(x.m)
		if !samePlan(other, want) {
			t.Errorf("%v: the plan hangs on what it was drawn of: %v, not %v", was, other, want)
		}
	}
}

// A plan that is handed in as what is black is another one's list.
func TestAPlanAsWhatIsBlack(t *testing.T) {
	m := planModule()
	first := impl.PlanOf(m, fullSights()[:4], nil, 1, true)
	rest := impl.PlanOf(m, fullSights(), first.Specs, 1, true)
	none := impl.PlanOf(m, fullSights(), append(slices.Clone(first.Specs), rest.Specs...), 1, true)
	if !slices.Equal(first.Specs, fullGuesses()[:4]) || !slices.Equal(rest.Specs, fullGuesses()[4:]) || len(none.Specs) != 0 {
		t.Error(first, rest, none)
	}
	fillSpecs(first.Specs)
	if !slices.Equal(rest.Specs, fullGuesses()[4:]) {
		t.Error("what was black shows in the plan:", rest)
	}
}

// What lies behind a plan's length is none of what was handed in.
func TestNothingIsHandedOutBehindPlans(t *testing.T) {
	for _, was := range someDrawings() {
		got := roomyDrawing(was).plan().Specs
		if slices.ContainsFunc(got[len(got):cap(got)], func(s impl.Spec) bool { return s != impl.Spec{} }) {
			t.Errorf("%v: something lies behind %v", was, got)
		}
	}
}

// No call keeps anything for another one, also where others came between that were refused.
func TestPlansAreDrawnUpAlikeAgain(t *testing.T) {
	list := someDrawings()
	for range 2 {
		for _, x := range list {
			if got, want := x.plan(), x.planByLaw(); !samePlan(got, want) {
				t.Fatalf("%v: %v, not %v", x, got, want)
			}
		}
		slices.Reverse(list)
	}
}
