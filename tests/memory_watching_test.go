package tests

import (
	"math/rand"
	"slices"
	"testing"

	"loop.example/g00094/impl"
)

// spareSites lie behind a list of Sites; with them it would be another one.
func spareSites() []impl.Site { return sites(site(0, 2, 1, 0), site(-1, -1, 9, 9)) }

func roomySites(p []impl.Site) []impl.Site {
	return append(slices.Clone(p), spareSites()...)[:len(p)]
}

// untouchedSites tells whether p and the spare room behind it are as roomySites made them.
func untouchedSites(p []impl.Site, was []impl.Site) bool {
	return slices.Equal(p[:len(was)+2], slices.Concat(was, spareSites()))
}

// fillSites writes over all that a list of Sites has, up to its capacity.
func fillSites(p []impl.Site) {
	for i := range p[:cap(p)] {
		p[:cap(p)][i] = site(-5, -5, -5, -5)
	}
}

// watching is what Observe and MergeSites are given.
type watching struct {
	m  impl.Module
	p  []impl.Site
	q  []impl.Site
	vm impl.Vm
}

// someWatchings have Sites that come in new, such as are there, lists that are full, empty or not ok, and states in
// which nothing is watched.
func someWatchings() []watching {
	m, many := watchModule(), manySites(impl.MaxSites+1)
	sum := standing(m, 0, 4, num(1), num(2))
	other := standing(many, 4, 2, text("a"), num(2))
	full := fullProfile()
	out := []watching{
		{m, full, nil, sum}, {m, nil, full, sum}, {m, nil, nil, sum}, {m, []impl.Site{}, []impl.Site{}, trappedIn(sum)},
		{m, full[:1], full[1:], sum}, {m, full[2:], full[:6], sum}, {m, full, full, standing(m, 0, 0)},
		{m, full, full[:3], trappedIn(sum)}, {m, full, full[4:], impl.Vm{Status: impl.StDone}}, {m, full, full, impl.Vm{}},
		{m, full, sites(site(0, 1, 1, 0)), sum}, {m, sites(site(0, 4, 4, 0)), full, sum}, {m, append(full, full...), full, sum},
		{impl.Module{}, full, full, sum},
		{many, allSums(150, 1), allSums(150, 2), other}, {many, allSums(150, 1), allSums(151, 1)[150:], other},
		{many, allSums(149, 1), allSums(151, 2)[149:150], other}, {many, allSums(151, 1)[1:], allSums(151, 2)[1:], other},
	}
	r := rand.New(rand.NewSource(24))
	for range 200 {
		m := randomProgram(r)
		p, q := randomSites(r, m), randomSites(r, m)
		if r.Intn(5) == 0 {
			p = spoiledSites(r, p)
		}
		out = append(out, watching{m, p, q, randomState(r, m)})
	}
	return out
}

// siteMakers are the ways in which Sites come of others.
func siteMakers() map[string]func(x watching) []impl.Site {
	return map[string]func(x watching) []impl.Site{
		"Observe":    func(x watching) []impl.Site { return impl.Observe(x.m, x.p, x.vm) },
		"MergeSites": func(x watching) []impl.Site { return impl.MergeSites(x.m, x.p, x.q) },
		"the other":  func(x watching) []impl.Site { return impl.MergeSites(x.m, x.q, x.p) },
		"with itself": func(x watching) []impl.Site {
			return impl.MergeSites(x.m, x.p, x.p)
		},
	}
}

func roomyWatching(x watching) watching {
	return watching{roomy(x.m), roomySites(x.p), roomySites(x.q), roomyVm(x.vm)}
}

func untouchedWatching(x watching, was watching) bool {
	return untouched(x.m, was.m) && untouchedSites(x.p, was.p) && untouchedSites(x.q, was.q) && untouchedVm(x.vm, was.vm)
}

func TestSitesAreNotWrittenInto(t *testing.T) {
	for _, was := range someWatchings() {
		x := roomyWatching(was)
		if got, want := impl.ProfileOk(x.m, x.p), profileOkByLaw(was.m, was.p); got != want {
			t.Errorf("ProfileOk reads behind a list of %v", was.p)
		}
		for _, s := range append(slices.Clone(was.p), spareSites()...) {
			if got, want := impl.SiteAt(x.p, s.Func, s.Pc), impl.SiteAt(slices.Clone(was.p), s.Func, s.Pc); got != want {
				t.Errorf("SiteAt reads behind %v", was.p)
			}
		}
		mustBeSites(t, "Observe, with room behind lists,", impl.Observe(x.m, x.p, x.vm), observeByLaw(was.m, was.p, was.vm), was)
		mustBeSites(t, "MergeSites, with room behind lists,", impl.MergeSites(x.m, x.p, x.q), mergeByLaw(was.m, was.p, was.q), was)
		if !untouchedWatching(x, was) {
			t.Errorf("%+v: written into", was)
		}
	}
}

// What is written into an answer does not show in what was handed in, nor in other answers, nor the other way round.
func TestSitesBeforeAndAfterAreKeptApart(t *testing.T) {
	for name, makeOne := range siteMakers() {
		for _, was := range someWatchings() {
			x := roomyWatching(was)
			first, other := makeOne(x), makeOne(x)
			want := slices.Clone(other)
			fillSites(first)
			if !untouchedWatching(x, was) {
				t.Errorf("%s: %+v shares memory with the answer", name, was)
			}
			checkSites(t, name+": two answers", other, want)
			checkSites(t, name+": a later answer", makeOne(x), want)
			fillSites(x.p)
			fillSites(x.q)
			fillLists(x.m)
			fillVm(x.vm)
			checkSites(t, name+": an answer whose arguments were written into", other, want)
		}
	}
}

// What lies behind the answer's length is none of what was handed in.
func TestNothingIsHandedOutBehindSites(t *testing.T) {
	for name, makeOne := range siteMakers() {
		for _, was := range someWatchings() {
			got := makeOne(roomyWatching(was))
			if slices.ContainsFunc(got[len(got):cap(got)], func(s impl.Site) bool { return s != impl.Site{} }) {
				t.Errorf("%s of %+v: something lies behind %v", name, was, got)
			}
		}
	}
}

func TestProfilesOfRunsAreKeptApart(t *testing.T) {
	r := rand.New(rand.NewSource(25))
	for range 200 {
		was := randomProgram(r)
		args := randomArgs(r, was)
		m, given := roomy(was), roomyValues(args)
		first, other := impl.ProfileOf(m, given, 200), impl.ProfileOf(m, given, 200)
		want := slices.Clone(other)
		fillSites(first)
		if n := len(args); !untouched(m, was) || !slices.Equal(given[:n+2], slices.Concat(args, spareValues())) {
			t.Fatalf("%v with %v: written into", was, args)
		}
		mustBeSites(t, "two profiles", other, want, was, args)
		mustBeSites(t, "a later profile", impl.ProfileOf(m, given, 200), profileOfByLaw(was, args, 200), was, args)
		fillLists(m)
		mustBeSites(t, "a profile whose module was written into", other, want, was, args)
	}
}

// A profile that is watched on is not changed by that: it can be watched on from where it was in another way.
func TestOneProfileWatchedOnTwice(t *testing.T) {
	m := watchModule()
	p := impl.Observe(m, fullProfile()[:2], standing(m, 0, 6, num(1), num(2)))
	was := slices.Clone(p)
	a := impl.Observe(m, p, standing(m, 0, 8, num(1), num(2)))
	b := impl.Observe(m, p, standing(m, 1, 2, text("a"), num(2)))
	c := impl.MergeSites(m, p, sites(site(0, 2, 2, 0)))
	checkSites(t, "what was watched on", p, was)
	checkSites(t, "a number", a, append(slices.Clone(was), site(0, 8, 1, 0)))
	checkSites(t, "a text", b, append(slices.Clone(was), site(1, 2, 2, 0)))
	checkSites(t, "merged", c, sites(site(0, 2, 3, 0), was[1], was[2]))
}
