package tests

import (
	"math/rand"
	"slices"
	"testing"

	"loop.example/g00094/impl"
)

func site(f int, pc int, seen int, target int) impl.Site {
	return impl.Site{Func: f, Pc: pc, Seen: seen, Target: target}
}

func sites(list ...impl.Site) []impl.Site { return list }

// opAt is the Op of an instruction, 0 where there is none.
func opAt(m impl.Module, f int, pc int) int {
	if !within(f, 0, len(m.Funcs)-1) || !within(pc, 0, len(m.Funcs[f].Code)-1) {
		return 0
	}
	return m.Funcs[f].Code[pc].Op
}

// ahead tells whether a comes ahead of b: by Func, then by Pc.
func ahead(a impl.Site, b impl.Site) bool {
	return a.Func < b.Func || a.Func == b.Func && a.Pc < b.Pc
}

func siteOkByLaw(m impl.Module, s impl.Site) bool {
	switch opAt(m, s.Func, s.Pc) {
	case 11, 12, 13, 14:
		return within(s.Seen, 1, 3) && s.Target == 0
	case 23:
		return s.Seen == 1 && within(s.Target, 0, len(m.Funcs)-1) || s.Seen == 2 && s.Target == 0
	}
	return false
}

// profileOkByLaw is ProfileOk by the document's words.
func profileOkByLaw(m impl.Module, p []impl.Site) bool {
	if !goodByLaw(m) || len(p) > 150 {
		return false
	}
	for i, s := range p {
		if !siteOkByLaw(m, s) || slices.ContainsFunc(p[:i], func(x impl.Site) bool { return !ahead(x, s) }) {
			return false
		}
	}
	return true
}

// sightByLaw is what the next step of a state that is ok sees, by itself, and whether it is watched.
func sightByLaw(m impl.Module, vm impl.Vm) (impl.Site, bool) {
	if vm.Status != 0 {
		return impl.Site{}, false
	}
	f := vm.Frames[len(vm.Frames)-1]
	x := m.Funcs[f.Func].Code[f.Pc]
	takes, _ := usesOf(m, x)
	in := f.Stack[len(f.Stack)-takes:]
	switch {
	case within(x.Op, 11, 14) && in[0].Kind == 1 && in[1].Kind == 1:
		return site(f.Func, f.Pc, 1, 0), true
	case x.Op == 23 && in[0].Kind == 5:
		return site(f.Func, f.Pc, 1, in[0].N), true
	case within(x.Op, 11, 14), x.Op == 23:
		return site(f.Func, f.Pc, 2, 0), true
	}
	return impl.Site{}, false
}

// seenTogether is what two Sites of a sum have seen together, by what each of them has.
var seenTogether = [4][4]int{1: {1: 1, 2: 3, 3: 3}, 2: {1: 3, 2: 2, 3: 3}, 3: {1: 3, 2: 3, 3: 3}}

func togetherByLaw(m impl.Module, a impl.Site, b impl.Site) impl.Site {
	if opAt(m, a.Func, a.Pc) != 23 {
		return site(a.Func, a.Pc, seenTogether[a.Seen][b.Seen], 0)
	}
	if a.Seen == 1 && b.Seen == 1 && a.Target == b.Target {
		return a
	}
	return site(a.Func, a.Pc, 2, 0)
}

// withSite is p with s in its place, or together with what is there; a new one comes in up to a limit.
func withSite(m impl.Module, p []impl.Site, s impl.Site, limit int) []impl.Site {
	out := slices.Clone(p)
	for i, x := range out {
		switch {
		case x.Func == s.Func && x.Pc == s.Pc:
			out[i] = togetherByLaw(m, x, s)
			return out
		case ahead(s, x) && len(p) < limit:
			return slices.Insert(out, i, s)
		}
	}
	if len(p) < limit {
		return append(out, s)
	}
	return out
}

// observeByLaw is Observe by the document's words.
func observeByLaw(m impl.Module, p []impl.Site, vm impl.Vm) []impl.Site {
	if !profileOkByLaw(m, p) || !vmOkByLaw(m, vm) {
		return nil
	}
	return seesByLaw(m, p, vm)
}

// seesByLaw is observeByLaw of what is known to be ok.
func seesByLaw(m impl.Module, p []impl.Site, vm impl.Vm) []impl.Site {
	s, watched := sightByLaw(m, vm)
	if !watched {
		return slices.Clone(p)
	}
	return withSite(m, p, s, 150)
}

// profileOfByLaw is ProfileOf by the document's words.
func profileOfByLaw(m impl.Module, args []impl.Value, fuel int) []impl.Site {
	vm, ok := startByLaw(m, args)
	if !ok || !within(fuel, 0, 50000) {
		return nil
	}
	var p []impl.Site
	for ; fuel > 0 && vm.Status == 0; fuel-- {
		p = seesByLaw(m, p, vm)
		vm = stepByLaw(m, vm)
	}
	return p
}

// mergeByLaw is MergeSites by the document's words.
func mergeByLaw(m impl.Module, p []impl.Site, q []impl.Site) []impl.Site {
	if !profileOkByLaw(m, p) || !profileOkByLaw(m, q) {
		return nil
	}
	out := slices.Clone(p)
	for _, s := range q {
		out = withSite(m, out, s, 300)
	}
	if len(out) > 150 {
		return nil
	}
	return out
}

func checkSites(t *testing.T, name string, got []impl.Site, want []impl.Site) {
	t.Helper()
	if !slices.Equal(got, want) {
		t.Errorf("%s:\n  %v, not\n  %v", name, got, want)
	}
}

func mustBeSites(t *testing.T, name string, got []impl.Site, want []impl.Site, of ...any) {
	t.Helper()
	if !slices.Equal(got, want) {
		t.Fatalf("%s of %+v:\n  %v, not\n  %v", name, of, got, want)
	}
}

// checkSitesByLaw holds all that is told of a profile and a state, ok or not, against the law.
func checkSitesByLaw(t *testing.T, m impl.Module, p []impl.Site, vm impl.Vm) {
	t.Helper()
	ok := profileOkByLaw(m, p)
	if got := impl.ProfileOk(m, p); got != ok {
		t.Fatalf("ProfileOk of %v\nof %v: %v", p, m, got)
	}
	got := impl.Observe(m, p, vm)
	mustBeSites(t, "Observe", got, observeByLaw(m, p, vm), m, p, vm)
	if goodByLaw(m) && !impl.ProfileOk(m, got) {
		t.Fatalf("Observe of %v and %+v\nof %v is not ok: %v", p, vm, m, got)
	}
}

// checkMerged holds what two profiles, ok or not, have together against the law, and asks promise 6 of it.
func checkMerged(t *testing.T, m impl.Module, p []impl.Site, q []impl.Site) []impl.Site {
	t.Helper()
	got := impl.MergeSites(m, p, q)
	mustBeSites(t, "MergeSites", got, mergeByLaw(m, p, q), m, p, q)
	mustBeSites(t, "MergeSites the other way round", impl.MergeSites(m, q, p), got, m, p, q)
	if len(got) == 0 {
		return got
	}
	if !impl.ProfileOk(m, got) {
		t.Fatalf("MergeSites of %v and %v\nof %v is not ok: %v", p, q, m, got)
	}
	for _, x := range [][]impl.Site{p, q, got, nil} {
		mustBeSites(t, "merging what is in it already", impl.MergeSites(m, got, x), got, m, p, q, x)
		mustBeSites(t, "merging it with what is in it already", impl.MergeSites(m, x, got), got, m, p, q, x)
	}
	return got
}

// watchable are the instructions of which a Site may be, in order, whether anybody comes to them or not.
func watchable(m impl.Module) []impl.Site {
	var out []impl.Site
	for f, fn := range m.Funcs {
		for pc, x := range fn.Code {
			if within(x.Op, 11, 14) || x.Op == 23 {
				out = append(out, site(f, pc, 2, 0))
			}
		}
	}
	return out
}

// randomSites is a profile that is ok.
func randomSites(r *rand.Rand, m impl.Module) []impl.Site {
	var out []impl.Site
	often := 1 + r.Intn(4)
	for _, s := range watchable(m) {
		if r.Intn(often) > 0 || len(out) == impl.MaxSites {
			continue
		}
		if opAt(m, s.Func, s.Pc) != impl.OpCall {
			s.Seen = 1 + r.Intn(3)
		} else if r.Intn(4) > 0 {
			s.Seen, s.Target = 1, r.Intn(len(m.Funcs))
		}
		out = append(out, s)
	}
	return out
}

// spoiledSites is a profile with one thing changed somewhere; it is seldom ok still.
func spoiledSites(r *rand.Rand, was []impl.Site) []impl.Site {
	p := append(slices.Clone(was), site(r.Intn(3), r.Intn(20), 1+r.Intn(3), 0))
	if len(was) > 0 && r.Intn(4) > 0 {
		p = p[:len(was)]
	}
	s := &p[r.Intn(len(p))]
	by := []int{1, -1, 2, -2}[r.Intn(4)]
	switch r.Intn(5) {
	case 0:
		s.Func += by
	case 1:
		s.Pc += by
	case 2:
		s.Seen += by
	case 3:
		s.Target += by
	case 4:
		i := r.Intn(len(p))
		p[i], *s = *s, p[i]
	}
	return p
}
