package tests

import (
	"slices"
	"testing"

	"loop.example/g00094/impl"
)

// flowTold is all that is told of a function's flow.
type flowTold struct {
	leaders  []int
	heads    []int
	entries  []int
	straight bool
}

// places are instructions of one function.
func places(list ...int) []int { return list }

func flowTo(m impl.Module, f int) flowTold {
	return flowTold{impl.LeadersOf(m, f), impl.HeadsOf(m, f), impl.EntriesOf(m, f), impl.Straight(m, f)}
}

// sameFlow holds an empty list and nil for the same.
func sameFlow(a flowTold, b flowTold) bool {
	return slices.Equal(a.leaders, b.leaders) && slices.Equal(a.heads, b.heads) && slices.Equal(a.entries, b.entries) &&
		a.straight == b.straight
}

// leap is an OpJump, OpIf or OpIfNot that has a height, and where it stands.
type leap struct {
	at int
	x  impl.Ins
}

func leapsByLaw(m impl.Module, f int) []leap {
	var out []leap
	depths := depthsByLaw(m, f)
	for at, x := range m.Funcs[f].Code {
		if within(x.Op, 17, 19) && depths[at] != -1 {
			out = append(out, leap{at, x})
		}
	}
	return out
}

// flowByLaw asks each instruction by itself what the document's words say of it.
func flowByLaw(m impl.Module, f int) flowTold {
	if !within(f, 0, len(m.Funcs)-1) || !goodByLaw(m) {
		return flowTold{}
	}
	out, all := flowTold{}, leapsByLaw(m, f)
	for at := range m.Funcs[f].Code {
		to := func(l leap) bool { return l.x.A == at }
		behind := func(l leap) bool { return l.x.Op != 17 && l.at+1 == at }
		back := func(l leap) bool { return l.x.A == at && !(l.at < at) }
		if at == 0 || slices.ContainsFunc(all, to) || slices.ContainsFunc(all, behind) {
			out.leaders = append(out.leaders, at)
		}
		if slices.ContainsFunc(all, back) {
			out.heads = append(out.heads, at)
		}
		if at == 0 || slices.ContainsFunc(all, back) {
			out.entries = append(out.entries, at)
		}
	}
	out.straight = len(all) == 0 && len(m.Funcs[f].Code) <= 24
	return out
}

func rises(list []int) bool {
	for i := range list {
		if i > 0 && list[i-1] >= list[i] {
			return false
		}
	}
	return true
}

// checkLeaps holds each jump of a good module against what is told, which is promise 8 from the one side.
func checkLeaps(t *testing.T, m impl.Module, f int, got flowTold) {
	t.Helper()
	for _, l := range leapsByLaw(m, f) {
		if !slices.Contains(got.leaders, l.x.A) {
			t.Fatalf("%v, function %d: no block begins where %v leads to: %v", m, f, l, got)
		}
		if l.x.Op != impl.OpJump && !slices.Contains(got.leaders, l.at+1) {
			t.Fatalf("%v, function %d: no block begins behind %v: %v", m, f, l, got)
		}
		if l.x.A <= l.at && (!slices.Contains(got.heads, l.x.A) || !slices.Contains(got.entries, l.x.A)) {
			t.Fatalf("%v, function %d: no loop begins, or none is entered, where %v goes back to: %v", m, f, l, got)
		}
		if got.straight {
			t.Fatalf("%v, function %d is straight with %v", m, f, l)
		}
	}
	if !slices.Contains(got.leaders, 0) || !slices.Contains(got.entries, 0) {
		t.Fatalf("%v, function %d does not begin at 0: %v", m, f, got)
	}
}

// checkPlaces holds each place that is told of a good module against its instructions: promise 8 from the other side.
func checkPlaces(t *testing.T, m impl.Module, f int, got flowTold) {
	t.Helper()
	code, depths := m.Funcs[f].Code, depthsByLaw(m, f)
	comes := func(at int) bool { return within(at, 0, len(code)-1) && depths[at] != -1 }
	ledTo := func(at int, from int) bool {
		for i := from; i < len(code); i++ {
			if within(code[i].Op, 17, 19) && code[i].A == at && comes(i) {
				return true
			}
		}
		return false
	}
	for _, at := range got.leaders {
		if !comes(at) || at != 0 && !ledTo(at, 0) && !(within(code[at-1].Op, 18, 19) && comes(at-1)) {
			t.Fatalf("%v, function %d: a block begins at %d", m, f, at)
		}
	}
	for _, at := range got.heads {
		if !comes(at) || !ledTo(at, at) {
			t.Fatalf("%v, function %d: a loop begins at %d", m, f, at)
		}
	}
	for _, at := range got.entries {
		if at != 0 && !slices.Contains(got.heads, at) || !slices.Contains(got.leaders, at) {
			t.Fatalf("%v, function %d: is entered at %d", m, f, at)
		}
	}
	if !rises(got.leaders) || !rises(got.heads) || !rises(got.entries) {
		t.Fatalf("%v, function %d: not ascending: %v", m, f, got)
	}
}

// checkFlow holds all that is told of the functions of a module, good or not, and of such as it has not, against the
// law, and asks promise 8 of it.
func checkFlow(t *testing.T, m impl.Module) {
	t.Helper()
	good := goodByLaw(m)
	for f := -1; f <= len(m.Funcs); f++ {
		got := flowTo(m, f)
		if want := flowByLaw(m, f); !sameFlow(got, want) {
			t.Fatalf("%v, function %d: %v, not %v", m, f, got, want)
		}
		if good && within(f, 0, len(m.Funcs)-1) {
			checkLeaps(t, m, f, got)
			checkPlaces(t, m, f, got)
		}
	}
}

// flowing is a module, and what is told of its function 0.
type flowing struct {
	name string
	m    impl.Module
	want flowTold
}

func checkFlowing(t *testing.T, list []flowing) {
	t.Helper()
	for _, x := range list {
		if got := impl.Verify(x.m); got != (impl.Trouble{}) {
			t.Errorf("%s: not good: %v", x.name, got)
		}
		if got := flowTo(x.m, 0); !sameFlow(got, x.want) {
			t.Errorf("%s: %v, not %v", x.name, got, x.want)
		}
		checkFlow(t, x.m)
	}
}

// checkNoFlow asks that nothing is told.
func checkNoFlow(t *testing.T, name string, m impl.Module, f int) {
	t.Helper()
	if got := flowTo(m, f); !sameFlow(got, flowTold{}) {
		t.Errorf("%s, function %d: %v", name, f, got)
	}
}
