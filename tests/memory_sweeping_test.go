package tests

import (
	"math/rand"
	"slices"
	"strings"
	"testing"

	"loop.example/g00094/impl"
)

// textedCode has texts in ops that go and in such as stay, and in exits that go and in such as stay.
func textedCode() coded {
	c := unspelled(`9 9
		const v1 1
		const v2 1
		made x1
		safe x2
		exit x1
		x0 trap / 0 1 v0 | _
		x1 pause / 0 3 v0 | v1 _ r0 * _ n1 * v1
		x2 trap / 0 1 v0 | v1`)
	c.Ops[0].V, c.Ops[1].V = text("of an op that stays"), text("of an op that goes")
	c.Exits[0].Frames[0].Stack[0] = constSrc(text("of an exit that goes"))
	c.Exits[1].Frames[0].Stack[1] = constSrc(text("of an exit that stays"))
	c.Exits[1].Recs[0].Fields[0] = constSrc(text("of a record that stays"))
	return coded{sweepModule(), c}
}

// sharingCode has exits that share their lists with each other, and within themselves.
func sharingCode() coded {
	c := unspelled("9 9\nconst v1 1\nmove v2 v1\nsafe x0\nmade x1\nexit x2\n" + sweptExits)
	list := wordSrcs("v3")
	frames := exFrames(exFrame(0, 1, list, list))
	recs := exRecs(exRec(list...), exRec(list...))
	for i := range c.Exits {
		c.Exits[i].Frames, c.Exits[i].Recs = frames, recs
	}
	return coded{sweepModule(), c}
}

// sweptCodes have idle ops, exits that are of no use, both, none, or are refused.
func sweptCodes() []coded {
	m := sweepModule()
	out := []coded{
		textedCode(), sharingCode(), {codeModule(), fullCode()}, {m, chained(30, false)}, {m, chained(30, true)}, {m, unspelled("9 9\nret v0")},
		{m, unspelled("9 9\nconst v1 1\nmove v2 v1\nret v0")}, {m, unspelled("9 9\nret v0" + sweptExits)}, {m, unspelled("9 9\nexit x2" + sweptExits)},
		// With a spare op it would have an end, with a spare exit it would have one to take.
		{m, unspelled("9 9\nconst v1 1")}, {m, unspelled("9 9\nexit x3" + sweptExits)}, {m, impl.Fast{}}, {codeModule(), unspelled("9 9\nret v0")}, {impl.Module{}, fullCode()},
	}
	r := rand.New(rand.NewSource(77))
	for n := range 40 {
		p := looseProgram(r, n)
		for _, c := range allMade(p, boldPlan(r, p)) {
			out = append(out, coded{p, c})
		}
		for range 4 {
			c := randomFast(r, p)
			out = append(out, coded{p, c}, coded{p, crowded(r, c)}, coded{p, spoiledFast(r, c)})
		}
	}
	return out
}

func TestWhatIsSweptIsNotWrittenInto(t *testing.T) {
	swept, oks := 0, map[bool]int{}
	for _, was := range sweptCodes() {
		m, c := roomy(was.m), roomyFast(was.c)
		var idle []int
		want := impl.Fast{}
		ok := fastOkByLaw(was.m, was.c)
		if ok {
			idle, want = idleByLaw(was.c), sweepByLaw(was.c).c
		}
		if got := impl.IdleOps(m, c); !slices.Equal(got, idle) {
			t.Errorf("IdleOps, with room behind lists, of %+v: %v, not %v", was, got, idle)
		}
		if got := impl.Sweep(m, c); !sameFast(got, want) {
			t.Errorf("Sweep, with room behind lists, of %+v: %+v, not %+v", was, got, want)
		}
		if !untouched(m, was.m) || !untouchedFast(c, was.c) {
			t.Errorf("%+v: written into", was)
		}
		oks[ok]++
		swept += len(idle)
	}
	if oks[true] < 200 || oks[false] < 50 || swept < 500 {
		t.Errorf("ok or not %v times, %d idle ops: they try too little", oks, swept)
	}
}

// What is written into one answer does not show in what was handed in, nor in other answers, nor the other way round.
func TestWhatWasSweptIsKeptApart(t *testing.T) {
	for _, was := range sweptCodes() {
		m, c := roomy(was.m), roomyFast(was.c)
		idle, swept := impl.IdleOps(m, c), impl.Sweep(m, c)
		otherIdle, otherSwept := impl.IdleOps(m, c), impl.Sweep(m, c)
		wantIdle, want := slices.Clone(idle), cloneFast(swept)
		fillPlaces(idle)
		fillFast(swept)
		if !untouched(m, was.m) || !untouchedFast(c, was.c) {
			t.Errorf("%+v shares memory with what it was swept to", was)
		}
		if !slices.Equal(otherIdle, wantIdle) || !sameFast(otherSwept, want) {
			t.Errorf("%+v: two answers share memory", was)
		}
		if !slices.Equal(impl.IdleOps(m, c), wantIdle) || !sameFast(impl.Sweep(m, c), want) {
			t.Errorf("%+v: is swept to something else later on", was)
		}
		fillLists(m)
		fillFast(c)
		if !slices.Equal(otherIdle, wantIdle) || !sameFast(otherSwept, want) {
			t.Errorf("%+v: what was swept hangs on the code", was)
		}
	}
}

// What is swept again shares nothing with what it was swept to, though nothing goes.
func TestWhatIsSweptAgainIsKeptApart(t *testing.T) {
	for _, was := range sweptCodes() {
		first := impl.Sweep(was.m, was.c)
		want := cloneFast(first)
		second := impl.Sweep(was.m, first)
		fillFast(second)
		if !sameFast(first, want) {
			t.Errorf("%+v: swept again, it shares memory", was)
		}
	}
}

// No two lists of one answer share any memory, though those of the code do.
func TestTheListsOfWhatWasSweptShareNothing(t *testing.T) {
	for _, was := range sweptCodes() {
		checkListsApart(t, was, impl.Sweep(was.m, was.c))
	}
}

// What lies behind an answer's length is none of what was handed in, nor of what was taken out of the answer.
func TestNothingIsHandedOutBehindWhatWasSwept(t *testing.T) {
	for _, was := range sweptCodes() {
		m, c := roomy(was.m), roomyFast(was.c)
		idle, swept := impl.IdleOps(m, c), impl.Sweep(m, c)
		if slices.ContainsFunc(idle[len(idle):cap(idle)], func(at int) bool { return at != 0 }) {
			t.Errorf("%+v: something lies behind %v", was, idle)
		}
		checkNothingBehind(t, was, swept)
	}
}

func TestTextsOfWhatWasSweptAreNewMemory(t *testing.T) {
	texts := 0
	for _, was := range sweptCodes() {
		c := cloneFast(was.c)
		var given []string
		for _, s := range textsOfFast(c) {
			*s = strings.Clone(*s)
			given = append(given, *s)
		}
		for _, s := range textsOfFast(impl.Sweep(was.m, c)) {
			for _, whole := range given {
				if liesIn(*s, whole) {
					t.Fatalf("%+v: %q is in an argument's memory", was, *s)
				}
			}
			texts += min(len(*s), 1)
		}
	}
	if texts < 100 {
		t.Errorf("%d texts alone: they try too little", texts)
	}
}

// No call keeps anything for another one, also where others came between that were refused.
func TestCodeIsSweptAlikeAgain(t *testing.T) {
	list := sweptCodes()
	for range 2 {
		for _, x := range list {
			checkSweep(t, x.m, x.c)
		}
		slices.Reverse(list)
	}
}
