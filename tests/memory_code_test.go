package tests

import (
	"math/rand"
	"slices"
	"strings"
	"testing"

	"loop.example/g00094/impl"
)

// spareSrcs lie behind a list of sources; with them it would be another one.
func spareSrcs() []impl.Src { return srcs(valSrc(0), impl.Src{Kind: 9, N: -1, V: text(spare)}) }

func roomySrcs(list []impl.Src) []impl.Src {
	return append(slices.Clone(list), spareSrcs()...)[:len(list)]
}

// spareOps lie behind the ops of code: the first would be an end, the second is none.
func spareOps() []impl.FOp {
	return []impl.FOp{{Op: impl.FRet}, {Op: -1, D: -1, A: -1, B: -1, X: -1, F: -1, P: -1, V: rec(-1)}}
}

func spareExits() []impl.Exit {
	return []impl.Exit{{Kind: impl.ExGuard, Spec: spec(0, 2, 1, 0), Frames: exFrames(exFrame(0, 0, nil, nil), exFrame(1, 0, nil, nil))}, {Kind: 9}}
}

func spareExFrames() []impl.ExFrame {
	return exFrames(exFrame(0, 0, nil, nil), exFrame(-1, -1, nil, nil))
}

func spareExRecs() []impl.ExRec { return exRecs(exRec(), exRec(spareSrcs()...)) }

// roomyFast is c with spare room behind each list, in which lies what would make it other code.
func roomyFast(c impl.Fast) impl.Fast {
	out := cloneFast(c)
	out.Ops = append(out.Ops, spareOps()...)[:len(c.Ops)]
	out.Exits = append(out.Exits, spareExits()...)[:len(c.Exits)]
	for i, e := range c.Exits {
		x := &out.Exits[i]
		for k, f := range e.Frames {
			x.Frames[k].Locals, x.Frames[k].Stack = roomySrcs(f.Locals), roomySrcs(f.Stack)
		}
		for k, r := range e.Recs {
			x.Recs[k].Fields = roomySrcs(r.Fields)
		}
		x.Frames = append(x.Frames, spareExFrames()...)[:len(e.Frames)]
		x.Recs = append(x.Recs, spareExRecs()...)[:len(e.Recs)]
	}
	return out
}

// untouchedFast tells whether c and the spare room behind its lists are as roomyFast made them.
func untouchedFast(c impl.Fast, was impl.Fast) bool {
	no, ne := len(was.Ops), len(was.Exits)
	if !sameFast(c, was) || !slices.Equal(c.Ops[no:no+2], spareOps()) || !slices.EqualFunc(c.Exits[ne:ne+2], spareExits(), sameExit) {
		return false
	}
	for _, e := range c.Exits {
		nf, nr := len(e.Frames), len(e.Recs)
		if !slices.EqualFunc(e.Frames[nf:nf+2], spareExFrames(), sameExFrame) || !slices.EqualFunc(e.Recs[nr:nr+2], spareExRecs(), sameExRec) {
			return false
		}
		for _, list := range sourceLists(e) {
			if n := len(list); !slices.Equal(list[n:n+2], spareSrcs()) {
				return false
			}
		}
	}
	return true
}

// fillFast writes over all that c's lists have, up to their capacity.
func fillFast(c impl.Fast) {
	for _, e := range c.Exits {
		for _, list := range sourceLists(e) {
			for i := range list[:cap(list)] {
				list[:cap(list)][i] = impl.Src{Kind: -5}
			}
		}
		clear(e.Frames[:cap(e.Frames)])
		clear(e.Recs[:cap(e.Recs)])
	}
	clear(c.Ops[:cap(c.Ops)])
	clear(c.Exits[:cap(c.Exits)])
}

// checkListsApart asks of code, which was made of something, that no two of its lists share memory: each gets another
// number here, and has its own then.
func checkListsApart(t *testing.T, of any, c impl.Fast) {
	t.Helper()
	var lists [][]impl.Src
	for _, e := range c.Exits[:cap(c.Exits)] {
		e.Frames, e.Recs = e.Frames[:cap(e.Frames)], e.Recs[:cap(e.Recs)]
		lists = append(lists, sourceLists(e)...)
	}
	for n, list := range lists {
		for i := range list[:cap(list)] {
			list[:cap(list)][i] = valSrc(n)
		}
	}
	for n, list := range lists {
		if slices.ContainsFunc(list[:cap(list)], func(s impl.Src) bool { return s != valSrc(n) }) {
			t.Fatalf("%+v: two lists of sources share memory", of)
		}
	}
	checkExitsApart(t, of, c)
}

// checkExitsApart asks it of the lists of frames and of records.
func checkExitsApart(t *testing.T, of any, c impl.Fast) {
	t.Helper()
	for n, e := range c.Exits {
		for i := range e.Frames[:cap(e.Frames)] {
			e.Frames[:cap(e.Frames)][i] = impl.ExFrame{Pc: n}
		}
		for i := range e.Recs[:cap(e.Recs)] {
			e.Recs[:cap(e.Recs)][i] = impl.ExRec{Fields: nilSrcs(n)}
		}
	}
	for n, e := range c.Exits {
		otherFrame := slices.ContainsFunc(e.Frames[:cap(e.Frames)], func(f impl.ExFrame) bool { return f.Pc != n })
		if otherFrame || slices.ContainsFunc(e.Recs[:cap(e.Recs)], func(x impl.ExRec) bool { return len(x.Fields) != n }) {
			t.Fatalf("%+v: two exits share memory", of)
		}
	}
}

// checkNothingBehind asks of code, which was made of something, that nothing lies behind the length of any of its lists.
func checkNothingBehind(t *testing.T, of any, c impl.Fast) {
	t.Helper()
	if slices.ContainsFunc(c.Ops[len(c.Ops):cap(c.Ops)], func(x impl.FOp) bool { return x != impl.FOp{} }) {
		t.Errorf("%+v: an op lies behind those that are told", of)
	}
	if slices.ContainsFunc(c.Exits[len(c.Exits):cap(c.Exits)], func(e impl.Exit) bool { return !sameExit(e, impl.Exit{}) }) {
		t.Errorf("%+v: an exit lies behind those that are told", of)
	}
	for _, e := range c.Exits {
		if slices.ContainsFunc(e.Frames[len(e.Frames):cap(e.Frames)], func(f impl.ExFrame) bool { return !sameExFrame(f, impl.ExFrame{}) }) ||
			slices.ContainsFunc(e.Recs[len(e.Recs):cap(e.Recs)], func(x impl.ExRec) bool { return !sameExRec(x, impl.ExRec{}) }) {
			t.Errorf("%+v: a frame or a record lies behind those of an exit", of)
		}
		for _, list := range sourceLists(e) {
			if slices.ContainsFunc(list[len(list):cap(list)], func(s impl.Src) bool { return s != impl.Src{} }) {
				t.Errorf("%+v: a source lies behind %v", of, list)
			}
		}
	}
}

// coded is code, ok or not, and the module that it is asked of.
type coded struct {
	m impl.Module
	c impl.Fast
}

// someCodes have guesses and functions laid in once, often and not at all, and such as are not ok.
func someCodes() []coded {
	m, sum := codeModule(), mod("func 2 2; load 0; load 1; add; return")
	noEnd, wrong := onFullExits(fullCode().Ops[:5]...), fullCode()
	wrong.Exits[3].Kind = 5
	out := []coded{
		{m, fullCode()}, {m, guardCode()}, {m, guardCode(guards()...)}, {m, guardCode(slices.Repeat(guards(), 20)...)},
		{m, laidCode([]int{2, 1, 0}, []int{1, 1})}, {m, laidCode([]int{}, []int{})}, {m, noEnd}, {m, wrong}, {m, impl.Fast{}},
		{impl.Module{}, fullCode()}, {sum, fullCode()}, {sum, retCode(0, 0, 2, 0)},
		// With the spare op it would have an end, with a spare exit it would have one to take.
		{sum, impl.Fast{Vals: 2, Ops: []impl.FOp{{Op: impl.FMove, A: 1}}}}, {sum, impl.Fast{Vals: 2, Ops: []impl.FOp{{Op: impl.FExit}}}},
	}
	r := rand.New(rand.NewSource(40))
	for range 40 {
		m := randomProgram(r)
		for range 4 {
			c := randomFast(r, m)
			out = append(out, coded{m, c}, coded{m, spoiledFast(r, c)})
		}
	}
	return out
}

func TestCodeIsNotWrittenInto(t *testing.T) {
	for _, was := range someCodes() {
		m, c := roomy(was.m), roomyFast(was.c)
		ok := fastOkByLaw(was.m, was.c)
		if got := impl.FastOk(m, c); got != ok {
			t.Errorf("FastOk, with room behind lists, of %+v: %v", was, got)
		}
		var guesses []impl.Spec
		var laid []int
		shown := ""
		if ok {
			guesses, laid, shown = specsOfByLaw(was.m, was.c), laidOfByLaw(was.m, was.c), fastTextByLaw(was.c)
		}
		if got := impl.SpecsOf(m, c); !slices.Equal(got, guesses) {
			t.Errorf("SpecsOf, with room behind lists, of %+v: %v, not %v", was, got, guesses)
		}
		if got := impl.LaidOf(m, c); !slices.Equal(got, laid) {
			t.Errorf("LaidOf, with room behind lists, of %+v: %v, not %v", was, got, laid)
		}
		if got := impl.FastText(m, c); got != shown {
			t.Errorf("FastText, with room behind lists, of %+v: %q, not %q", was, got, shown)
		}
		if !untouched(m, was.m) || !untouchedFast(c, was.c) {
			t.Errorf("%+v: written into", was)
		}
	}
}

// What is written into one answer does not show in what was handed in, nor in other answers, nor the other way round.
func TestWhatCodeTellsIsKeptApart(t *testing.T) {
	for _, was := range someCodes() {
		m, c := roomy(was.m), roomyFast(was.c)
		guesses, laid, shown := impl.SpecsOf(m, c), impl.LaidOf(m, c), impl.FastText(m, c)
		wantGuesses, wantLaid := slices.Clone(guesses), slices.Clone(laid)
		otherGuesses, otherLaid := impl.SpecsOf(m, c), impl.LaidOf(m, c)
		fillSpecs(guesses)
		fillPlaces(laid)
		if !untouched(m, was.m) || !untouchedFast(c, was.c) {
			t.Errorf("%+v shares memory with what it tells", was)
		}
		if !slices.Equal(otherGuesses, wantGuesses) || !slices.Equal(otherLaid, wantLaid) {
			t.Errorf("%+v: two answers share memory: %v, %v", was, otherGuesses, otherLaid)
		}
		if !slices.Equal(impl.SpecsOf(m, c), wantGuesses) || !slices.Equal(impl.LaidOf(m, c), wantLaid) {
			t.Errorf("%+v: tells something else later on", was)
		}
		fillLists(m)
		fillFast(c)
		if !slices.Equal(otherGuesses, wantGuesses) || !slices.Equal(otherLaid, wantLaid) || shown != impl.FastText(was.m, was.c) {
			t.Errorf("%+v: what was told hangs on the code: %v, %v, %q", was, otherGuesses, otherLaid, shown)
		}
	}
}

// What lies behind an answer's length is none of what was handed in, nor of what was taken out of the answer.
func TestNothingIsHandedOutBehindWhatCodeTells(t *testing.T) {
	for _, was := range someCodes() {
		m, c := roomy(was.m), roomyFast(was.c)
		guesses, laid := impl.SpecsOf(m, c), impl.LaidOf(m, c)
		if slices.ContainsFunc(guesses[len(guesses):cap(guesses)], func(s impl.Spec) bool { return s != impl.Spec{} }) {
			t.Errorf("%+v: something lies behind %v", was, guesses)
		}
		if slices.ContainsFunc(laid[len(laid):cap(laid)], func(f int) bool { return f != 0 }) {
			t.Errorf("%+v: something lies behind %v", was, laid)
		}
	}
}

// textsOfFast are all texts of code, where they lie.
func textsOfFast(c impl.Fast) []*string {
	var out []*string
	for i := range c.Ops {
		out = append(out, &c.Ops[i].V.S)
	}
	for _, e := range c.Exits {
		for _, list := range sourceLists(e) {
			for i := range list {
				out = append(out, &list[i].V.S)
			}
		}
	}
	return out
}

func TestTextsOfCodeAreNewMemory(t *testing.T) {
	for _, was := range someCodes() {
		c := cloneFast(was.c)
		var given []string
		for _, s := range textsOfFast(c) {
			*s = strings.Clone(*s)
			given = append(given, *s)
		}
		got := impl.FastText(was.m, c)
		for _, whole := range given {
			if liesIn(got, whole) || liesIn(whole, got) {
				t.Fatalf("%+v: its text is in an argument's memory: %q", was, got)
			}
		}
	}
}

// No call keeps anything for another one, also where others came between that were refused.
func TestCodeIsToldAlikeAgain(t *testing.T) {
	list := someCodes()
	for range 2 {
		for _, x := range list {
			checkCode(t, x.m, x.c)
		}
		slices.Reverse(list)
	}
}
