package tests

import (
	"math/rand"
	"slices"
	"testing"

	"loop.example/g00094/impl"
)

// countedCodes have one op and many, of one instruction and of several, or are refused.
func countedCodes() []coded {
	m := sweepModule()
	out := append(someCodes(), textedCode(), sharingCode(), coded{m, lengthy(1)}, coded{m, lengthy(300)}, coded{m, lengthy(impl.MaxOps)}, coded{m, repeated(impl.FPrint, 600)})
	r := rand.New(rand.NewSource(84))
	for n := range 12 {
		p := looseProgram(r, n)
		for _, c := range allMade(p, boldPlan(r, p)) {
			out = append(out, coded{p, c})
		}
	}
	return out
}

func TestWhatIsCountedIsNotWrittenInto(t *testing.T) {
	oks := map[bool]int{}
	for _, was := range countedCodes() {
		m, c := roomy(was.m), roomyFast(was.c)
		x := toldOfCode(was)
		x.m, x.c = m, c
		if !x.toldAgain() {
			t.Errorf("%+v: told otherwise, with room behind lists", was)
		}
		if !untouched(m, was.m) || !untouchedFast(c, was.c) {
			t.Errorf("%+v: written into", was)
		}
		oks[len(x.counts) > 0]++
	}
	if oks[true] < 200 || oks[false] < 50 {
		t.Errorf("ok or not %v times: they try too little", oks)
	}
}

// What is written into one answer does not show in what was handed in, nor in other answers, nor the other way round.
func TestWhatWasCountedIsKeptApart(t *testing.T) {
	for _, was := range countedCodes() {
		m, c := roomy(was.m), roomyFast(was.c)
		f, pc := c.Func, c.Entry
		if len(c.Ops) > 0 {
			f, pc = c.Ops[0].F, c.Ops[0].P
		}
		counts, ops := impl.CountOps(m, c), impl.OpsAt(m, c, f, pc)
		otherCounts, otherOps := impl.CountOps(m, c), impl.OpsAt(m, c, f, pc)
		wantCounts, wantOps := slices.Clone(counts), slices.Clone(ops)
		fillPlaces(counts)
		fillPlaces(ops)
		if !untouched(m, was.m) || !untouchedFast(c, was.c) {
			t.Errorf("%+v shares memory with what is told of it", was)
		}
		if !slices.Equal(otherCounts, wantCounts) || !slices.Equal(otherOps, wantOps) {
			t.Errorf("%+v: two answers share memory", was)
		}
		if !slices.Equal(impl.CountOps(m, c), wantCounts) || !slices.Equal(impl.OpsAt(m, c, f, pc), wantOps) {
			t.Errorf("%+v: is told otherwise later on", was)
		}
		fillLists(m)
		fillFast(c)
		if !slices.Equal(otherCounts, wantCounts) || !slices.Equal(otherOps, wantOps) {
			t.Errorf("%+v: what was told hangs on the code", was)
		}
	}
}

// What lies behind an answer's length is none of what was handed in, nor of another answer.
func TestNothingIsHandedOutBehindWhatWasCounted(t *testing.T) {
	for _, was := range countedCodes() {
		m, c := roomy(was.m), roomyFast(was.c)
		lists := [][]int{impl.CountOps(m, c), impl.OpsAt(m, c, -1, -1)}
		for at := range opsByPlace(c) {
			lists = append(lists, impl.OpsAt(m, c, at[0], at[1]))
		}
		for _, list := range lists {
			if slices.ContainsFunc(list[len(list):cap(list)], func(n int) bool { return n != 0 }) {
				t.Errorf("%+v: something lies behind %v", was, list)
			}
		}
	}
}

// No call keeps anything for another one, also where others came between that were refused.
func TestCodeIsCountedAlikeAgain(t *testing.T) {
	var list []toldOf
	for _, x := range countedCodes() {
		list = append(list, toldOfCode(x))
	}
	for range 2 {
		for _, x := range list {
			if !x.toldAgain() {
				t.Fatalf("%+v is told otherwise", x.coded)
			}
		}
		slices.Reverse(list)
	}
}
