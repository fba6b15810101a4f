package tests

import (
	"math/rand"
	"slices"
	"strings"
	"testing"

	"loop.example/g00094/impl"
)

// roomyAsking is a with spare room behind each list, in which lies what would make it another one.
func roomyAsking(a asking) asking {
	return asking{roomy(a.m), a.f, a.entry, impl.Plan{Specs: roomySpecs(a.p.Specs), Lay: a.p.Lay, Bare: a.p.Bare}}
}

func untouchedAsking(a asking, was asking) bool {
	return untouched(a.m, was.m) && untouchedSpecs(a.p.Specs, was.p.Specs)
}

// someAskings have blocks, records, texts, functions laid in, guesses, or are refused.
func someAskings() []asking {
	texts := mod(`text "of the module"; text "another"; func 1 3; text 0; store 1; new 2; store 2; load 2; text 1; put 0; load 0; if 11; load 2; print; load 1; text 1; invoke 1; return; func 2 2; load 0; load 1; add; return`)
	sum := mod("func 2 2; load 0; load 1; add; return")
	guess := planOn(spec(0, 2, 1, 0))
	out := []asking{
		{texts, 0, 0, impl.Plan{}}, {texts, 0, 0, bareOn()}, {texts, 0, 0, impl.Plan{Lay: 1, Bare: true}}, {texts, 1, 0, impl.Plan{Lay: 1, Bare: true}},
		{countModule(), 0, 0, planOn(spec(0, 4, 1, 0), spec(0, 8, 1, 0))}, {countModule(), 0, 2, impl.Plan{}}, {cellModule(), 0, 0, bareOn()}, {ringModule(), 0, 0, impl.Plan{Lay: 2, Bare: true}},
		// With the spare guess these would be made otherwise, or be refused.
		{sum, 0, 0, impl.Plan{}}, {sum, 0, 0, guess}, {sum, 0, 1, guess}, {sum, 1, 0, guess}, {sum, 0, 0, layOn(4)}, {impl.Module{}, 0, 0, guess}, {sum, 0, 0, planOn(spec(0, 1, 1, 0))},
		{opsModule(1501, "load 0; return"), 0, 0, layOn(2)},
	}
	r := rand.New(rand.NewSource(67))
	for n := range 40 {
		m := anyProgram(r, n)
		plans := somePlansOf(r, m)
		out = append(out, allAskings(m, plans[n%len(plans)])...)
		out = append(out, asking{m, 0, 0, spoiledPlan(r, plans[0])})
	}
	return out
}

func sameNumbers(a [][]int, b [][]int) bool {
	return slices.EqualFunc(a, b, func(x []int, y []int) bool { return slices.Equal(x, y) })
}

func TestWhatMakeIsGivenIsNotWrittenInto(t *testing.T) {
	oks := map[bool]int{}
	for _, was := range someAskings() {
		a := roomyAsking(was)
		c, ok := a.make()
		if want, wanted := was.makeByLaw(); ok != wanted || !sameFast(c, want) {
			t.Errorf("Make reads behind a list of %+v", was)
		}
		if got := a.numbers(); !sameNumbers(got, was.numbersByLaw()) {
			t.Errorf("NumbersOf reads behind a list of %+v", was)
		}
		if !untouchedAsking(a, was) {
			t.Errorf("%+v: written into", was)
		}
		oks[ok]++
	}
	if oks[true] < 100 || oks[false] < 10 {
		t.Errorf("made or not %v times: they try too little", oks)
	}
}

// What is written into one answer does not show in what was handed in, nor in other answers, nor the other way round.
func TestWhatIsMadeIsKeptApart(t *testing.T) {
	for _, was := range someAskings() {
		a := roomyAsking(was)
		want, wanted := was.makeByLaw()
		numbers := was.numbersByLaw()
		c, _ := a.make()
		other, _ := a.make()
		told, toldToo := a.numbers(), a.numbers()
		fillFast(c)
		fillNumbers(told)
		if !untouchedAsking(a, was) {
			t.Errorf("%+v shares memory with what was made of it", was)
		}
		later, ok := a.make()
		if !sameFast(other, want) || !sameFast(later, want) || ok != wanted || !sameNumbers(toldToo, numbers) || !sameNumbers(a.numbers(), numbers) {
			t.Errorf("%+v: two answers share memory", was)
		}
		fillLists(a.m)
		fillSpecs(a.p.Specs)
		if !sameFast(other, want) || !sameNumbers(toldToo, numbers) {
			t.Errorf("%+v: what was made hangs on what it was made of", was)
		}
	}
}

// fillNumbers writes over all lists of numbers, up to their capacity.
func fillNumbers(list [][]int) {
	for _, set := range list {
		fillPlaces(set)
	}
	clear(list[:cap(list)])
}

// No two lists of one answer share any memory: each gets another number here, and has its own then.
func TestTheListsOfWhatIsMadeShareNothing(t *testing.T) {
	for _, a := range someAskings() {
		c, _ := a.make()
		checkListsApart(t, a, c)
		told := a.numbers()
		for n, set := range told {
			for i := range set[:cap(set)] {
				set[:cap(set)][i] = n
			}
		}
		for n, set := range told {
			if slices.ContainsFunc(set[:cap(set)], func(p int) bool { return p != n }) {
				t.Fatalf("%+v: two lists of numbers share memory", a)
			}
		}
	}
}

// What lies behind an answer's length is none of what was handed in, nor of what was known on the way.
func TestNothingIsHandedOutBehindWhatIsMade(t *testing.T) {
	for _, was := range someAskings() {
		a := roomyAsking(was)
		c, _ := a.make()
		checkNothingBehind(t, was, c)
		for _, set := range a.numbers() {
			if slices.ContainsFunc(set[len(set):cap(set)], func(p int) bool { return p != 0 }) {
				t.Errorf("%+v: a number lies behind %v", was, set)
			}
		}
	}
}

func TestTextsOfWhatIsMadeAreNewMemory(t *testing.T) {
	texts := 0
	for _, a := range someAskings() {
		a.m = cloneModule(a.m)
		for i := range a.m.Texts {
			a.m.Texts[i] = strings.Clone(a.m.Texts[i])
		}
		c, _ := a.make()
		for _, s := range textsOfFast(c) {
			for _, whole := range a.m.Texts {
				if liesIn(*s, whole) {
					t.Fatalf("%+v: %q is in an argument's memory", a, *s)
				}
			}
			texts += min(len(*s), 1)
		}
	}
	if texts < 100 {
		t.Errorf("%d texts alone: they try too little", texts)
	}
}

// No call keeps anything for another one, also where others came between that were refused.
func TestCodeIsMadeAlikeAgain(t *testing.T) {
	list := someAskings()
	for range 2 {
		for _, a := range list {
			checkMake(t, a)
		}
		slices.Reverse(list)
	}
}
