package tests

import (
	"math/rand"
	"slices"
	"strings"
	"testing"

	"loop.example/g00094/impl"
)

// roomyEntering is e with spare room behind each list, in which lies what would make it another one.
func roomyEntering(e entering) entering {
	return entering{roomy(e.m), roomyFast(e.c), roomyVm(e.vm), e.fuel}
}

// untouchedEntering tells whether e and the spare room behind its lists are as roomyEntering made them.
func untouchedEntering(e entering, was entering) bool {
	return untouched(e.m, was.m) && untouchedFast(e.c, was.c) && untouchedVm(e.vm, was.vm)
}

// fillEntering writes over all that e's lists have, up to their capacity.
func fillEntering(e entering) {
	fillLists(e.m)
	fillFast(e.c)
	fillVm(e.vm)
}

// textCode has texts come by each way: from constants of ops and of exits, from the frame, from records, and from sums.
func textCode() entering {
	m := mod(`text "in the module"; func 1 3; text 0; store 1; nil; nil; load 1; return`)
	e := exitAt(impl.ExPause, 4, "v0 v3 v4", "r0 v5", "v0 v3")
	e.Recs[0].Fields = append(e.Recs[0].Fields, constSrc(text("of an exit")))
	c := impl.Fast{
		Vals: 7, Exits: []impl.Exit{e},
		Ops: []impl.FOp{
			{Op: impl.FConst, D: 3, V: text("of an op")}, {Op: impl.FConst, D: 6, V: text("")}, {Op: impl.FAdd, D: 4, A: 0, B: 6}, {Op: impl.FNew, D: 5, A: 2},
			{Op: impl.FPut, D: 0, A: 5, B: 3}, {Op: impl.FPut, D: 1, A: 5, B: 0}, {Op: impl.FGet, D: 2, A: 1}, {Op: impl.FPrint, A: 0}, {Op: impl.FPrint, A: 2},
			{Op: impl.FPrint, A: 3}, {Op: impl.FMade}, {Op: impl.FExit},
		},
	}
	vm := impl.Vm{
		Frames: frames(frame(0, 0, vals(text("a local"), rec(0), impl.Value{}), nil)), Heap: []impl.Rec{record(text("a field"), rec(0))},
		Made: 1, Out: []string{"printed"},
	}
	return entering{m, c, vm, 10}
}

// answering is textCode that answers instead.
func answering(a int) entering {
	e := textCode()
	e.c.Ops = append(e.c.Ops[:10:10], impl.FOp{Op: impl.FRet, A: a})
	return e
}

// someEnterings leave in each way, build records, or are refused.
func someEnterings() []entering {
	noFuel, wrong, elsewhere, noRoom := textCode(), textCode(), textCode(), textCode()
	noFuel.fuel, wrong.c.Vals, elsewhere.vm.Frames[0].Pc = -1, 2, 1
	noRoom.c.Ops = slices.Insert(noRoom.c.Ops, 0, impl.FOp{Op: impl.FMake})
	deep := entering{codeModule(), onFullExits(fop(impl.FExit, 0, 0, 0, 2)), recordState(3, 9), 0}
	deep.vm.Frames = append(below(4), deep.vm.Frames...)
	back := deep.clone()
	back.c = onFullExits(fop(impl.FRet, 0, 3, 0, 0))
	out := []entering{textCode(), answering(0), answering(2), answering(3), answering(4), noFuel, wrong, elsewhere, noRoom, deep, back, {}}
	for _, x := range someHandmade() {
		vm, _ := impl.Start(x.m, vals(num(9))[:x.m.Funcs[0].Params])
		out = append(out, entering{x.m, x.c, vm, 20})
	}
	r := rand.New(rand.NewSource(58))
	for n := range 30 {
		m := randomProgram(r)
		for _, c := range allTranslated(m, someStyles()[n%len(someStyles())]) {
			out = append(out, entering{m, c, stateAt(r, m, c), r.Intn(50)}, entering{m, turned(r, m, c), stateAt(r, m, c), r.Intn(50)})
		}
		for range 4 {
			c := randomFast(r, m)
			out = append(out, entering{m, c, stateAt(r, m, c), r.Intn(50)}, entering{m, c, spoiled(r, m, stateAt(r, m, c)), r.Intn(50)})
		}
	}
	return out
}

func TestWhatRunFastIsGivenIsNotWrittenInto(t *testing.T) {
	list := someEnterings()
	for i, want := range []int{impl.ExPause, impl.LfReturn, impl.LfReturn, impl.LfReturn, impl.LfReturn, 0, 0, 0, 0, impl.ExCall, impl.LfReturn, 0} {
		if _, told := list[i].run(); told.Kind != want {
			t.Errorf("%d of them leaves by %+v", i, told)
		}
	}
	ways := map[int]int{}
	for _, was := range list {
		e := roomyEntering(was)
		got, told := e.run()
		want, wantTold := runFastByLaw(was)
		checkVm(t, "RunFast reads behind a list", got, want)
		if told != wantTold || !untouchedEntering(e, was) {
			t.Errorf("%+v: written into, or told as %+v", was, told)
		}
		if impl.Enters(e.m, e.c, e.vm) != entersByLaw(was.m, was.c, was.vm) || !untouchedEntering(e, was) {
			t.Errorf("%+v: Enters writes into it, or reads behind a list", was)
		}
		ways[told.Kind]++
	}
	for kind := range 6 {
		if ways[kind] < 5 {
			t.Errorf("ways in which code left: %v: they try too little", ways)
		}
	}
}

// What is written into one answer does not show in what was handed in, nor in other answers, nor the other way round.
func TestWhatCodeComesToIsKeptApart(t *testing.T) {
	for _, was := range someEnterings() {
		e := roomyEntering(was)
		got, _ := e.run()
		other, _ := e.run()
		want := cloneVm(got)
		fillVm(got)
		if !untouchedEntering(e, was) {
			t.Errorf("%+v shares memory with what came of it", was)
		}
		checkVm(t, "two answers", other, want)
		later, _ := e.run()
		checkVm(t, "a later answer", later, want)
		fillEntering(e)
		checkVm(t, "what came of something that was written into", other, want)
		again, _ := was.run()
		checkVm(t, "the same again", again, want)
	}
}

// No two lists of one answer share any memory, be they of one register, or of the heap and of what was built.
func TestTheListsThatCodeComesToShareNothing(t *testing.T) {
	for _, was := range someEnterings() {
		if got, _ := was.run(); !listsApart(got) {
			t.Fatalf("two lists share memory: %+v", was)
		}
	}
}

// checkNothingBehindState asks of a state, to which something came, that nothing lies behind the length of any of its
// lists.
func checkNothingBehindState(t *testing.T, of any, got impl.Vm) {
	t.Helper()
	for _, f := range got.Frames[len(got.Frames):cap(got.Frames)] {
		if !sameFrame(f, impl.Frame{}) {
			t.Errorf("%+v: a frame lies behind those that are told", of)
		}
	}
	for _, x := range got.Heap[len(got.Heap):cap(got.Heap)] {
		if !sameRec(x, impl.Rec{}) {
			t.Errorf("%+v: a record lies behind those that are told", of)
		}
	}
	for _, list := range valueLists(got) {
		if slices.ContainsFunc(list[len(list):cap(list)], func(v impl.Value) bool { return v != impl.Value{} }) {
			t.Errorf("%+v: a value lies behind %v", of, list)
		}
	}
	if slices.ContainsFunc(got.Out[len(got.Out):cap(got.Out)], func(s string) bool { return s != "" }) {
		t.Errorf("%+v: a text lies behind those that are told", of)
	}
}

// What lies behind an answer's length is none of what was handed in, nor of what code had on the way.
func TestNothingIsHandedOutBehindWhatCodeComesTo(t *testing.T) {
	for _, was := range someEnterings() {
		got, _ := roomyEntering(was).run()
		checkNothingBehindState(t, was, got)
	}
}

// ownedTexts has a copy of each text of e, and lists them.
func ownedTexts(was entering) (entering, []string) {
	e := was.clone()
	var given []string
	own := func(s *string) {
		*s = strings.Clone(*s)
		given = append(given, *s)
	}
	for i := range e.m.Texts {
		own(&e.m.Texts[i])
	}
	for i := range e.vm.Out {
		own(&e.vm.Out[i])
	}
	for _, list := range valueLists(e.vm) {
		for i := range list {
			own(&list[i].S)
		}
	}
	for _, s := range textsOfFast(e.c) {
		own(s)
	}
	return e, given
}

func TestTextsThatCodeComesToAreNewMemory(t *testing.T) {
	texts := 0
	for _, was := range someEnterings() {
		e, given := ownedTexts(was)
		got, _ := e.run()
		for _, s := range textsOfVm(got) {
			texts++
			for _, whole := range given {
				if liesIn(s, whole) {
					t.Fatalf("%+v: %q is in an argument's memory", was, s)
				}
			}
		}
	}
	if texts < 100 {
		t.Errorf("%d texts alone: they try too little", texts)
	}
}

// No call keeps anything for another one, also where others came between that were refused.
func TestCodesRunAlikeAgain(t *testing.T) {
	list := someEnterings()
	for range 2 {
		for _, e := range list {
			checkFast(t, e)
		}
		slices.Reverse(list)
	}
}
