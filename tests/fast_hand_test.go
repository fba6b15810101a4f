package tests

import (
	"math/rand"
	"slices"
	"testing"

	"loop.example/g00094/impl"
)

// handmade is code that was made by hand, in the manner in which code is made. Some of its exits are never taken: they
// would be by a truth that is none, a record that is none, or a count past its end.
type handmade struct {
	name  string
	m     impl.Module
	c     impl.Fast
	never []int
}

// exitAt is an exit with one frame of function 0, told by words as in wordExit.
func exitAt(kind int, pc int, locals string, stack string, recs ...string) impl.Exit {
	e := impl.Exit{Kind: kind, Frames: exFrames(exFrame(0, pc, wordSrcs(locals), wordSrcs(stack)))}
	for _, fields := range recs {
		e.Recs = append(e.Recs, exRec(wordSrcs(fields)...))
	}
	return e
}

// guardAt is such an exit for a guess at numbers.
func guardAt(pc int, locals string, stack string, recs ...string) impl.Exit {
	e := exitAt(impl.ExGuard, pc, locals, stack, recs...)
	e.Spec = spec(0, pc, impl.SpInt, 0)
	return e
}

// countModule counts up to its argument.
func countModule() impl.Module {
	return mod("func 1 2; int 0; store 1; load 1; load 0; less; ifnot 11; load 1; int 1; add; store 1; jump 2; load 1; return")
}

// countCode keeps the count bare, from the beginning on, or, at the other entry, from where it was found to be one.
func countCode(entry int) impl.Fast {
	loop := []impl.FOp{
		{Op: impl.FSafe, P: 2},
		{Op: impl.FOpen, D: 0, A: 0, X: 1, P: 4},
		{Op: impl.FLessN, D: 2, A: 1, B: 0, P: 4},
		{Op: impl.FIf, A: 2, B: 6, X: 2, P: 5},
		{Op: impl.FJump, A: 9, P: 5},
		{Op: impl.FNum, D: 2, V: num(1), P: 7},
		{Op: impl.FAddN, D: 1, A: 1, B: 2, X: 3, P: 8},
		{Op: impl.FJump, A: 1, P: 10},
		{Op: impl.FBox, D: 3, A: 1, P: 11},
		{Op: impl.FRet, A: 3, P: 12},
	}
	c := impl.Fast{Entry: entry, Vals: 5, Nums: 3, Exits: []impl.Exit{
		exitAt(impl.ExPause, 2, "v0 n1", ""), guardAt(4, "v0 n1", "n1 v0"), exitAt(impl.ExTrap, 5, "v0 n1", "v2"), exitAt(impl.ExTrap, 8, "v0 n1", "n1 n2"),
	}}
	first := impl.FOp{Op: impl.FNum, D: 1, V: num(0), P: 0}
	if entry == 2 {
		first = impl.FOp{Op: impl.FOpen, D: 1, A: 1, X: 4, P: 4}
		c.Exits = append(c.Exits, guardAt(4, "v0 v1", "v1 v0"))
	}
	c.Ops = append([]impl.FOp{first}, loop...)
	return c
}

// pairModule makes a record and has another function read it.
func pairModule() impl.Module {
	return mod("func 0 1; new 2; dup; int 5; put 1; store 0; load 0; invoke 1; return; func 1 1; load 0; get 1; return")
}

// pairCode leaves the record unmade, and lays the function in.
func pairCode() impl.Fast {
	return impl.Fast{
		Vals: 3,
		Ops: []impl.FOp{
			{Op: impl.FMade, P: 0}, {Op: impl.FDeep, A: 1, X: 1, P: 6}, {Op: impl.FConst, D: 2, V: num(5), F: 0, P: 7}, {Op: impl.FRet, A: 2, P: 7},
		},
		Exits: []impl.Exit{exitAt(impl.ExTrap, 0, "v0", ""), exitAt(impl.ExTrap, 6, "r0", "r0", "_ 5")},
	}
}

// pausedPair is pairCode that leaves within the function that is laid in.
func pausedPair() impl.Fast {
	c := pairCode()
	c.Ops[2] = impl.FOp{Op: impl.FExit, X: 2, F: 1, P: 1}
	c.Exits = append(c.Exits, impl.Exit{Kind: impl.ExPause, Frames: exFrames(exFrame(0, 7, wordSrcs("r0"), nil), exFrame(1, 1, wordSrcs("r0"), wordSrcs("r0"))), Recs: exRecs(exRec(wordSrcs("_ 5")...))})
	return c
}

// cellModule counts its argument down through a field of a record.
func cellModule() impl.Module {
	return mod("func 1 2; new 1; store 1; load 1; load 0; put 0; load 1; get 0; int 1; sub; store 0; int 0; load 0; less; if 2; load 1; get 0; return")
}

// cellCode leaves the record unmade: each exit builds it with the field that it has then.
func cellCode() impl.Fast {
	return impl.Fast{
		Vals: 5, Nums: 4,
		Ops: []impl.FOp{
			{Op: impl.FMade, X: 0, P: 0},
			{Op: impl.FConst, D: 2, P: 0},
			{Op: impl.FSafe, X: 1, P: 2},
			{Op: impl.FMove, D: 2, A: 0, P: 4},
			{Op: impl.FOpen, D: 0, A: 2, X: 2, P: 8},
			{Op: impl.FNum, D: 1, V: num(1), P: 8},
			{Op: impl.FSubN, D: 2, A: 0, B: 1, X: 3, P: 8},
			{Op: impl.FBox, D: 0, A: 2, P: 9},
			{Op: impl.FNum, D: 3, P: 10, V: num(0)},
			{Op: impl.FLessN, D: 3, A: 3, B: 2, P: 12},
			{Op: impl.FIf, A: 3, B: 2, X: 4, P: 13},
			{Op: impl.FRet, A: 2, P: 16},
		},
		Exits: []impl.Exit{
			exitAt(impl.ExTrap, 0, "v0 v1", ""), exitAt(impl.ExPause, 2, "v0 r0", "", "v2"), guardAt(8, "v0 r0", "v2 1", "v2"),
			exitAt(impl.ExTrap, 8, "v0 r0", "n0 1", "n0"), exitAt(impl.ExTrap, 13, "v0 r0", "v3", "v2"),
		},
	}
}

// ringModule makes two records that name each other, prints one of them, and hands it on.
func ringModule() impl.Module {
	return mod("func 0 2; new 1; store 0; new 1; store 1; load 0; load 1; put 0; load 1; load 0; put 0; load 0; print; load 0; get 0; invoke 1; return; " +
		"func 1 1; load 0; get 0; return")
}

// ringCode makes them where they are needed, and not where they are counted.
func ringCode() impl.Fast {
	return impl.Fast{
		Vals: 4,
		Ops: []impl.FOp{
			{Op: impl.FMade, X: 0, P: 0},
			{Op: impl.FMade, X: 1, P: 2},
			{Op: impl.FMake, D: 2, A: 1, P: 11},
			{Op: impl.FMake, D: 3, A: 1, P: 11},
			{Op: impl.FPut, D: 0, A: 2, B: 3, X: 2, P: 11},
			{Op: impl.FPut, D: 0, A: 3, B: 2, X: 2, P: 11},
			{Op: impl.FPrint, A: 2, X: 2, P: 11},
			{Op: impl.FExit, X: 3, P: 14},
		},
		Exits: []impl.Exit{
			exitAt(impl.ExTrap, 0, "v0 v1", ""), exitAt(impl.ExTrap, 2, "r0 v1", "", "_"), exitAt(impl.ExTrap, 11, "v2 v3", "v2"), exitAt(impl.ExCall, 14, "v2 v3", "v3"),
		},
	}
}

// lateRing leaves them unmade up to the call, and does not print.
func lateRing() handmade {
	m := mod("func 0 2; new 1; store 0; new 1; store 1; load 0; load 1; put 0; load 1; load 0; put 0; load 0; get 0; invoke 1; return; func 1 1; load 0; get 0; return")
	c := ringCode()
	c.Ops = []impl.FOp{c.Ops[0], c.Ops[1], {Op: impl.FExit, X: 2, P: 12}}
	c.Exits = []impl.Exit{c.Exits[0], c.Exits[1], exitAt(impl.ExCall, 12, "r1 r0", "r0", "r1", "r0")}
	return handmade{"a ring that is not made", m, c, nil}
}

func someHandmade() []handmade {
	return []handmade{
		{"a count", countModule(), countCode(0), places(2, 3)}, {"a count, entered in its loop", countModule(), countCode(2), places(2, 3)},
		{"a pair", pairModule(), pairCode(), nil}, {"a pair, left within", pairModule(), pausedPair(), nil},
		{"a cell", cellModule(), cellCode(), places(4)}, {"a ring", ringModule(), ringCode(), nil}, lateRing(),
	}
}

// TestHandmadeCode asks promise 11 of code that was made by hand, from all states of runs that stand at its entry.
func TestHandmadeCode(t *testing.T) {
	for _, x := range someHandmade() {
		mustBeOk(t, x.name, x.m, x.c, true)
		for _, v := range vals(num(0), num(1), num(2), num(9), num(30), num(-4), num(1000000000), num(-1000000000), text("a"), impl.Value{}, truth(1), fun(0)) {
			args := vals(v)[:x.m.Funcs[0].Params]
			for steps := range 60 {
				vm := impl.Run(x.m, args, steps)
				if !checkEnters(t, x.m, x.c, vm) {
					continue
				}
				for _, fuel := range []int{0, 1, 2, 3, 8, 9, 10, 11, 50, 150} {
					checkMeaning(t, entering{x.m, x.c, vm, fuel})
				}
			}
		}
	}
}

// TestHandmadeCodeInDrawnStates asks it from states that no run need come to.
func TestHandmadeCodeInDrawnStates(t *testing.T) {
	r := rand.New(rand.NewSource(51))
	ways := map[[2]int]int{}
	for i, x := range someHandmade() {
		for range 400 {
			if _, told := checkMeaning(t, entering{x.m, x.c, stateAt(r, x.m, x.c), edge(r, 200)}); told.Kind != impl.LfReturn {
				ways[[2]int{i, told.Exit}]++
			}
		}
		for at := range x.c.Exits {
			if (ways[[2]int{i, at}] == 0) != slices.Contains(x.never, at) {
				t.Errorf("%s: exit %d is taken %d times", x.name, at, ways[[2]int{i, at}])
			}
		}
	}
}

func TestWhatHandmadeCodeComesTo(t *testing.T) {
	started := func(m impl.Module, args ...impl.Value) impl.Vm {
		vm, _ := impl.Start(m, args)
		return vm
	}
	deep := func(n int) impl.Vm {
		list := slices.Repeat(frames(frame(0, 7, vals(num(1)), nil)), n)
		return stateOn(append(list, frame(0, 0, vals(impl.Value{}), nil))...)
	}
	full := started(pairModule())
	full.Made = impl.MaxMade
	for _, x := range []struct {
		name string
		m    impl.Module
		c    impl.Fast
		vm   impl.Vm
		fuel int
		want impl.Vm
		told impl.Left
	}{
		{"a count to its end", countModule(), countCode(0), started(countModule(), num(3)), 100,
			impl.Vm{Status: impl.StDone, Value: num(3), Steps: 29}, impl.Left{Kind: impl.LfReturn, Steps: 29}},
		{"a count that pauses", countModule(), countCode(0), started(countModule(), num(30)), 10,
			impl.Vm{Frames: frames(frame(0, 2, vals(num(30), num(2)), nil)), Steps: 16}, impl.Left{Kind: impl.ExPause, Steps: 16}},
		{"a count to no number", countModule(), countCode(0), started(countModule(), text("a")), 10,
			impl.Vm{Frames: frames(frame(0, 4, vals(text("a"), num(0)), vals(num(0), text("a")))), Steps: 3}, impl.Left{Kind: impl.ExGuard, Exit: 1, Spec: spec(0, 4, 1, 0), Steps: 3}},
		{"a pair", pairModule(), pairCode(), started(pairModule()), 0,
			impl.Vm{Status: impl.StDone, Value: num(5), Made: 1, Steps: 4}, impl.Left{Kind: impl.LfReturn, Steps: 4}},
		{"a pair too many", pairModule(), pairCode(), full, 0,
			impl.Vm{Frames: frames(frame(0, 0, vals(impl.Value{}), nil)), Made: 120, Steps: 1}, impl.Left{Kind: impl.ExTrap, Steps: 1}},
		{"a pair too deep", pairModule(), pairCode(), deep(23), 0,
			impl.Vm{Frames: append(deep(22).Frames[:22], frame(0, 7, vals(num(1)), nil), frame(0, 6, vals(rec(0)), vals(rec(0)))), Heap: []impl.Rec{record(impl.Value{}, num(5))}, Made: 1, Steps: 2}, impl.Left{Kind: impl.ExTrap, Exit: 1, Steps: 2}},
		{"a pair, left within", pairModule(), pausedPair(), deep(22), 0,
			impl.Vm{Frames: append(deep(22).Frames[:22], frame(0, 7, vals(rec(0)), nil), frame(1, 1, vals(rec(0)), vals(rec(0)))), Heap: []impl.Rec{record(impl.Value{}, num(5))}, Made: 1, Steps: 3}, impl.Left{Kind: impl.ExPause, Exit: 2, Steps: 3}},
		{"a cell that pauses", cellModule(), cellCode(), started(cellModule(), num(9)), 12,
			impl.Vm{Frames: frames(frame(0, 2, vals(num(7), rec(0)), nil)), Heap: []impl.Rec{record(num(8))}, Made: 1, Steps: 21}, impl.Left{Kind: impl.ExPause, Exit: 1, Steps: 21}},
		{"a cell that is not there", cellModule(), cellCode(), started(cellModule(), truth(1)), 12,
			impl.Vm{Frames: frames(frame(0, 8, vals(truth(1), rec(0)), vals(truth(1), num(1)))), Heap: []impl.Rec{record(truth(1))}, Made: 1, Steps: 5}, impl.Left{Kind: impl.ExGuard, Exit: 2, Spec: spec(0, 8, 1, 0), Steps: 5}},
		{"a cell that goes past the end", cellModule(), cellCode(), started(cellModule(), num(-1000000000)), 12,
			impl.Vm{Frames: frames(frame(0, 8, vals(num(-1000000000), rec(0)), vals(num(-1000000000), num(1)))), Heap: []impl.Rec{record(num(-1000000000))}, Made: 1, Steps: 7}, impl.Left{Kind: impl.ExTrap, Exit: 3, Steps: 7}},
		{"a ring", ringModule(), ringCode(), started(ringModule()), 0,
			impl.Vm{Frames: frames(frame(0, 14, vals(rec(0), rec(1)), vals(rec(1)))), Heap: []impl.Rec{record(rec(1)), record(rec(0))}, Made: 2, Out: []string{"{1}"}, Steps: 8}, impl.Left{Kind: impl.ExCall, Exit: 3, Steps: 8}},
		{"a ring that is not made", lateRing().m, lateRing().c, started(lateRing().m), 0,
			impl.Vm{Frames: frames(frame(0, 12, vals(rec(0), rec(1)), vals(rec(1)))), Heap: []impl.Rec{record(rec(1)), record(rec(0))}, Made: 2, Steps: 3}, impl.Left{Kind: impl.ExCall, Exit: 2, Steps: 3}},
	} {
		got, told := checkMeaning(t, entering{x.m, x.c, x.vm, x.fuel})
		checkVm(t, x.name, got, x.want)
		if told != x.told {
			t.Errorf("%s: %+v, not %+v", x.name, told, x.told)
		}
	}
}
