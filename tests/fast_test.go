package tests

import (
	"math"
	"slices"
	"testing"

	"loop.example/g00094/impl"
)

// The registers for values are the frame's Locals, then its Stack, then nil, and bare ones 0.
func TestHowCodeIsEntered(t *testing.T) {
	m := mod("func 0 3; nil; nil; nil; drop; bool 0; if 2; drop; nil; nil; nil; nil; nil; nil; nil; return")
	// At 14 the stack is eight high: a frame there tells 11 sources.
	for _, x := range []struct {
		entry int
		stack []impl.Value
	}{{0, nil}, {2, vals(text("s"), fun(0))}} {
		for _, size := range []int{5, 6, 8} {
			locals := vals(num(7), truth(1), rec(1))
			exit := exFrame(0, 14, nil, nil)
			want := slices.Concat(locals, x.stack)
			for n := range size {
				exit.Locals = append(exit.Locals, valSrc(n))
			}
			for n := range 11 - size {
				exit.Locals = append(exit.Locals, numSrc(n))
			}
			exit.Locals, exit.Stack = exit.Locals[:3], exit.Locals[3:]
			for len(want) < size {
				want = append(want, impl.Value{})
			}
			for len(want) < 11 {
				want = append(want, num(0))
			}
			c := impl.Fast{Entry: x.entry, Vals: size, Nums: 6, Ops: []impl.FOp{{Op: impl.FExit}}, Exits: []impl.Exit{{Kind: impl.ExCall, Frames: exFrames(exit)}}}
			vm := impl.Vm{Frames: frames(frame(0, x.entry, locals, x.stack)), Heap: oldHeap(2), Made: 2}
			got, told := checkFast(t, entering{m, c, vm, 0})
			if told != (impl.Left{Kind: impl.ExCall, Steps: 1}) || !sameFrame(got.Frames[0], frame(0, 14, want[:3], want[3:])) {
				t.Errorf("at %d, with %d registers: %+v, %+v", x.entry, size, told, got)
			}
		}
	}
}

// As many registers as there can be are those of the frame, nil and 0, the last ones too.
func TestAllRegistersWhereCodeIsEntered(t *testing.T) {
	m := impl.Module{Funcs: []impl.Func{{Locals: impl.MaxLocals, Code: append(nils(impl.MaxStack), jump(16))}}}
	var given []impl.Value
	for n := range impl.MaxLocals + impl.MaxStack {
		given = append(given, num(1000+n))
	}
	for entry, high := range map[int]int{0: 0, 16: 16} {
		vm := impl.Vm{Frames: frames(frame(0, entry, given[:12], given[12:12+high]))}
		for first := 0; first < impl.MaxRegs; first += 28 {
			var valued, bare []impl.Src
			var want []impl.Value
			for n := range 28 {
				at := min(first+n, impl.MaxRegs-1)
				valued, bare = append(valued, valSrc(at)), append(bare, numSrc(at))
				want = append(want, append(given[:12+high:12+high], make([]impl.Value, 400)...)[at])
			}
			for i, list := range [][]impl.Src{valued, bare} {
				c := retCode(0, entry, 400, 400)
				c.Ops, c.Exits = []impl.FOp{{Op: impl.FExit}}, []impl.Exit{{Kind: impl.ExTrap, Frames: exFrames(exFrame(0, 16, list[:12], list[12:]))}}
				got, _ := checkFast(t, entering{m, c, vm, 0})
				if i == 1 {
					want = slices.Repeat(vals(num(0)), 28)
				}
				if len(got.Frames) != 1 || !sameFrame(got.Frames[0], frame(0, 16, want[:12], want[12:])) {
					t.Errorf("at %d, registers from %d on: %+v", entry, first, got)
				}
			}
		}
	}
}

// Frames below the last one stay as they are, whatever the exit tells.
func TestFramesBelow(t *testing.T) {
	for n := range impl.MaxFrames {
		for x, e := range fullExits() {
			list := below(n)
			for i := range list {
				list[i] = frame(list[i].Func, list[i].Pc, slices.Clone(list[i].Locals), slices.Clone(list[i].Stack))
				for k := range list[i].Locals {
					list[i].Locals[k] = num(100*i + k)
				}
			}
			own := frame(0, 1, vals(num(1), num(2), num(3)), vals(num(4)))
			vm := impl.Vm{Frames: append(slices.Clone(list), own), Made: 50}
			got, told := checkFast(t, entering{codeModule(), onFullExits(fop(impl.FExit, 0, 0, 0, x)), vm, 0})
			if n+len(e.Frames) > impl.MaxFrames {
				if told != (impl.Left{}) {
					t.Errorf("exit %d, %d frames below: %+v", x, n, told)
				}
				continue
			}
			if len(got.Frames) != n+len(e.Frames) || !slices.EqualFunc(got.Frames[:n], list, sameFrame) {
				t.Errorf("exit %d, %d frames below: %+v, %+v", x, n, told, got)
			}
			if told != (impl.Left{Kind: e.Kind, Exit: x, Spec: e.Spec, Steps: 1}) {
				t.Errorf("exit %d tells %+v", x, told)
			}
		}
	}
}

// roundCode goes round and round: an FSafe, some ops, and a jump back.
func roundCode(between int) impl.Fast {
	c := onFullExits(fop(impl.FSafe, 0, 0, 0, 3))
	for range between {
		c.Ops = append(c.Ops, fop(impl.FMove, 4, 0, 0, 0))
	}
	c.Ops = append(c.Ops, fop(impl.FJump, 0, 0, 0, 0))
	return c
}

// codeState is a state that stands where codeModule is entered by fullCode.
func codeState() impl.Vm {
	return impl.Vm{Frames: frames(frame(0, 1, vals(num(1), num(2), num(3)), vals(num(4))))}
}

// FSafe leaves at the first round that finds no more fuel; the rounds end there, however much a round costs.
func TestFuelOfCode(t *testing.T) {
	for between := range 5 {
		round := between + 2
		for fuel := range 40 {
			rounds := (fuel + round - 1) / round
			got, told := checkFast(t, entering{codeModule(), roundCode(between), codeState(), fuel})
			if told != (impl.Left{Kind: impl.ExPause, Exit: 3, Steps: rounds*round + 1}) || got.Steps != rounds*round+1 {
				t.Errorf("rounds of %d, fuel %d: %+v, %+v", round, fuel, told, got)
			}
		}
	}
	for fuel, want := range map[int]int{49999: 50001, 50000: 50001, 0: 1, 1: 3} {
		got, told := checkFast(t, entering{codeModule(), roundCode(0), codeState(), fuel})
		if told.Steps != want || got.Steps != min(want, 50000) {
			t.Errorf("fuel %d: %+v, %+v", fuel, told, got.Steps)
		}
	}
	// The longest round that there can be, at the greatest fuel.
	got, told := checkFast(t, entering{codeModule(), roundCode(impl.MaxOps - 2), codeState(), impl.MaxSteps})
	if told.Steps != 34*1500+1 || got.Steps != impl.MaxSteps {
		t.Errorf("%+v, %+v", told, got)
	}
}

func TestFuelThatIsNone(t *testing.T) {
	for _, c := range []impl.Fast{roundCode(0), onFullExits(fop(impl.FRet, 0, 0, 0, 0)), onFullExits(fop(impl.FExit, 0, 0, 0, 0))} {
		for fuel, want := range map[int]bool{-1: false, 0: true, 1: true, 49999: true, 50000: true, 50001: false, math.MinInt: false, math.MaxInt: false} {
			if _, told := checkFast(t, entering{codeModule(), c, codeState(), fuel}); (told != impl.Left{}) != want {
				t.Errorf("fuel %d: %+v", fuel, told)
			}
		}
	}
}

// FSafe asks for what was done ahead of it, wherever it stands.
func TestFuelWhereFSafeStands(t *testing.T) {
	for ahead := range 30 {
		ops := slices.Repeat([]impl.FOp{fop(impl.FMove, 4, 0, 0, 0)}, ahead)
		ops = append(ops, fop(impl.FSafe, 0, 0, 0, 3), fop(impl.FRet, 0, 1, 0, 0))
		for fuel := range 33 {
			_, told := checkFast(t, entering{codeModule(), onFullExits(ops...), codeState(), fuel})
			want := impl.Left{Kind: impl.LfReturn, Steps: ahead + 2}
			if ahead >= fuel {
				want = impl.Left{Kind: impl.ExPause, Exit: 3, Steps: ahead + 1}
			}
			if told != want {
				t.Errorf("%d ops ahead, fuel %d: %+v, not %+v", ahead, fuel, told, want)
			}
		}
	}
}

// Code without an FSafe runs to its end, whatever the fuel is, and however long it is.
func TestFuelWithoutFSafe(t *testing.T) {
	for _, n := range []int{1, 2, 100, 1500} {
		ops := append(slices.Repeat([]impl.FOp{fop(impl.FMove, 4, 0, 0, 0)}, n-1), fop(impl.FRet, 0, 3, 0, 0))
		for _, fuel := range []int{0, 1, n - 1, n, n + 1, 50000} {
			got, told := checkFast(t, entering{codeModule(), onFullExits(ops...), codeState(), fuel})
			if told != (impl.Left{Kind: impl.LfReturn, Steps: n}) || got.Steps != n || got.Value != num(4) {
				t.Errorf("%d ops, fuel %d: %+v, %+v", n, fuel, told, got)
			}
		}
	}
}

// Fuel is held against the steps that the code does, not against those that the state has.
func TestFuelAndTheStepsOfTheState(t *testing.T) {
	for _, steps := range []int{0, 1, 5, 49990, 49998, 49999, 50000} {
		for fuel := range 8 {
			vm := codeState()
			vm.Steps = steps
			got, told := checkFast(t, entering{codeModule(), roundCode(0), vm, fuel})
			want := (fuel+1)/2*2 + 1
			if told.Steps != want || got.Steps != min(steps+want, 50000) {
				t.Errorf("from %d, fuel %d: %+v, %d", steps, fuel, told, got.Steps)
			}
		}
	}
	late := codeState()
	late.Steps = impl.MaxSteps
	got, told := checkFast(t, entering{codeModule(), onFullExits(fop(impl.FRet, 0, 3, 0, 0)), late, 0})
	if got.Steps != impl.MaxSteps || got.Status != impl.StDone || told.Steps != 1 {
		t.Errorf("a state without a step left: %+v, %+v", told, got)
	}
}

// A loop that counts to a number goes round so many times: what was reckoned in it is not lost.
func TestLoopsThatGoRoundManyTimes(t *testing.T) {
	for _, n := range []int{0, 1, 2, 10, 1000, 9999} {
		c := onFullExits(
			fop(impl.FOpen, 0, 0, 0, 1), withV(fop(impl.FNum, 2, 0, 0, 0), num(1)),
			fop(impl.FSafe, 0, 0, 0, 0), fop(impl.FLessN, 8, 1, 0, 0), fop(impl.FIf, 0, 8, 6, 0), fop(impl.FExit, 0, 0, 0, 0),
			fop(impl.FAddN, 1, 1, 2, 0), fop(impl.FJump, 0, 2, 0, 0),
		)
		for _, fuel := range []int{n, impl.MaxSteps} {
			vm := codeState()
			vm.Frames[0].Locals[0] = num(n)
			got, told := checkFast(t, entering{codeModule(), c, vm, fuel})
			counted := got.Frames[0].Stack[1]
			steps := 2 + 5*n + 4
			if fuel == n && n > 2 {
				// Steps are 2, 7, 12 .. where fuel is asked.
				rounds := (n - 2 + 4) / 5
				if counted != num(rounds) || told.Steps != 2+5*rounds+1 {
					t.Errorf("to %d with fuel %d: %v, %+v", n, fuel, counted, told)
				}
				continue
			}
			if fuel > n && (counted != num(n) || told.Steps != steps) {
				t.Errorf("to %d with fuel %d: %v, %+v", n, fuel, counted, told)
			}
		}
	}
}

// Left tells the Kind, the number and the guess of the exit, of each kind of exit by each op that has one.
func TestWhatLeftTells(t *testing.T) {
	for x, e := range fullExits() {
		for _, op := range []impl.FOp{
			fop(impl.FOpen, 0, 8, 0, x), fop(impl.FAdd, 4, 8, 8, x), fop(impl.FNot, 4, 8, 0, x), fop(impl.FGet, 4, 8, 0, x), fop(impl.FPut, 0, 8, 8, x),
			fop(impl.FIsFun, 0, 8, 1, x), fop(impl.FIf, 0, 8, 2, x), fop(impl.FSafe, 0, 0, 0, x), fop(impl.FExit, 0, 0, 0, x),
		} {
			ops := []impl.FOp{fop(impl.FMove, 0, 1, 0, 0), op, fop(impl.FRet, 0, 0, 0, 0)}
			vm := codeState()
			vm.Made = 20
			got, told := checkFast(t, entering{codeModule(), onFullExits(ops...), vm, 1})
			if told != (impl.Left{Kind: e.Kind, Exit: x, Spec: e.Spec, Steps: 2}) || got.Steps != 2 || got.Status != impl.StRun {
				t.Errorf("%+v by exit %d: %+v, %+v", op, x, told, got)
			}
		}
	}
	if impl.LfReturn != 5 {
		t.Error(impl.LfReturn)
	}
	// Two exits that are the same but for their numbers are told apart.
	for x := range 2 {
		c := onFullExits(fop(impl.FExit, 0, 0, 0, x))
		c.Exits[1] = c.Exits[0]
		if _, told := checkFast(t, entering{codeModule(), c, codeState(), 0}); told.Exit != x {
			t.Errorf("exit %d is told as %+v", x, told)
		}
	}
}

// An answer is laid on the stack of the frame below; without one the run is done.
func TestAnswers(t *testing.T) {
	for _, v := range append(constants(), rec(0), rec(1)) {
		for n := range impl.MaxFrames {
			list := below(n)
			own := frame(0, 1, vals(v, num(2), num(3)), vals(num(4)))
			vm := impl.Vm{Frames: append(slices.Clone(list), own), Heap: oldHeap(2), Made: 5, Out: []string{"a"}, Steps: 7}
			got, told := checkFast(t, entering{codeModule(), onFullExits(fop(impl.FMove, 8, 0, 0, 0), fop(impl.FRet, 0, 8, 0, 0)), vm, 0})
			want := impl.Vm{Heap: oldHeap(2), Made: 5, Out: []string{"a"}, Steps: 9}
			if n == 0 {
				want.Status, want.Value = impl.StDone, v
			} else {
				last := list[n-1]
				want.Frames = append(list[:n-1:n-1], frame(last.Func, last.Pc, last.Locals, append(slices.Clone(last.Stack), v)))
			}
			if !sameVm(got, want) || told != (impl.Left{Kind: impl.LfReturn, Steps: 2}) {
				t.Errorf("%v, %d frames below: %+v, %+v", v, n, told, got)
			}
		}
	}
}
