package tests

import (
	"fmt"
	"math"
	"slices"
	"testing"

	"loop.example/g00094/impl"
)

// stateOn is a state that runs with these frames, without records.
func stateOn(list ...impl.Frame) impl.Vm { return impl.Vm{Frames: slices.Clone(list)} }

// below are n frames of codeModule that wait, in turn those of function 0, 1 and 2.
func below(n int) []impl.Frame {
	var out []impl.Frame
	waiting := nilFrames(impl.Exit{Frames: waitingFrames()})
	for i := range n {
		out = append(out, waiting[i%len(waiting)])
	}
	return out
}

// mustHold holds an exit of fullCode in a state against the law, and against what is written of it.
func mustHold(t *testing.T, name string, x int, vm impl.Vm, want bool) {
	t.Helper()
	if got := checkHolds(t, codeModule(), fullCode(), x, vm); got != want {
		t.Errorf("%s: exit %d: %v in %+v", name, x, got, vm)
	}
}

func TestExitsThatHold(t *testing.T) {
	for x, e := range fullExits() {
		own := nilFrames(e)
		for n := 0; n <= impl.MaxFrames-len(own)+2; n++ {
			vm := stateOn(append(below(n), own...)...)
			mustHold(t, fmt.Sprint(n, " frames below"), x, vm, n+len(own) <= impl.MaxFrames)
		}
		for other := range fullExits() {
			mustHold(t, fmt.Sprint("the frames of exit ", other), x, stateOn(nilFrames(fullExits()[other])...), other == x)
			mustHold(t, fmt.Sprint("the frames of exit ", other, ", and some below"), x, stateOn(append(below(5), nilFrames(fullExits()[other])...)...), other == x)
		}
	}
}

// The last frames are asked, not such as stand further down.
func TestFramesAboveThoseOfAnExit(t *testing.T) {
	e := impl.Exit{Kind: impl.ExPause, Frames: exFrames(exFrame(0, 8, nilSrcs(3), nilSrcs(2)))}
	c := leavingBy(e, nil).c
	waits, own, other := below(1)[0], nilFrames(e)[0], nilFrames(impl.Exit{Frames: exFrames(lastOf(1))})[0]
	for _, x := range []struct {
		list []impl.Frame
		want bool
	}{
		{frames(own), true}, {frames(waits, own), true}, {frames(waits, waits, own), true}, {frames(other), false},
		{frames(waits, other), false}, {frames(waits, waits, other), false}, {frames(waits), false}, {frames(own, other), false},
	} {
		if got := checkHolds(t, codeModule(), c, 0, stateOn(x.list...)); got != x.want {
			t.Errorf("%v in %+v", got, x.list)
		}
	}
}

// What stands in the frames and in the heap does not matter, nor what was printed, nor how many steps were done.
func TestExitsHoldWhateverTheValues(t *testing.T) {
	for x, e := range fullExits() {
		for _, v := range append(constants(), rec(0), rec(2)) {
			vm := impl.Vm{Frames: append(below(2), nilFrames(e)...), Heap: oldHeap(3), Made: 7, Out: []string{"a"}, Steps: impl.MaxSteps}
			for _, list := range valueLists(impl.Vm{Frames: vm.Frames}) {
				for i := range list {
					list[i] = v
				}
			}
			mustHold(t, fmt.Sprint("with ", v), x, vm, true)
		}
	}
	for kind := impl.ExTrap; kind <= impl.ExPause; kind++ {
		c := fullCode()
		c.Exits[3].Kind = kind
		if kind == impl.ExGuard {
			c.Exits[3].Spec = guards()[0]
		}
		if !checkHolds(t, codeModule(), c, 3, stateOn(nilFrames(c.Exits[3])...)) {
			t.Errorf("Kind %d", kind)
		}
	}
}

// One Func or one Pc is another, in each frame; the state is ok so.
func TestExitsWithAnotherFrame(t *testing.T) {
	own := func() []impl.Frame { return nilFrames(fullExits()[2]) }
	two, three := make([]impl.Value, 2), make([]impl.Value, 3)
	others := map[string]func(list []impl.Frame){
		"another Pc of the first":           func(list []impl.Frame) { list[0].Pc = 9 },
		"another function as the first":     func(list []impl.Frame) { list[0] = frame(1, 3, two, three[:1]) },
		"another Func of the second":        func(list []impl.Frame) { list[1] = frame(2, 3, two[:1], nil) },
		"another function as the second":    func(list []impl.Frame) { list[1] = frame(0, 9, three, two[:1]) },
		"another Func of the third":         func(list []impl.Frame) { list[2] = frame(1, 3, two, three[:1]) },
		"another Pc of the last":            func(list []impl.Frame) { list[3] = frame(2, 1, two[:1], three[:1]) },
		"another Pc of the last, behind":    func(list []impl.Frame) { list[3] = frame(2, 3, two[:1], three[:1]) },
		"another Func of the last":          func(list []impl.Frame) { list[3] = frame(1, 2, two, two) },
		"another Func of the last, below":   func(list []impl.Frame) { list[3] = frame(0, 2, three, two) },
		"the second and the third in turn":  func(list []impl.Frame) { list[1], list[2] = list[2], list[1] },
		"the first and the second in turn":  func(list []impl.Frame) { list[0], list[1] = list[1], list[0] },
		"the second twice":                  func(list []impl.Frame) { list[2] = list[1] },
		"all of them but the last replaced": func(list []impl.Frame) { copy(list, frames(list[1], list[0], list[0])) },
	}
	for name, do := range others {
		for n := range 4 {
			list := own()
			do(list)
			vm := stateOn(append(below(n), list...)...)
			if !impl.VmOk(codeModule(), vm) {
				t.Fatalf("%s: no state: %+v", name, vm)
			}
			mustHold(t, name, 2, vm, false)
		}
	}
	// Frames below the exit's may be any.
	for _, f := range below(4) {
		mustHold(t, "another frame below", 2, stateOn(append(frames(f), own()...)...), true)
	}
	// Of exits of one frame, that one.
	for x, e := range fullExits() {
		for _, last := range lastFrames() {
			if len(e.Frames) == 1 {
				f := e.Frames[0]
				vm := stateOn(nilFrames(impl.Exit{Frames: exFrames(last)})...)
				mustHold(t, "one frame", x, vm, f.Func == last.Func && f.Pc == last.Pc)
				vm.Frames = append(below(1), vm.Frames...)
				mustHold(t, "one frame, and one below", x, vm, f.Func == last.Func && f.Pc == last.Pc)
			}
		}
	}
}

func TestStatesWithTooFewFrames(t *testing.T) {
	own := nilFrames(fullExits()[2])
	for n := 0; n < 4; n++ {
		mustHold(t, fmt.Sprint("the last ", n), 2, stateOn(own[4-n:]...), false)
		mustHold(t, fmt.Sprint("the first ", n), 2, stateOn(own[:n]...), false)
	}
	mustHold(t, "all four", 2, stateOn(own...), true)
	for x := range fullExits() {
		mustHold(t, "no frame", x, stateOn(), false)
		mustHold(t, "the zero state", x, impl.Vm{}, false)
	}
}

// Each exit of up to three frames in each state of up to three.
func TestEachExitInEachState(t *testing.T) {
	m := codeModule()
	var stacks [][]impl.ExFrame
	for _, last := range lastFrames() {
		stacks = append(stacks, exFrames(last))
		for _, x := range waitingFrames() {
			stacks = append(stacks, exFrames(x, last))
		}
	}
	for _, last := range []impl.ExFrame{lastOf(0), lastOf(1), exFrame(2, 3, nilSrcs(1), nilSrcs(1))} {
		for _, x := range waitingFrames() {
			for _, y := range waitingFrames() {
				stacks = append(stacks, exFrames(x, y, last))
			}
		}
	}
	same := func(a impl.ExFrame, b impl.ExFrame) bool { return a.Func == b.Func && a.Pc == b.Pc }
	for _, told := range stacks {
		c := impl.Fast{Func: told[0].Func, Vals: 3, Ops: []impl.FOp{{Op: impl.FExit}}, Exits: []impl.Exit{{Kind: impl.ExCall, Frames: told}}}
		for _, stands := range stacks {
			n := len(stands) - len(told)
			want := n >= 0 && slices.EqualFunc(told, stands[max(n, 0):], same)
			if got := impl.ExitHolds(m, c, 0, stateOn(nilFrames(impl.Exit{Frames: stands})...)); got != want {
				t.Fatalf("%v in %v: %v", told, stands, got)
			}
		}
	}
}

func TestStatesThatDoNotRun(t *testing.T) {
	for x, e := range fullExits() {
		runs := impl.Vm{Frames: append(below(2), nilFrames(e)...), Heap: oldHeap(3), Made: 3}
		mustHold(t, "one that runs", x, runs, true)
		mustHold(t, "one that trapped", x, trappedIn(runs), false)
		mustHold(t, "one that is done", x, doneWith(runs, num(1)), false)
		if !impl.VmOk(codeModule(), trappedIn(runs)) || !impl.VmOk(codeModule(), doneWith(runs, num(1))) {
			t.Fatal("these are states")
		}
		for name, do := range map[string]func(vm *impl.Vm){
			"fewer made than there are": func(vm *impl.Vm) { vm.Made = 2 },
			"too many made":             func(vm *impl.Vm) { vm.Made = 121 },
			"too many fields":           func(vm *impl.Vm) { vm.Heap[1].Fields = make([]impl.Value, 7) },
			"a field that is not ok":    func(vm *impl.Vm) { vm.Heap[2].Fields[0] = rec(3) },
			"a value that is not ok":    func(vm *impl.Vm) { vm.Frames[2].Locals[0] = rec(3) },
			"a value below":             func(vm *impl.Vm) { vm.Frames[0].Locals[0] = num(1000000001) },
			"a local more":              func(vm *impl.Vm) { vm.Frames[2].Locals = append(vm.Frames[2].Locals, num(1)) },
			"a value more":              func(vm *impl.Vm) { vm.Frames[2].Stack = append(vm.Frames[2].Stack, num(1)) },
			"a value more below":        func(vm *impl.Vm) { vm.Frames[0].Stack = append(vm.Frames[0].Stack, num(1)) },
			"too many steps":            func(vm *impl.Vm) { vm.Steps = 50001 },
			"a text that is not ok":     func(vm *impl.Vm) { vm.Out = []string{"\n"} },
			"a Value":                   func(vm *impl.Vm) { vm.Value = num(1) },
			"a trap":                    func(vm *impl.Vm) { vm.Trap = 1 },
			"a Status that is none":     func(vm *impl.Vm) { vm.Status = 3 },
			"a trap that is none":       func(vm *impl.Vm) { vm.Status, vm.Trap = impl.StTrap, 9 },
			"done with frames":          func(vm *impl.Vm) { vm.Status = impl.StDone },
		} {
			vm := cloneVm(runs)
			do(&vm)
			mustHold(t, name, x, vm, false)
		}
	}
}

func TestNothingHoldsWithoutAnExit(t *testing.T) {
	states := []impl.Vm{{}, stateOn(below(1)...), doneState()}
	for _, e := range fullExits() {
		states = append(states, stateOn(nilFrames(e)...))
	}
	for _, vm := range states {
		for _, x := range []int{-1, 4, 5, 1500, math.MinInt, math.MaxInt} {
			mustHold(t, "no exit", x, vm, false)
		}
		for _, x := range notOkCodes() {
			c := fullCode()
			x.do(&c)
			for at := range fullExits() {
				if checkHolds(t, codeModule(), c, at, vm) {
					t.Errorf("%s: exit %d holds in %+v", x.name, at, vm)
				}
			}
		}
		for name, m := range notGood() {
			for at := range fullExits() {
				if checkHolds(t, m, fullCode(), at, vm) {
					t.Errorf("%s: exit %d holds in %+v", name, at, vm)
				}
			}
		}
		if checkHolds(t, several(), fullCode(), 0, vm) {
			t.Error("holds in another module")
		}
	}
}
