package tests

import (
	"fmt"
	"math"
	"slices"
	"testing"

	"loop.example/g00094/impl"
)

// mustEnter holds code in a state against the law, and against what is written of it; what is not entered does not run.
func mustEnter(t *testing.T, name string, m impl.Module, c impl.Fast, vm impl.Vm, want bool) {
	t.Helper()
	if got := checkEnters(t, m, c, vm); got != want {
		t.Errorf("%s: enters %v, in %+v", name, got, vm)
	}
	_, told := checkFast(t, entering{m, c, vm, 100})
	if told != (impl.Left{}) && !want {
		t.Errorf("%s: runs in %+v", name, vm)
	}
}

func TestWhereCodeEnters(t *testing.T) {
	m := codeModule()
	c := onFullExits(fop(impl.FRet, 0, 0, 0, 0))
	for f, heights := range heightsOfCode {
		for pc, high := range heights {
			vm := stateOn(frame(f, pc, make([]impl.Value, m.Funcs[f].Locals), make([]impl.Value, max(high, 0))))
			mustEnter(t, fmt.Sprintf("at %d of function %d", pc, f), m, c, vm, f == 0 && pc == 1)
			mustEnter(t, fmt.Sprintf("the beginning, at %d of function %d", pc, f), m, retCode(0, 0, 9, 0), vm, f == 0 && pc == 0)
			mustEnter(t, fmt.Sprintf("function 1, at %d of function %d", pc, f), m, retCode(1, 0, 9, 0), vm, f == 1 && pc == 0)
			mustEnter(t, fmt.Sprintf("function 2, at %d of function %d", pc, f), m, retCode(2, 0, 9, 0), vm, f == 2 && pc == 0)
		}
	}
	// The last frame is asked, not one below.
	own := codeState().Frames[0]
	for n := range impl.MaxFrames + 1 {
		mustEnter(t, fmt.Sprint(n, " frames below"), m, c, stateOn(append(below(n), own)...), n < impl.MaxFrames)
	}
	other := nilFrames(impl.Exit{Frames: exFrames(lastOf(1))})[0]
	mustEnter(t, "another frame above", m, c, stateOn(own, other), false)
	mustEnter(t, "another frame, and no other", m, c, stateOn(other), false)
}

// A state is entered if it runs and is ok, whatever stands in it.
func TestStatesThatAreEntered(t *testing.T) {
	full := func() impl.Vm {
		vm := codeState()
		vm.Heap, vm.Made, vm.Out, vm.Steps = oldHeap(3), 7, []string{"a", ""}, 50000
		return vm
	}
	for _, v := range append(constants(), rec(0), rec(2)) {
		vm := full()
		vm.Frames[0].Locals, vm.Frames[0].Stack = vals(v, v, v), vals(v)
		mustEnter(t, fmt.Sprint("with ", v), codeModule(), fullCode(), vm, true)
	}
	for _, x := range []change{
		{"trapped", func(vm *impl.Vm) { *vm = trappedIn(*vm) }},
		{"done", func(vm *impl.Vm) { *vm = doneWith(*vm, num(1)) }},
		{"done, with frames", func(vm *impl.Vm) { vm.Status = impl.StDone }},
		{"a Status that is none", func(vm *impl.Vm) { vm.Status = 3 }},
		{"a trap, and it runs", func(vm *impl.Vm) { vm.Trap = 1 }},
		{"a value, and it runs", func(vm *impl.Vm) { vm.Value = num(1) }},
		{"no frame", func(vm *impl.Vm) { vm.Frames = nil }},
		{"a stack that is too high", func(vm *impl.Vm) { vm.Frames[0].Stack = append(vm.Frames[0].Stack, num(1)) }},
		{"a stack that is not high enough", func(vm *impl.Vm) { vm.Frames[0].Stack = nil }},
		{"a local more", func(vm *impl.Vm) { vm.Frames[0].Locals = append(vm.Frames[0].Locals, num(1)) }},
		{"a local fewer", func(vm *impl.Vm) { vm.Frames[0].Locals = vm.Frames[0].Locals[1:] }},
		{"a record that is none", func(vm *impl.Vm) { vm.Frames[0].Locals[0] = rec(3) }},
		{"a function that is none", func(vm *impl.Vm) { vm.Frames[0].Stack[0] = fun(3) }},
		{"a number that is too great", func(vm *impl.Vm) { vm.Frames[0].Stack[0] = num(1000000001) }},
		{"a wrong value below", func(vm *impl.Vm) {
			vm.Frames = append(below(1), vm.Frames...)
			vm.Frames[0].Locals[0] = rec(9)
		}},
		{"a wrong field", func(vm *impl.Vm) { vm.Heap[0].Fields[0] = rec(3) }},
		{"fewer made than there are", func(vm *impl.Vm) { vm.Made = 2 }},
		{"more than MaxMade made", func(vm *impl.Vm) { vm.Made = 121 }},
		{"more than MaxOut texts", func(vm *impl.Vm) { vm.Out = make([]string, 201) }},
		{"a text that is none", func(vm *impl.Vm) { vm.Out[0] = "\n" }},
		{"more than MaxSteps", func(vm *impl.Vm) { vm.Steps = 50001 }},
		{"less than no step", func(vm *impl.Vm) { vm.Steps = -1 }},
		{"nothing at all", func(vm *impl.Vm) { *vm = impl.Vm{} }},
	} {
		vm := full()
		x.do(&vm)
		mustEnter(t, x.name, codeModule(), fullCode(), vm, false)
	}
}

func TestCodeThatIsNotEntered(t *testing.T) {
	vm := codeState()
	for _, x := range notOkCodes() {
		c := fullCode()
		x.do(&c)
		mustEnter(t, x.name, codeModule(), c, vm, false)
	}
	for _, at := range []int{-1, 13, math.MinInt, math.MaxInt} {
		c := fullCode()
		c.Entry = at
		wrong := codeState()
		wrong.Frames[0].Pc = at
		mustEnter(t, "an entry that is none", codeModule(), c, wrong, false)
		c = fullCode()
		c.Func = at
		wrong = codeState()
		wrong.Frames[0].Func = at
		mustEnter(t, "a function that is none", codeModule(), c, wrong, false)
	}
	for name, m := range notGood() {
		mustEnter(t, name, m, retCode(0, 0, 20, 0), stateOn(frame(0, 0, nil, nil)), false)
	}
	mustEnter(t, "another module", several(), fullCode(), vm, false)
	mustEnter(t, "the zero code", codeModule(), impl.Fast{}, vm, false)
	mustEnter(t, "the zero code in the zero state", impl.Module{}, impl.Fast{}, impl.Vm{}, false)
}

// chainLeaving is code that does these ops, and then leaves by an exit that builds so many records.
func chainLeaving(built int, ops ...impl.FOp) impl.Fast {
	c := onFullExits(append(ops, fop(impl.FExit, 0, 0, 0, 0))...)
	c.Exits[0] = chainExit(60, built)
	return c
}

// recordState is codeState with so many records, and a count.
func recordState(n int, made int) impl.Vm {
	vm := codeState()
	vm.Heap, vm.Made = oldHeap(n), made
	return vm
}

// What an exit builds was counted ahead of it, or nothing comes of the run.
func TestRecordsThatExitsBuild(t *testing.T) {
	for _, x := range []struct {
		name  string
		heap  int
		made  int
		built int
		want  bool
	}{
		{"none", 3, 3, 0, true},
		{"one that was counted", 3, 4, 1, true},
		{"one that was not", 3, 3, 1, false},
		{"several that were counted", 3, 10, 7, true},
		{"one more than was counted", 3, 10, 8, false},
		{"fewer than were counted", 3, 10, 2, true},
		{"up to MaxMade", 60, 120, 60, true},
		{"one past MaxMade", 61, 120, 60, false},
		{"to an empty heap", 0, 60, 60, true},
		{"to an empty heap, one not counted", 0, 59, 60, false},
		{"none at MaxMade", 120, 120, 0, true},
		{"one past a full heap", 120, 120, 1, false},
	} {
		got, told := checkFast(t, entering{codeModule(), chainLeaving(x.built), recordState(x.heap, x.made), 0})
		if (told != impl.Left{}) != x.want {
			t.Errorf("%s: %+v", x.name, told)
		}
		if x.want && (len(got.Heap) != x.heap+x.built || got.Made != x.made) {
			t.Errorf("%s: %d records, %d made", x.name, len(got.Heap), got.Made)
		}
	}
	// With frames below there is nothing either.
	vm := recordState(120, 120)
	vm.Frames = append(below(3), vm.Frames...)
	if _, told := checkFast(t, entering{codeModule(), chainLeaving(1), vm, 0}); told != (impl.Left{}) {
		t.Errorf("one past a full heap, frames below: %+v", told)
	}
}

// FMade counts for what an exit builds, and FNew for its own record alone.
func TestRecordsThatAreCountedAheadOfAnExit(t *testing.T) {
	count, anew, create := fop(impl.FMade, 0, 0, 0, 3), fop(impl.FNew, 4, 2, 0, 3), fop(impl.FMake, 5, 1, 0, 0)
	for _, x := range []struct {
		name  string
		ops   []impl.FOp
		built int
		made  int
	}{
		{"one counted, one built", []impl.FOp{count}, 1, 3},
		{"one counted, two built", []impl.FOp{count}, 2, 0},
		{"two counted, two built", []impl.FOp{count, count}, 2, 4},
		{"a new one, none built", []impl.FOp{anew}, 0, 3},
		{"a new one, one built", []impl.FOp{anew}, 1, 0},
		{"a new one and one counted, one built", []impl.FOp{anew, count}, 1, 4},
		{"one counted and a new one, one built", []impl.FOp{count, anew}, 1, 4},
		{"one counted and made", []impl.FOp{count, create}, 0, 3},
		{"one counted and made, one built", []impl.FOp{count, create}, 1, 0},
		{"two counted, one made, one built", []impl.FOp{count, count, create}, 1, 4},
		{"two counted, one made, two built", []impl.FOp{count, count, create}, 2, 0},
		{"one counted and not made", []impl.FOp{count}, 0, 3},
	} {
		got, told := checkFast(t, entering{codeModule(), chainLeaving(x.built, x.ops...), recordState(2, 2), 0})
		if (told != impl.Left{}) != (x.made > 0) || got.Made != x.made {
			t.Errorf("%s: %+v, %d made", x.name, told, got.Made)
		}
	}
}

// What an exit builds stands behind what the code made, in whatever order it was counted, and each may name the other.
func TestWhereRecordsComeToStand(t *testing.T) {
	c := leavingBy(wordExit("r1 v4 v5 | v3 r0", "* v5 7 * v4 r0 v3"), nil).c
	c.Ops = []impl.FOp{
		fop(impl.FMade, 0, 0, 0, 0), fop(impl.FMade, 0, 0, 0, 0), fop(impl.FMade, 0, 0, 0, 0), fop(impl.FMake, 4, 2, 0, 0), fop(impl.FNew, 5, 1, 0, 0),
		fop(impl.FPut, 0, 5, 4, 0), fop(impl.FPut, 1, 4, 3, 0), fop(impl.FPut, 0, 4, 4, 0), fop(impl.FExit, 0, 0, 0, 0),
	}
	vm := recordState(2, 2)
	vm.Frames[0].Stack[0] = rec(1)
	got, told := checkFast(t, entering{codeModule(), c, vm, 0})
	want := impl.Vm{
		Frames: frames(frame(0, 9, vals(rec(4), rec(2), rec(3)), vals(rec(1), rec(5)))),
		Heap:   append(oldHeap(2), record(rec(2), rec(1)), record(rec(2)), record(rec(2), rec(5), rec(1)), record(rec(3), num(7))),
		Made:   6, Steps: 9,
	}
	if !sameVm(got, want) || told != (impl.Left{Kind: impl.ExPause, Steps: 9}) {
		t.Errorf("%+v, %+v, not %+v", told, got, want)
	}
}

// A put into a record of the state is seen behind the exit, and the state that was handed in is as it was.
func TestPutsIntoRecordsOfTheState(t *testing.T) {
	c := onFullExits(withV(fop(impl.FConst, 4, 0, 0, 0), text("new")), fop(impl.FPut, 1, 3, 4, 0), fop(impl.FPut, 2, 3, 3, 0), fop(impl.FGet, 5, 3, 1, 0), fop(impl.FRet, 0, 5, 0, 0))
	vm := recordState(3, 3)
	vm.Frames[0].Stack[0] = rec(1)
	got, _ := checkFast(t, entering{codeModule(), c, vm, 0})
	heap := oldHeap(3)
	heap[1] = record(num(101), text("new"), rec(1))
	if !sameVm(got, impl.Vm{Heap: heap, Made: 3, Status: impl.StDone, Value: text("new"), Steps: 5}) {
		t.Errorf("%+v", got)
	}
	if !slices.EqualFunc(vm.Heap, oldHeap(3), sameRec) {
		t.Errorf("the state was written into: %+v", vm.Heap)
	}
}

// An answer fills the stack of the frame below up to MaxStack, and no further: no frame that waits has more room.
func TestAnswersOnAFullStack(t *testing.T) {
	code := append(nils(impl.MaxStack-1), invoke(1), ins(impl.OpDrop, 0))
	code = append(code, jump(len(code)))
	m := impl.Module{Funcs: []impl.Func{{Code: code}, {Code: []impl.Ins{nilIns, returnIns}}}}
	waits := frame(0, impl.MaxStack, nil, make([]impl.Value, impl.MaxStack-1))
	c := impl.Fast{Func: 1, Vals: 1, Ops: []impl.FOp{withV(impl.FOp{Op: impl.FConst}, num(3)), {Op: impl.FRet}}}
	got, told := checkFast(t, entering{m, c, stateOn(waits, frame(1, 0, nil, nil)), 0})
	if told.Kind != impl.LfReturn || len(got.Frames) != 1 || len(got.Frames[0].Stack) != impl.MaxStack || got.Frames[0].Stack[15] != num(3) {
		t.Errorf("%+v, %+v", told, got)
	}
	over := stateOn(frame(0, impl.MaxStack, nil, make([]impl.Value, impl.MaxStack)), frame(1, 0, nil, nil))
	mustEnter(t, "a frame below without room", m, c, over, false)
	// An exit that tells a stack that is too high is none that code can have.
	tall := impl.Exit{Kind: impl.ExTrap, Frames: exFrames(exFrame(1, 1, nil, nilSrcs(2)))}
	mustEnter(t, "an exit with a stack too high", m, impl.Fast{Func: 1, Ops: []impl.FOp{{Op: impl.FExit}}, Exits: []impl.Exit{tall}}, stateOn(frame(1, 0, nil, nil)), false)
}

// Exits tell frames up to MaxFrames, and one frame past that nothing comes, though the same exit of fewer frames does.
func TestFramesUpToMaxFrames(t *testing.T) {
	m := codeModule()
	own := codeState().Frames[0]
	for up := 1; up <= impl.MaxUp; up++ {
		words := []string{"_ _ _ | _ _", "_ _ _ | _ / _ _ | _ _", "_ _ _ | _ / _ _ | _ / _ | _ _", "_ _ _ | _ / _ _ | _ / _ | / _ | _ _"}[up-1]
		c := leavingBy(wordExit(words, ""), nil).c
		for _, n := range []int{0, 1, impl.MaxFrames - up, impl.MaxFrames - up + 1, impl.MaxFrames - 1} {
			vm := stateOn(append(below(n), own)...)
			if !vmOkByLaw(m, vm) {
				continue
			}
			got, told := checkFast(t, entering{m, c, vm, 0})
			if fits := n+up <= impl.MaxFrames; (told != impl.Left{}) != fits || fits && len(got.Frames) != n+up {
				t.Errorf("%d frames on %d: %+v, %d", up, n, told, len(got.Frames))
			}
		}
	}
}
