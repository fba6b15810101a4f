package tests

import (
	"math"
	"slices"
	"strconv"
	"strings"
	"testing"

	"loop.example/g00094/impl"
)

func TestNumbersOfTheMachine(t *testing.T) {
	numbers := []int{
		impl.MaxFrames, impl.MaxMade, impl.MaxOut, impl.MaxSteps, impl.StRun, impl.StDone, impl.StTrap,
		impl.TrField, impl.TrArgs, impl.TrDeep, impl.TrMade, impl.TrOut,
	}
	if !slices.Equal(numbers, []int{24, 120, 200, 50000, 0, 1, 2, 4, 5, 6, 7, 8}) {
		t.Error(numbers)
	}
}

// ran is a module, how many steps are done, and the state then.
type ran struct {
	code  string
	args  []impl.Value
	steps int
	want  impl.Vm
}

// checkRan does the last step by Step as well, and holds all states on the way against the law.
func checkRan(t *testing.T, list []ran) {
	t.Helper()
	for _, x := range list {
		m := mod(x.code)
		checkVm(t, x.code, impl.Run(m, x.args, x.steps), x.want)
		if x.steps > 0 {
			checkVm(t, x.code+", the last step", impl.Step(m, impl.Run(m, x.args, x.steps-1)), x.want)
		}
		for steps := range x.steps + 2 {
			vm := impl.Run(m, x.args, steps)
			checkVm(t, x.code+", "+strconv.Itoa(steps)+" steps", vm, runByLaw(m, x.args, steps))
			checkState(t, m, vm)
		}
	}
}

// at is a state with one frame, of function 0, at pc.
func at(pc int, locals []impl.Value, stack []impl.Value, steps int) impl.Vm {
	return impl.Vm{Frames: frames(frame(0, pc, locals, stack)), Steps: steps}
}

func TestOpsThatLay(t *testing.T) {
	checkRan(t, []ran{
		{"func 0 0; int 7; return", nil, 0, at(0, nil, nil, 0)},
		{"func 0 0; int 7; return", nil, 1, at(1, nil, vals(num(7)), 1)},
		{"func 0 0; int -1000000000; return", nil, 1, at(1, nil, vals(num(-1000000000)), 1)},
		{"func 0 0; int 1000000000; int 0; return", nil, 2, at(2, nil, vals(num(1000000000), num(0)), 2)},
		{"func 0 0; bool 1; return", nil, 1, at(1, nil, vals(truth(1)), 1)},
		{"func 0 0; bool 0; return", nil, 1, at(1, nil, vals(truth(0)), 1)},
		{`text ""; text "ab c"; func 0 0; text 0; text 1; return`, nil, 2, at(2, nil, vals(text(""), text("ab c")), 2)},
		{"func 0 0; nil; return", nil, 1, at(1, nil, vals(impl.Value{}), 1)},
		{"func 0 0; fun 0; fun 1; return; func 3 4; nil; return", nil, 2, at(2, nil, vals(fun(0), fun(1)), 2)},
	})
}

func TestOpsThatMoveValues(t *testing.T) {
	args := vals(num(4), text("a"))
	locals := vals(num(4), text("a"), impl.Value{})
	checkRan(t, []ran{
		{"func 2 3; load 0; load 1; load 2; return", args, 3, at(3, locals, locals, 3)},
		{"func 2 3; int 9; store 0; nil; return", args, 2, at(2, vals(num(9), text("a"), impl.Value{}), nil, 2)},
		{"func 2 3; int 8; int 9; store 2; return", args, 3, at(3, vals(num(4), text("a"), num(9)), vals(num(8)), 3)},
		{"func 2 3; load 0; dup; return", args, 2, at(2, locals, vals(num(4), num(4)), 2)},
		{"func 2 3; load 0; load 1; dup; return", args, 3, at(3, locals, vals(num(4), text("a"), text("a")), 3)},
		{"func 2 3; load 0; load 1; drop; return", args, 3, at(3, locals, vals(num(4)), 3)},
		{"func 2 3; load 0; drop; nil; return", args, 2, at(2, locals, nil, 2)},
		{"func 2 3; load 0; load 1; swap; return", args, 3, at(3, locals, vals(text("a"), num(4)), 3)},
		{"func 2 3; nil; load 0; load 1; swap; return", args, 4, at(4, locals, vals(impl.Value{}, text("a"), num(4)), 4)},
	})
}

func TestOpsThatWork(t *testing.T) {
	two := func(v impl.Value) impl.Vm { return at(3, nil, vals(v), 3) }
	checkRan(t, []ran{
		{"func 0 0; int 2; int 5; add; return", nil, 3, two(num(7))},
		{"func 0 0; int 2; int 5; sub; return", nil, 3, two(num(-3))},
		{"func 0 0; int 2; int -5; mul; return", nil, 3, two(num(-10))},
		{"func 0 0; int 2; int 5; less; return", nil, 3, two(truth(1))},
		{"func 0 0; int 5; int 2; less; return", nil, 3, two(truth(0))},
		{"func 0 0; int 2; int 5; same; return", nil, 3, two(truth(0))},
		{"func 0 0; int 2; int 2; same; return", nil, 3, two(truth(1))},
		{"func 0 0; nil; bool 0; same; return", nil, 3, two(truth(0))},
		{"func 0 0; fun 0; fun 0; same; return", nil, 3, two(truth(1))},
		{`text "ab"; text "c"; func 0 0; text 0; text 1; add; return`, nil, 3, two(text("abc"))},
		{`text "ab"; text "c"; func 0 0; text 1; text 0; less; return`, nil, 3, two(truth(0))},
		{"func 0 0; bool 1; not; return", nil, 2, at(2, nil, vals(truth(0)), 2)},
		{"func 0 0; bool 0; not; return", nil, 2, at(2, nil, vals(truth(1)), 2)},
		{"func 0 0; nil; int 2; int 5; add; return", nil, 4, at(4, nil, vals(impl.Value{}, num(7)), 4)},
		{"func 0 0; nil; bool 0; not; return", nil, 3, at(3, nil, vals(impl.Value{}, truth(1)), 3)},
	})
}

func TestOpsThatGoElsewhere(t *testing.T) {
	checkRan(t, []ran{
		{"func 0 0; jump 2; jump 1; nil; return", nil, 1, at(2, nil, nil, 1)},
		{"func 0 0; nil; drop; jump 0", nil, 3, at(0, nil, nil, 3)},
		{"func 0 0; nil; jump 1", nil, 2, at(1, nil, vals(impl.Value{}), 2)},
		{"func 0 0; bool 1; if 3; jump 2; nil; return", nil, 2, at(3, nil, nil, 2)},
		{"func 0 0; bool 0; if 3; jump 2; nil; return", nil, 2, at(2, nil, nil, 2)},
		{"func 0 0; bool 1; ifnot 3; jump 2; nil; return", nil, 2, at(2, nil, nil, 2)},
		{"func 0 0; bool 0; ifnot 3; jump 2; nil; return", nil, 2, at(3, nil, nil, 2)},
		{"func 0 0; nil; bool 0; ifnot 4; jump 3; return", nil, 3, at(4, nil, vals(impl.Value{}), 3)},
		{"func 0 0; bool 1; if 0; nil; return", nil, 2, at(0, nil, nil, 2)},
	})
}

func TestOpsOfRecords(t *testing.T) {
	checkRan(t, []ran{
		{"func 0 0; new 2; return", nil, 1, impl.Vm{
			Frames: frames(frame(0, 1, nil, vals(rec(0)))), Heap: []impl.Rec{record(impl.Value{}, impl.Value{})}, Made: 1, Steps: 1}},
		{"func 0 0; new 0; new 1; return", nil, 2, impl.Vm{
			Frames: frames(frame(0, 2, nil, vals(rec(0), rec(1)))), Heap: []impl.Rec{record(), record(impl.Value{})}, Made: 2, Steps: 2}},
		{"func 0 0; new 2; dup; int 5; put 1; return", nil, 4, impl.Vm{
			Frames: frames(frame(0, 4, nil, vals(rec(0)))), Heap: []impl.Rec{record(impl.Value{}, num(5))}, Made: 1, Steps: 4}},
		{"func 0 0; new 2; dup; dup; put 0; return", nil, 4, impl.Vm{
			Frames: frames(frame(0, 4, nil, vals(rec(0)))), Heap: []impl.Rec{record(rec(0), impl.Value{})}, Made: 1, Steps: 4}},
		{"func 0 0; new 2; dup; int 5; put 1; get 1; return", nil, 5, impl.Vm{
			Frames: frames(frame(0, 5, nil, vals(num(5)))), Heap: []impl.Rec{record(impl.Value{}, num(5))}, Made: 1, Steps: 5}},
		{"func 0 0; new 2; dup; int 5; put 1; get 0; return", nil, 5, impl.Vm{
			Frames: frames(frame(0, 5, nil, vals(impl.Value{}))), Heap: []impl.Rec{record(impl.Value{}, num(5))}, Made: 1, Steps: 5}},
		{"func 0 0; new 1; new 1; int 5; put 0; return", nil, 4, impl.Vm{
			Frames: frames(frame(0, 4, nil, vals(rec(0)))), Heap: []impl.Rec{record(impl.Value{}), record(num(5))}, Made: 2, Steps: 4}},
		{"func 0 0; new 6; dup; int 5; put 5; get 5; return", nil, 6, impl.Vm{
			Heap: []impl.Rec{record(impl.Value{}, impl.Value{}, impl.Value{}, impl.Value{}, impl.Value{}, num(5))}, Made: 1, Status: 1, Value: num(5), Steps: 6}},
		{"func 0 0; new 0; return", nil, 2, impl.Vm{Heap: []impl.Rec{record()}, Made: 1, Status: 1, Value: rec(0), Steps: 2}},
	})
}

func TestOpsOfCalls(t *testing.T) {
	takesTwo := "; func 2 4; load 1; load 0; sub; return"
	locals := vals(num(3), num(9), impl.Value{}, impl.Value{})
	checkRan(t, []ran{
		{"func 0 0; nil; fun 1; int 3; int 9; call 2; return" + takesTwo, nil, 5, impl.Vm{
			Frames: frames(frame(0, 5, nil, vals(impl.Value{})), frame(1, 0, locals, nil)), Steps: 5}},
		{"func 0 0; nil; int 3; int 9; invoke 1; return" + takesTwo, nil, 4, impl.Vm{
			Frames: frames(frame(0, 4, nil, vals(impl.Value{})), frame(1, 0, locals, nil)), Steps: 4}},
		{"func 0 0; nil; int 3; int 9; invoke 1; return" + takesTwo, nil, 8, impl.Vm{
			Frames: frames(frame(0, 4, nil, vals(impl.Value{}, num(6)))), Steps: 8}},
		{"func 0 0; nil; fun 1; int 3; int 9; call 2; return" + takesTwo, nil, 10, impl.Vm{Status: 1, Value: num(6), Steps: 10}},
		{"func 0 1; fun 1; call 0; return; func 0 2; nil; return", nil, 2, impl.Vm{
			Frames: frames(frame(0, 2, vals(impl.Value{}), nil), frame(1, 0, make([]impl.Value, 2), nil)), Steps: 2}},
		{"func 0 1; invoke 1; return; func 0 0; bool 1; return", nil, 3, at(1, vals(impl.Value{}), vals(truth(1)), 3)},
		{"func 0 0; int 1; int 2; return", nil, 3, impl.Vm{Status: 1, Value: num(2), Steps: 3}},
		{"func 0 0; invoke 1; return; func 0 0; int 1; int 2; return", nil, 4, at(1, nil, vals(num(2)), 4)},
		{"func 0 0; fun 1; int 1; int 2; int 3; int 4; int 5; int 6; call 6; return; func 6 6; load 5; return", nil, 8, impl.Vm{
			Frames: frames(frame(0, 8, nil, nil), frame(1, 0, vals(num(1), num(2), num(3), num(4), num(5), num(6)), nil)), Steps: 8}},
	})
}

// What is printed of each kind of value.
func TestOpsThatPrint(t *testing.T) {
	code := `text "a b"; text ""; func 0 0; int -7; print; bool 1; print; bool 0; print; text 0; print; text 1; print; nil; print; fun 0; print; new 3; print; nil; return`
	out := []string{"-7", "true", "false", "a b", "", "nil", "fun0", "{3}"}
	for n := range len(out) + 1 {
		want := at(2*n, nil, nil, 2*n)
		want.Out = out[:n]
		if n == len(out) {
			want.Heap, want.Made = []impl.Rec{record(impl.Value{}, impl.Value{}, impl.Value{})}, 1
		}
		checkVm(t, "prints", impl.Run(mod(code), nil, 2*n), want)
	}
	checkRan(t, []ran{{"func 0 0; int 1; int 2; print; return", nil, 3, impl.Vm{Frames: frames(frame(0, 3, nil, vals(num(1)))), Out: []string{"2"}, Steps: 3}}})
}

// trapping is a module whose run traps with its last step.
type trapping struct {
	code  string
	steps int
	trap  int
}

// checkTrapping asks that with a trap all but Status, Trap and Steps is as it was, and that nothing follows.
func checkTrapping(t *testing.T, list []trapping) {
	t.Helper()
	for _, x := range list {
		m := mod(x.code)
		was := impl.Run(m, nil, x.steps-1)
		if was.Status != 0 || was.Steps != x.steps-1 {
			t.Errorf("%s: traps too early: %+v", x.code, was)
		}
		want := cloneVm(was)
		want.Status, want.Trap, want.Steps = 2, x.trap, x.steps
		for _, fuel := range []int{x.steps, x.steps + 1, impl.MaxSteps} {
			checkVm(t, x.code, impl.Run(m, nil, fuel), want)
		}
		checkVm(t, x.code+", by Step", impl.Step(m, was), want)
		checkState(t, m, was)
		checkState(t, m, want)
	}
}

func TestTraps(t *testing.T) {
	checkTrapping(t, []trapping{
		{"func 0 0; nil; int 1; add; return", 3, 1}, {"func 0 0; int 1; bool 1; add; return", 3, 1},
		{`text "a"; func 0 0; text 0; int 1; add; return`, 3, 1}, {`text "a"; func 0 0; text 0; text 0; sub; return`, 3, 1},
		{`text "a"; func 0 0; text 0; text 0; mul; return`, 3, 1}, {"func 0 0; bool 0; bool 1; less; return", 3, 1},
		{"func 0 0; int 1000000000; int 1; add; return", 3, 2}, {"func 0 0; int -1000000000; int 1; sub; return", 3, 2},
		{"func 0 0; int 1000000000; int 2; mul; return", 3, 2},
		{`text "` + xs(31) + `"; text "` + xs(30) + `"; func 0 0; text 0; text 1; add; return`, 3, 3},
		{"func 0 0; int 1; not; return", 2, 1}, {"func 0 0; nil; not; return", 2, 1},
		{"func 0 0; int 1; if 2; nil; return", 2, 1}, {"func 0 0; nil; ifnot 2; nil; return", 2, 1},
		{"func 0 0; int 1; int 1; if 3; return", 3, 1}, {"func 0 0; fun 0; ifnot 0; nil; return", 2, 1},
		{"func 0 0; int 0; get 0; return", 2, 1}, {"func 0 0; nil; get 0; return", 2, 1}, {"func 0 0; fun 0; get 0; return", 2, 1},
		{"func 0 0; new 5; get 5; return", 2, 4}, {"func 0 0; new 0; get 0; return", 2, 4}, {"func 0 0; new 1; get 1; return", 2, 4},
		{"func 0 0; int 0; int 5; put 0; nil; return", 3, 1}, {"func 0 0; nil; new 1; put 0; nil; return", 3, 1},
		{"func 0 0; new 5; int 5; put 5; nil; return", 3, 4}, {"func 0 0; new 0; int 5; put 0; nil; return", 3, 4},
		{"func 0 0; new 6; dup; int 5; put 5; new 5; int 5; put 5; return", 7, 4},
		{"func 0 0; nil; call 0; return", 2, 1}, {"func 0 0; int 0; call 0; return", 2, 1}, {"func 0 0; new 1; call 0; return", 2, 1},
		{"func 0 0; fun 1; int 1; call 1; return; func 2 2; nil; return", 3, 5},
		{"func 0 0; fun 1; int 1; int 2; int 3; call 3; return; func 2 2; nil; return", 5, 5},
		{"func 0 0; fun 1; call 0; return; func 1 1; nil; return", 2, 5},
		{"func 0 0; fun 0; int 1; call 1; return", 3, 5},
		// A function on top is no function below the values.
		{"func 0 0; int 0; fun 1; call 1; return; func 1 1; nil; return", 3, 1},
		// A trap in a function that was called leaves all its frames.
		{"func 0 1; int 3; store 0; nil; load 0; invoke 1; return; func 1 2; load 0; nil; add; return", 8, 1},
	})
}

// Several faults at once, and the first of them in the document's order.
func TestSeveralFaultsOfSteps(t *testing.T) {
	checkTrapping(t, []trapping{
		{"func 0 0; int 0; get 5; return", 2, 1}, {"func 0 0; nil; nil; put 5; nil; return", 3, 1},
		{"func 0 0; int 1; int 2; call 1; return", 3, 1},
	})
	m := mod("func 0 0; fun 0; call 0; drop; nil; call 0; return; func 1 1; int 1; int 2; int 3; call 2; return; func 0 0; fun 1; fun 0; call 1; drop; fun 0; call 0; return; func 0 0; new 0; call 0; return")
	below := frame(0, 2, nil, nil)
	for _, x := range []struct {
		last  impl.Frame
		traps [2]int
	}{
		{frame(0, 1, nil, vals(impl.Value{})), [2]int{1, 1}},
		{frame(0, 1, nil, vals(num(0))), [2]int{1, 1}},
		{frame(0, 1, nil, vals(rec(0))), [2]int{1, 1}},
		{frame(0, 1, nil, vals(fun(1))), [2]int{5, 5}},
		{frame(0, 1, nil, vals(fun(0))), [2]int{0, 6}},
		{frame(1, 3, vals(num(1)), vals(num(1), fun(0), fun(0))), [2]int{1, 1}},
		{frame(1, 3, vals(num(1)), vals(fun(1), fun(0), fun(0))), [2]int{5, 5}},
		{frame(2, 2, nil, vals(fun(1), fun(0))), [2]int{0, 6}},
		{frame(2, 2, nil, vals(fun(0), fun(1))), [2]int{5, 5}},
	} {
		for i, n := range []int{impl.MaxFrames - 1, impl.MaxFrames} {
			vm := impl.Vm{Frames: append(slices.Repeat(frames(below), n-1), x.last), Heap: []impl.Rec{record()}, Made: 1}
			got := impl.Step(m, vm)
			if got.Trap != x.traps[i] || got.Steps != 1 || !impl.VmOk(m, got) {
				t.Errorf("%v on %d frames: %+v", x.last, n-1, got)
			}
			checkState(t, m, vm)
		}
	}
}

func TestMaxFramesAndOneMoreCall(t *testing.T) {
	for _, x := range []struct {
		code string
		each int
	}{{"func 0 1; invoke 0; return", 1}, {"func 0 1; fun 0; call 0; return", 2}} {
		m := mod(x.code)
		full := impl.Run(m, nil, 23*x.each)
		if len(full.Frames) != 24 || full.Status != 0 {
			t.Errorf("%s: %+v", x.code, full)
		}
		for i, f := range full.Frames {
			if want := frame(0, min(23-i, 1)*x.each, vals(impl.Value{}), nil); !sameFrame(f, want) {
				t.Errorf("%s: frame %d is %v", x.code, i, f)
			}
		}
		checkTrapping(t, []trapping{{x.code, 24 * x.each, 6}})
	}
	m := mod("func 1 1; load 0; int 0; same; if 11; load 0; int 1; sub; invoke 0; int 1; add; return; int 0; return")
	checkVm(t, "23 calls, and back", impl.Run(m, vals(num(23)), 1000), impl.Vm{Status: 1, Value: num(23), Steps: 23*11 + 6})
	if vm := impl.Run(m, vals(num(24)), 1000); vm.Trap != 6 || len(vm.Frames) != 24 || vm.Steps != 24*8 {
		t.Errorf("24 calls: %+v", vm)
	}
}

func TestMaxMadeAndOneMoreRecord(t *testing.T) {
	code := "func 0 0; new 1; drop; jump 0"
	checkTrapping(t, []trapping{{code, 361, 7}})
	vm := impl.Run(mod(code), nil, 360)
	if len(vm.Heap) != 120 || vm.Made != 120 || vm.Status != 0 {
		t.Error("MaxMade records:", vm)
	}
	// Made counts, not what there is: records that nobody reaches may be gone.
	for _, made := range []int{0, 118, 119} {
		vm := at(0, nil, nil, 7)
		vm.Made = made
		want := at(1, nil, vals(rec(0)), 8)
		want.Made, want.Heap = made+1, []impl.Rec{record(impl.Value{})}
		checkVm(t, "a record", impl.Step(mod(code), vm), want)
	}
	vm = at(0, nil, nil, 7)
	vm.Made = 120
	want := at(0, nil, nil, 8)
	want.Made, want.Status, want.Trap = 120, 2, 7
	checkVm(t, "a record behind MaxMade", impl.Step(mod(code), vm), want)
}

func TestMaxOutAndOneMorePrint(t *testing.T) {
	code := "func 0 0; int 5; print; jump 0"
	checkTrapping(t, []trapping{{code, 602, 8}})
	vm := impl.Run(mod(code), nil, 601)
	if !slices.Equal(vm.Out, slices.Repeat([]string{"5"}, 200)) || vm.Status != 0 {
		t.Error("MaxOut texts:", vm)
	}
}

func TestMaxSteps(t *testing.T) {
	m := mod("func 0 1; int 1; store 0; jump 0")
	vm := impl.Run(m, nil, impl.MaxSteps)
	checkVm(t, "MaxSteps", vm, at(2, vals(num(1)), nil, 50000))
	checkVm(t, "one step behind MaxSteps", impl.Step(m, vm), vm)
	checkVm(t, "one ahead", impl.Run(m, nil, impl.MaxSteps-1), at(1, vals(num(1)), vals(num(1)), 49999))
	checkVm(t, "the last one", impl.Step(m, impl.Run(m, nil, impl.MaxSteps-1)), vm)
	// A step that would trap, print, return or call is not done either.
	for _, code := range []string{"func 0 0; nil; not; return", "func 0 0; nil; print; nil; return", "func 0 0; nil; return", "func 0 0; nil; drop; invoke 0; return"} {
		m := mod(code)
		vm := at(1, nil, vals(impl.Value{}), impl.MaxSteps)
		checkVm(t, code, impl.Step(m, vm), vm)
		vm.Steps--
		if got := impl.Step(m, vm); got.Steps != impl.MaxSteps || sameVm(got, vm) {
			t.Errorf("%s: %+v", code, got)
		}
	}
}

func TestFuel(t *testing.T) {
	m := mod("func 0 0; nil; drop; jump 0")
	for _, fuel := range []int{-1, impl.MaxSteps + 1, math.MinInt, math.MaxInt} {
		checkVm(t, "fuel "+strconv.Itoa(fuel), impl.Run(m, nil, fuel), impl.Vm{})
	}
	checkVm(t, "no fuel", impl.Run(m, nil, 0), at(0, nil, nil, 0))
	checkVm(t, "all fuel", impl.Run(m, nil, impl.MaxSteps), at(2, nil, nil, impl.MaxSteps))
	ends := mod("func 0 0; nil; return")
	for _, fuel := range []int{2, 3, impl.MaxSteps} {
		checkVm(t, "fuel that is left", impl.Run(ends, nil, fuel), impl.Vm{Status: 1, Steps: 2})
	}
	for _, fuel := range []int{-1, impl.MaxSteps + 1} {
		checkVm(t, "wrong fuel of what ends", impl.Run(ends, nil, fuel), impl.Vm{})
	}
}

// wrongStart is a module with arguments that it cannot be started with.
type wrongStart struct {
	name string
	m    impl.Module
	args []impl.Value
}

func wrongStarts() []wrongStart {
	takesTwo := mod("func 2 3; load 0; return; func 0 0; nil; return")
	list := []wrongStart{
		{"too few", takesTwo, vals(num(1))}, {"none", takesTwo, nil}, {"too many", takesTwo, vals(num(1), num(2), num(3))},
		{"as many as the locals", takesTwo, make([]impl.Value, 3)}, {"as many as the other function takes", takesTwo, vals()},
		{"one for none", mod("func 0 1; nil; return"), vals(impl.Value{})},
		{"no module", impl.Module{}, nil},
	}
	for name, m := range notGood() {
		list = append(list, wrongStart{name, m, nil})
	}
	bad := append(overfull(), num(1000000001), num(-1000000001), truth(2), truth(-1), text(xs(61)), text("\""), text("\n"),
		rec(0), rec(-1), rec(1), fun(2), fun(-1), impl.Value{Kind: 6}, impl.Value{Kind: -1})
	for _, v := range bad {
		list = append(list, wrongStart{"first", takesTwo, vals(v, num(1))}, wrongStart{"last", takesTwo, vals(num(1), v)})
	}
	return list
}

func TestWrongStarts(t *testing.T) {
	for _, x := range wrongStarts() {
		vm, ok := impl.Start(x.m, x.args)
		if ok || !sameVm(vm, impl.Vm{}) {
			t.Errorf("%s: %v is started with %v: %+v", x.name, x.m, x.args, vm)
		}
		for _, fuel := range []int{-1, 0, 1, 100} {
			checkVm(t, x.name, impl.Run(x.m, x.args, fuel), impl.Vm{})
		}
	}
}

func TestStarts(t *testing.T) {
	for _, x := range []struct {
		code string
		args []impl.Value
		want []impl.Value
	}{
		{"func 0 0; nil; return", nil, nil},
		{"func 0 0; nil; return", vals(), nil},
		{"func 0 2; nil; return", nil, make([]impl.Value, 2)},
		{"func 1 1; nil; return; func 2 2; nil; return", vals(fun(1)), vals(fun(1))},
		{"func 2 4; nil; return", vals(num(1000000000), num(-1000000000)), vals(num(1000000000), num(-1000000000), impl.Value{}, impl.Value{})},
		{"func 6 12; nil; return", vals(impl.Value{}, num(0), truth(0), truth(1), text(""), fun(0)), append(vals(impl.Value{}, num(0), truth(0), truth(1), text(""), fun(0)), make([]impl.Value, 6)...)},
		{"func 1 1; nil; return", vals(text(xs(60))), vals(text(xs(60)))},
	} {
		vm, ok := impl.Start(mod(x.code), x.args)
		if !ok {
			t.Errorf("%s is not started with %v", x.code, x.args)
		}
		checkVm(t, x.code, vm, at(0, x.want, nil, 0))
		checkVm(t, x.code+", no fuel", impl.Run(mod(x.code), x.args, 0), vm)
		checkState(t, mod(x.code), vm)
	}
}

// whole is a module, and what it has printed and answered, or its trap, when it has ended.
type whole struct {
	name string
	m    impl.Module
	args []impl.Value
	out  string
	want impl.Vm
}

// wholeRuns are programs as people write them.
func wholeRuns() []whole {
	factorial := mod("func 1 1; load 0; int 1; less; if 10; load 0; load 0; int 1; sub; invoke 0; jump 12; int 1; return; mul; return")
	twice := mod("func 0 0; fun 1; int 5; invoke 2; return; func 1 1; load 0; load 0; mul; return; func 2 2; load 0; load 0; load 1; call 1; call 1; return")
	list := mod("func 1 2; nil; store 1; load 0; int 1; less; if 19; new 2; dup; load 0; put 0; dup; load 1; put 1; store 1; load 0; int -1; add; store 0; jump 2; load 1; invoke 1; return; " +
		"func 1 1; load 0; nil; same; if 9; load 0; get 0; load 0; get 1; jump 11; int 0; return; invoke 1; add; return")
	hello := mod(`text "a"; text "-"; func 1 2; text 0; store 1; load 0; ifnot 6; load 1; print; load 1; text 1; add; return`)
	return []whole{
		{"factorial", factorial, vals(num(5)), "", impl.Vm{Status: 1, Value: num(120)}},
		{"factorial of 12", factorial, vals(num(12)), "", impl.Vm{Status: 1, Value: num(479001600)}},
		{"factorial of 13", factorial, vals(num(13)), "", impl.Vm{Status: 2, Trap: 2}},
		{"factorial of 23", factorial, vals(num(23)), "", impl.Vm{Status: 2, Trap: 2}},
		{"factorial of 24", factorial, vals(num(24)), "", impl.Vm{Status: 2, Trap: 6}},
		{"factorial of a text", factorial, vals(text("5")), "", impl.Vm{Status: 2, Trap: 1}},
		{"twice", twice, nil, "", impl.Vm{Status: 1, Value: num(625)}},
		{"a list", list, vals(num(4)), "", impl.Vm{Status: 1, Value: num(10), Made: 4}},
		{"no list", list, vals(num(0)), "", impl.Vm{Status: 1, Value: num(0)}},
		{"counting", impl.Module{Funcs: []impl.Func{counting()}}, vals(num(3)), "", impl.Vm{Status: 1, Value: num(3)}},
		{"a print", hello, vals(truth(1)), "a", impl.Vm{Status: 1, Value: text("a-")}},
		{"no print", hello, vals(truth(0)), "", impl.Vm{Status: 1, Value: text("a-")}},
	}
}

func TestWholeRuns(t *testing.T) {
	for _, x := range wholeRuns() {
		vm := impl.Run(x.m, x.args, 5000)
		if vm.Status != x.want.Status || vm.Trap != x.want.Trap || vm.Value != x.want.Value || vm.Made != x.want.Made || strings.Join(vm.Out, ",") != x.out {
			t.Errorf("%s: %+v", x.name, vm)
		}
		checkVm(t, x.name, vm, runByLaw(x.m, x.args, 5000))
		checkStepByStep(t, x.m, x.args, 5000)
	}
}

// checkStepByStep holds a run against its steps: promises 2 and 3.
func checkStepByStep(t *testing.T, m impl.Module, args []impl.Value, most int) {
	t.Helper()
	vm, ok := impl.Start(m, args)
	if !ok {
		t.Fatalf("%v is not started with %v", m, args)
	}
	for steps := 0; ; steps++ {
		checkHeights(t, m, vm)
		if steps%7 == 0 || vm.Status != impl.StRun {
			if got := impl.Run(m, args, steps); !sameVm(got, vm) {
				t.Fatalf("%v with %v: %d steps come to\n  %+v, one by one to\n  %+v", m, args, steps, got, vm)
			}
		}
		if steps == most || vm.Status != impl.StRun {
			break
		}
		vm = impl.Step(m, vm)
	}
	checkVm(t, "a run that has ended, and more steps", impl.Run(m, args, most), vm)
}

// checkHeights asks that a state is ok, and each stack as high as is told.
func checkHeights(t *testing.T, m impl.Module, vm impl.Vm) {
	t.Helper()
	if !impl.VmOk(m, vm) {
		t.Fatalf("%v comes to what is not ok: %+v", m, vm)
	}
	for i, f := range vm.Frames {
		missing := min(len(vm.Frames)-1-i, 1)
		if height := impl.DepthsOf(m, f.Func)[f.Pc]; height != len(f.Stack)+missing {
			t.Fatalf("%v: frame %d of %+v is to be %d high", m, i, vm, height)
		}
	}
}

// TestSoManyStepsAndSoManyMore asks promise 3 of each two counts.
func TestSoManyStepsAndSoManyMore(t *testing.T) {
	for _, x := range wholeRuns() {
		all := impl.Run(x.m, x.args, 400)
		for _, first := range []int{0, 1, 2, 10, all.Steps - 1, all.Steps, all.Steps + 1} {
			vm := impl.Run(x.m, x.args, first)
			for more := range 60 {
				checkVm(t, x.name, impl.Run(x.m, x.args, first+more), vm)
				vm = impl.Step(x.m, vm)
			}
		}
	}
}
