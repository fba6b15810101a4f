package tests

import (
	"math"
	"slices"
	"strings"
	"testing"

	"loop.example/g00094/impl"
)

// stateModule has functions that call each other by both kinds of call. Function 2 has a call that nobody comes
// to, and behind it an instruction that leaves as much as a call does.
func stateModule() impl.Module {
	return mod("func 1 2; load 0; int 1; fun 1; load 0; call 1; add; add; return; " +
		"func 1 3; load 0; invoke 2; return; " +
		"func 0 0; nil; jump 3; call 0; not; return")
}

// fullState has three frames, records, texts, and a value of each kind somewhere.
func fullState() impl.Vm {
	return impl.Vm{
		Frames: frames(
			frame(0, 5, vals(num(4), fun(2)), vals(num(4), num(1))),
			frame(1, 2, vals(rec(1), text("a"), truth(1)), vals(rec(0))),
			frame(2, 4, nil, vals(truth(0))),
		),
		Heap:  []impl.Rec{record(rec(1), impl.Value{}), record(), record(text("b"), rec(2), fun(0))},
		Made:  5,
		Out:   []string{"x", ""},
		Steps: 9,
	}
}

// trappedIn is a state that runs, with a trap.
func trappedIn(vm impl.Vm) impl.Vm {
	vm.Status, vm.Trap = impl.StTrap, impl.TrType
	return vm
}

// doneWith is a state that runs, without its frames, and with an answer.
func doneWith(vm impl.Vm, v impl.Value) impl.Vm {
	vm.Frames, vm.Status, vm.Value = nil, impl.StDone, v
	return vm
}

func trappedState() impl.Vm { return trappedIn(fullState()) }

func doneState() impl.Vm { return doneWith(fullState(), rec(2)) }

// change is what is done to a state.
type change struct {
	name string
	do   func(vm *impl.Vm)
}

// checkChanges asks of each change by itself whether the state is ok with it. What is not ok is not stepped, and
// has neither a text nor numbers.
func checkChanges(t *testing.T, base func() impl.Vm, list []change, ok bool) {
	t.Helper()
	for _, x := range list {
		vm := base()
		x.do(&vm)
		if got := impl.VmOk(stateModule(), vm); got != ok {
			t.Errorf("%s: %v of %+v", x.name, got, vm)
		}
		if next := impl.Step(stateModule(), vm); !ok && !sameVm(next, impl.Vm{}) {
			t.Errorf("%s: stepped to %+v", x.name, next)
		}
		if got := impl.VmText(stateModule(), vm); (got != "") != ok {
			t.Errorf("%s: told as %q", x.name, got)
		}
		checkState(t, stateModule(), vm)
		vms().checkBothWays(t, stateModule(), vm, ok)
	}
}

// bases are states that are ok, one for each Status.
func bases() map[string]func() impl.Vm {
	return map[string]func() impl.Vm{"runs": fullState, "trapped": trappedState, "done": doneState}
}

func TestStatesThatAreOk(t *testing.T) {
	for name, base := range bases() {
		checkChanges(t, base, []change{
			{name, func(vm *impl.Vm) {}},
			{"as many made as there are", func(vm *impl.Vm) { vm.Made = 3 }},
			{"MaxMade made", func(vm *impl.Vm) { vm.Made = 120 }},
			{"MaxMade records", func(vm *impl.Vm) { vm.Made, vm.Heap = 120, append(vm.Heap, make([]impl.Rec, 117)...) }},
			{"MaxFields fields", func(vm *impl.Vm) { vm.Heap[1].Fields = make([]impl.Value, 6) }},
			{"a field that names the last record", func(vm *impl.Vm) { vm.Heap[0].Fields[1] = rec(2) }},
			{"no text", func(vm *impl.Vm) { vm.Out = nil }},
			{"MaxOut texts", func(vm *impl.Vm) { vm.Out = slices.Repeat([]string{"y"}, 200) }},
			{"a text of MaxText bytes", func(vm *impl.Vm) { vm.Out[1] = xs(60) }},
			{"the outermost bytes", func(vm *impl.Vm) { vm.Out[0] = " !#~" }},
			{"no step", func(vm *impl.Vm) { vm.Steps = 0 }},
			{"MaxSteps", func(vm *impl.Vm) { vm.Steps = 50000 }},
		}, true)
	}
	for trap := 1; trap <= 8; trap++ {
		checkChanges(t, trappedState, []change{{"each trap", func(vm *impl.Vm) { vm.Trap = trap }}}, true)
	}
	for _, v := range vals(impl.Value{}, num(-1000000000), truth(1), text(xs(60)), rec(0), fun(2)) {
		checkChanges(t, doneState, []change{{"an answer", func(vm *impl.Vm) { vm.Value = v }}}, true)
	}
	checkChanges(t, doneState, []change{{"no record", func(vm *impl.Vm) { vm.Heap, vm.Made, vm.Value = nil, 0, impl.Value{} }}}, true)
	for _, base := range []func() impl.Vm{fullState, trappedState} {
		checkChanges(t, base, []change{
			{"one frame", func(vm *impl.Vm) { vm.Frames = vm.Frames[2:] }},
			{"MaxFrames frames", func(vm *impl.Vm) {
				vm.Frames = append(slices.Repeat(vm.Frames[1:2], 23), vm.Frames[2])
			}},
			{"a frame above one that calls another function", func(vm *impl.Vm) { vm.Frames = vm.Frames[1:] }},
			{"the first instruction", func(vm *impl.Vm) { vm.Frames[2] = frame(1, 0, make([]impl.Value, 3), nil) }},
			{"the last instruction", func(vm *impl.Vm) { vm.Frames[2] = frame(0, 7, make([]impl.Value, 2), vals(num(1))) }},
			{"the one that calls", func(vm *impl.Vm) { vm.Frames[2] = frame(1, 1, make([]impl.Value, 3), vals(num(1))) }},
			{"the one behind the call, as the last", func(vm *impl.Vm) { vm.Frames[2] = frame(1, 2, make([]impl.Value, 3), make([]impl.Value, 2)) }},
		}, true)
	}
}

func TestStatesThatBreakOneWord(t *testing.T) {
	for _, base := range bases() {
		checkChanges(t, base, []change{
			{"fewer made than there are", func(vm *impl.Vm) { vm.Made = 2 }},
			{"none made", func(vm *impl.Vm) { vm.Made = 0 }},
			{"less than none made", func(vm *impl.Vm) { vm.Made = -1 }},
			{"more than MaxMade made", func(vm *impl.Vm) { vm.Made = 121 }},
			{"more than MaxMade records", func(vm *impl.Vm) { vm.Made, vm.Heap = 120, append(vm.Heap, make([]impl.Rec, 118)...) }},
			{"more than MaxMade records, all made", func(vm *impl.Vm) { vm.Made, vm.Heap = 121, append(vm.Heap, make([]impl.Rec, 118)...) }},
			{"more than MaxFields fields of the first", func(vm *impl.Vm) { vm.Heap[0].Fields = make([]impl.Value, 7) }},
			{"more than MaxFields fields of the last", func(vm *impl.Vm) { vm.Heap[2].Fields = make([]impl.Value, 7) }},
			{"more than MaxOut texts", func(vm *impl.Vm) { vm.Out = slices.Repeat([]string{"y"}, 201) }},
			{"a text of more than MaxText bytes", func(vm *impl.Vm) { vm.Out[1] = xs(61) }},
			{"the first text", func(vm *impl.Vm) { vm.Out[0] = "\n" }},
			{"byte 31", func(vm *impl.Vm) { vm.Out[1] = "\x1f" }},
			{"byte 127", func(vm *impl.Vm) { vm.Out[1] = "a\x7f" }},
			{"byte 34", func(vm *impl.Vm) { vm.Out[1] = "\"" }},
			{"a letter of more bytes", func(vm *impl.Vm) { vm.Out[1] = "é" }},
			{"less than no step", func(vm *impl.Vm) { vm.Steps = -1 }},
			{"more than MaxSteps", func(vm *impl.Vm) { vm.Steps = 50001 }},
			{"far more", func(vm *impl.Vm) { vm.Steps = math.MaxInt }},
			{"Status below", func(vm *impl.Vm) { vm.Status = -1 }},
			{"Status above", func(vm *impl.Vm) { vm.Status = 3 }},
			{"Trap below", func(vm *impl.Vm) { vm.Trap = -1 }},
			{"Trap above", func(vm *impl.Vm) { vm.Trap = 9 }},
		}, false)
	}
	checkChanges(t, trappedState, []change{
		{"trapped without a trap", func(vm *impl.Vm) { vm.Trap = 0 }},
		{"running with a trap", func(vm *impl.Vm) { vm.Status = impl.StRun }},
		{"done with frames and a trap", func(vm *impl.Vm) { vm.Status = impl.StDone }},
	}, false)
	checkChanges(t, fullState, []change{
		{"running with the first trap", func(vm *impl.Vm) { vm.Trap = 1 }},
		{"running with the last trap", func(vm *impl.Vm) { vm.Trap = 8 }},
		{"trapped without a trap", func(vm *impl.Vm) { vm.Status = impl.StTrap }},
		{"done with frames", func(vm *impl.Vm) { vm.Status = impl.StDone }},
	}, false)
	checkChanges(t, doneState, []change{
		{"done with a trap", func(vm *impl.Vm) { vm.Trap = 1 }},
		{"done with the last trap", func(vm *impl.Vm) { vm.Trap = 8 }},
		{"done with a frame", func(vm *impl.Vm) { vm.Frames = fullState().Frames[2:] }},
		{"running without a frame", func(vm *impl.Vm) { vm.Status, vm.Value = impl.StRun, impl.Value{} }},
		{"trapped without a frame", func(vm *impl.Vm) { vm.Status, vm.Trap, vm.Value = impl.StTrap, 1, impl.Value{} }},
	}, false)
}

func TestFramesThatBreakOneWord(t *testing.T) {
	for _, base := range []func() impl.Vm{fullState, trappedState} {
		for i := range 3 {
			changed := func(do func(f *impl.Frame)) func(vm *impl.Vm) {
				return func(vm *impl.Vm) { do(&vm.Frames[i]) }
			}
			checkChanges(t, base, []change{
				{"a function below", changed(func(f *impl.Frame) { f.Func = -1 })},
				{"a function behind", changed(func(f *impl.Frame) { f.Func = 3 })},
				{"an instruction below", changed(func(f *impl.Frame) { f.Pc = -1 })},
				{"far below", changed(func(f *impl.Frame) { f.Pc = math.MinInt })},
				{"an instruction behind", changed(func(f *impl.Frame) { f.Pc = len(stateModule().Funcs[f.Func].Code) })},
				{"far behind", changed(func(f *impl.Frame) { f.Pc = math.MaxInt })},
				{"a local more", changed(func(f *impl.Frame) { f.Locals = append(f.Locals, num(1)) })},
				{"a value more", changed(func(f *impl.Frame) { f.Stack = append(f.Stack, num(1)) })},
				{"a value fewer", changed(func(f *impl.Frame) { f.Stack = f.Stack[1:] })},
			}, false)
			if i < 2 {
				checkChanges(t, base, []change{{"a local fewer", changed(func(f *impl.Frame) { f.Locals = f.Locals[1:] })}}, false)
			}
		}
		checkChanges(t, base, []change{
			{"no frame", func(vm *impl.Vm) { vm.Frames = nil }},
			{"more than MaxFrames frames", func(vm *impl.Vm) { vm.Frames = append(slices.Repeat(vm.Frames[1:2], 24), vm.Frames[2]) }},
			{"no height", func(vm *impl.Vm) { vm.Frames[2] = frame(2, 2, nil, nil) }},
			{"no height, at the height that would be", func(vm *impl.Vm) { vm.Frames[2] = frame(2, 2, nil, vals(num(1))) }},
			{"a value", func(vm *impl.Vm) { vm.Value = num(0) }},
			{"a value that is a nil, and none", func(vm *impl.Vm) { vm.Value = impl.Value{N: 1} }},
			{"a record as a value", func(vm *impl.Vm) { vm.Value = rec(0) }},
		}, false)
	}
}

// Frames that are not the last stand behind a call, and lack what it answers.
func TestFramesThatWait(t *testing.T) {
	first := func(f impl.Frame) func(vm *impl.Vm) {
		return func(vm *impl.Vm) { vm.Frames[0] = f }
	}
	two, three := make([]impl.Value, 2), make([]impl.Value, 3)
	checkChanges(t, fullState, []change{
		{"behind an invoke", first(frame(1, 2, three, two[:1]))},
		{"behind a call", first(frame(0, 5, two, two))},
	}, true)
	checkChanges(t, fullState, []change{
		{"as high as the last one would be", first(frame(0, 5, two, three))},
		{"two lower", first(frame(0, 5, two, two[:1]))},
		{"at the call", first(frame(0, 4, two, make([]impl.Value, 4)))},
		{"at the call, one lower", first(frame(0, 4, two, three))},
		{"one behind", first(frame(0, 6, two, two))},
		{"one behind, one lower", first(frame(0, 6, two, two[:1]))},
		{"at the beginning", first(frame(0, 0, two, nil))},
		{"behind another instruction", first(frame(0, 2, two, two[:1]))},
		{"behind a call that nobody comes to", first(frame(2, 3, nil, nil))},
		{"behind an instruction that leaves what a call leaves", first(frame(2, 4, nil, nil))},
		{"where nobody comes to", first(frame(2, 2, nil, nil))},
	}, false)
	// The frames between the first and the last are asked for the same.
	checkChanges(t, fullState, []change{
		{"a middle frame as high as the last one would be", func(vm *impl.Vm) { vm.Frames[1].Stack = two }},
		{"a middle frame at the call", func(vm *impl.Vm) { vm.Frames[1] = frame(1, 1, three, two[:1]) }},
		{"the last frame as one that waits", func(vm *impl.Vm) { vm.Frames[2] = frame(1, 2, three, two[:1]) }},
	}, false)
}

// Each place where a value may stand is asked for.
func TestValuesOfStates(t *testing.T) {
	places := map[string]func(vm *impl.Vm) *impl.Value{
		"a local of the first frame":    func(vm *impl.Vm) *impl.Value { return &vm.Frames[0].Locals[0] },
		"the last local of a frame":     func(vm *impl.Vm) *impl.Value { return &vm.Frames[1].Locals[2] },
		"the stack of the first frame":  func(vm *impl.Vm) *impl.Value { return &vm.Frames[0].Stack[0] },
		"the top of the first frame":    func(vm *impl.Vm) *impl.Value { return &vm.Frames[0].Stack[1] },
		"the stack of the second frame": func(vm *impl.Vm) *impl.Value { return &vm.Frames[1].Stack[0] },
		"the stack of the last frame":   func(vm *impl.Vm) *impl.Value { return &vm.Frames[2].Stack[0] },
		"the first field":               func(vm *impl.Vm) *impl.Value { return &vm.Heap[0].Fields[0] },
		"the last field":                func(vm *impl.Vm) *impl.Value { return &vm.Heap[2].Fields[2] },
	}
	good := vals(impl.Value{}, num(1000000000), num(-1000000000), truth(0), truth(1), text(""), text(xs(60)), rec(0), rec(2), fun(0), fun(2))
	bad := append(overfull(), num(1000000001), num(-1000000001), truth(2), truth(-1), text(xs(61)), text("\""), text("\x1f"), text("\x7f"),
		rec(3), rec(-1), rec(4), fun(3), fun(-1), impl.Value{Kind: 6}, impl.Value{Kind: -1})
	for name, place := range places {
		for _, base := range []func() impl.Vm{fullState, trappedState} {
			for _, v := range good {
				checkChanges(t, base, []change{{name, func(vm *impl.Vm) { *place(vm) = v }}}, true)
			}
			for _, v := range bad {
				checkChanges(t, base, []change{{name, func(vm *impl.Vm) { *place(vm) = v }}}, false)
			}
		}
	}
	for _, v := range bad {
		checkChanges(t, doneState, []change{
			{"Value", func(vm *impl.Vm) { vm.Value = v }},
			{"a field of what is done", func(vm *impl.Vm) { vm.Heap[0].Fields[1] = v }},
		}, false)
	}
	// Records are counted by the heap, not by what was made.
	checkChanges(t, fullState, []change{{"a record that is gone", func(vm *impl.Vm) { vm.Made, vm.Heap[0].Fields[1] = 120, rec(3) }}}, false)
	checkChanges(t, doneState, []change{{"an answer that is gone", func(vm *impl.Vm) { vm.Heap = vm.Heap[:2] }}}, false)
}

// notGood are modules that are not ok, and such as are, and not good.
func notGood() map[string]impl.Module {
	bad := wrongModules()
	bad["a stack that is too low"] = one(dropIns)
	bad["an end that is come to"] = one(nilIns)
	bad["a join"] = one(nilIns, jump(0))
	bad["a fault in the other function"] = mod("func 0 0; nil; return; func 0 0; nil")
	return bad
}

func TestStatesOfModulesThatAreNotGood(t *testing.T) {
	vm := at(0, nil, nil, 0)
	done := impl.Vm{Status: impl.StDone}
	for name, m := range notGood() {
		for _, x := range []impl.Vm{vm, done, {}} {
			if impl.VmOk(m, x) || impl.VmText(m, x) != "" || !sameVm(impl.Step(m, x), impl.Vm{}) {
				t.Errorf("%s: %+v is taken", name, x)
			}
		}
	}
	for _, m := range []impl.Module{one(nilIns, returnIns), mod("func 0 0; nil; return; func 0 0; nil; return")} {
		if !impl.VmOk(m, vm) || !impl.VmOk(m, done) || impl.VmOk(m, impl.Vm{}) {
			t.Errorf("%v: its first or its last state is refused, or the zero one taken", m)
		}
	}
}

// What has ended, or has no step left, is answered as it is.
func TestStepsThatAreNotDone(t *testing.T) {
	late := fullState()
	late.Steps = impl.MaxSteps
	lateTrap, lateDone := trappedState(), doneState()
	lateTrap.Steps, lateDone.Steps = impl.MaxSteps, impl.MaxSteps
	for _, vm := range []impl.Vm{trappedState(), doneState(), late, lateTrap, lateDone} {
		checkVm(t, "not done", impl.Step(stateModule(), vm), vm)
	}
	if got := impl.Step(stateModule(), fullState()); got.Steps != 10 || sameVm(got, fullState()) {
		t.Errorf("not done: %+v", got)
	}
}

func TestTextsOfStates(t *testing.T) {
	run := strings.Join([]string{"run", "frame 0 5 4 fun2 | 4 1", "frame 1 2 {0} a true | {2}", "frame 2 4 | false", "made 5 out 2", ""}, "\n")
	texts := map[string]impl.Vm{
		run: fullState(),
		"trap 1" + strings.TrimPrefix(run, "run"): trappedState(),
		"done {3}\nmade 5 out 2\n":                doneState(),
		"done nil\nmade 0 out 0\n":                {Status: impl.StDone},
		"done -7\nmade 120 out 0\n":               {Status: impl.StDone, Value: num(-7), Made: 120},
		"done true\nmade 0 out 1\n":               {Status: impl.StDone, Value: truth(1), Out: []string{""}},
		"done false\nmade 0 out 0\n":              {Status: impl.StDone, Value: truth(0), Steps: 50000},
		"done a b\nmade 0 out 0\n":                {Status: impl.StDone, Value: text("a b")},
		"done \nmade 0 out 0\n":                   {Status: impl.StDone, Value: text("")},
		"done fun2\nmade 0 out 0\n":               {Status: impl.StDone, Value: fun(2)},
	}
	for want, vm := range texts {
		if got := impl.VmText(stateModule(), vm); got != want {
			t.Errorf("%q, not %q", got, want)
		}
	}
	for _, x := range []struct {
		code string
		vm   impl.Vm
		want string
	}{
		{"func 0 0; nil; return", at(0, nil, nil, 0), "run\nframe 0 0 |\nmade 0 out 0\n"},
		{"func 0 0; nil; return", at(1, nil, vals(impl.Value{}), 3), "run\nframe 0 1 | nil\nmade 0 out 0\n"},
		{"func 0 2; nil; drop; nil; return", at(2, vals(impl.Value{}, truth(0)), nil, 0), "run\nframe 0 2 nil false |\nmade 0 out 0\n"},
		{"func 0 2; nil; nil; return", at(2, vals(text(""), text(" ")), vals(text(""), text("")), 0), "run\nframe 0 2    |  \nmade 0 out 0\n"},
		{"func 0 1; nil; nil; return", at(2, vals(fun(0)), vals(num(-1000000000), truth(1)), 0), "run\nframe 0 2 fun0 | -1000000000 true\nmade 0 out 0\n"},
	} {
		if got := impl.VmText(mod(x.code), x.vm); got != x.want {
			t.Errorf("%q, not %q", got, x.want)
		}
	}
	for trap := 1; trap <= 8; trap++ {
		vm := impl.Vm{Frames: frames(frame(0, 0, nil, nil)), Status: impl.StTrap, Trap: trap}
		if got := impl.VmText(one(nilIns, returnIns), vm); got != "trap "+string(rune('0'+trap))+"\nframe 0 0 |\nmade 0 out 0\n" {
			t.Error(got)
		}
	}
	full := impl.Vm{Status: impl.StDone, Out: slices.Repeat([]string{"y"}, 200), Made: 120, Heap: make([]impl.Rec, 120), Value: rec(119)}
	if got := impl.VmText(one(nilIns, returnIns), full); got != "done {0}\nmade 120 out 200\n" {
		t.Error(got)
	}
}
