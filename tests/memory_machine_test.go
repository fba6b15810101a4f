package tests

import (
	"math/rand"
	"slices"
	"strings"
	"testing"

	"loop.example/g00094/impl"
)

// spareValues lie behind a list of values; with them it would be another one.
func spareValues() []impl.Value { return vals(num(-1), impl.Value{Kind: 9, S: spare}) }

func roomyValues(list []impl.Value) []impl.Value {
	return append(slices.Clone(list), spareValues()...)[:len(list)]
}

// roomyVm is vm with spare room behind each list, in which lies what would make it another state.
func roomyVm(vm impl.Vm) impl.Vm {
	out := cloneVm(vm)
	for i, f := range vm.Frames {
		out.Frames[i].Locals, out.Frames[i].Stack = roomyValues(f.Locals), roomyValues(f.Stack)
	}
	for i, r := range vm.Heap {
		out.Heap[i].Fields = roomyValues(r.Fields)
	}
	out.Frames = append(out.Frames, frame(-1, -1, nil, nil), frame(0, 0, nil, nil))[:len(vm.Frames)]
	out.Heap = append(out.Heap, record(num(-1)), record())[:len(vm.Heap)]
	out.Out = append(out.Out, spare, "\"")[:len(vm.Out)]
	return out
}

// untouchedVm tells whether vm and the spare room behind its lists are as roomyVm made them.
func untouchedVm(vm impl.Vm, was impl.Vm) bool {
	roomy := roomyVm(was)
	for _, list := range valueLists(vm) {
		if n := len(list); !slices.Equal(list[n:n+2], spareValues()) {
			return false
		}
	}
	nf, nh, no := len(was.Frames), len(was.Heap), len(was.Out)
	return sameVm(vm, was) && slices.EqualFunc(vm.Frames[nf:nf+2], roomy.Frames[nf:nf+2], sameFrame) &&
		slices.EqualFunc(vm.Heap[nh:nh+2], roomy.Heap[nh:nh+2], sameRec) && slices.Equal(vm.Out[no:no+2], roomy.Out[no:no+2])
}

// fillVm writes over all that vm's lists have, up to their capacity.
func fillVm(vm impl.Vm) {
	for _, list := range valueLists(vm) {
		for i := range list[:cap(list)] {
			list[:cap(list)][i] = impl.Value{Kind: -5}
		}
	}
	for i := range vm.Out[:cap(vm.Out)] {
		vm.Out[:cap(vm.Out)][i] = "other"
	}
	clear(vm.Frames[:cap(vm.Frames)])
	clear(vm.Heap[:cap(vm.Heap)])
}

// stateOf is a state of a module.
type stateOf struct {
	m  impl.Module
	vm impl.Vm
}

// someStates stand at every Op, have trapped, are done, have no step left, or are not ok.
func someStates() []stateOf {
	late, wrong := fullState(), fullState()
	late.Steps, wrong.Made = impl.MaxSteps, -1
	out := []stateOf{
		{stateModule(), fullState()}, {stateModule(), trappedState()}, {stateModule(), doneState()},
		{stateModule(), late}, {stateModule(), wrong}, {one(dropIns), at(0, nil, nil, 0)}, {impl.Module{}, impl.Vm{}},
		{alikeModule(), rich()}, {alikeModule(), richTrapped()}, {alikeModule(), richDone()},
	}
	r := rand.New(rand.NewSource(9))
	for range 40 {
		m := randomProgram(r)
		for range 20 {
			out = append(out, stateOf{m, randomState(r, m)})
		}
	}
	return out
}

// stateMakers are the ways in which a state comes of another one.
func stateMakers() map[string]func(impl.Module, impl.Vm) impl.Vm {
	return map[string]func(impl.Module, impl.Vm) impl.Vm{"Step": impl.Step, "Canon": impl.Canon}
}

func TestStatesAreNotWrittenInto(t *testing.T) {
	for _, x := range someStates() {
		m, vm := roomy(x.m), roomyVm(x.vm)
		if got, want := impl.VmOk(m, vm), vmOkByLaw(x.m, x.vm); got != want {
			t.Errorf("VmOk reads behind a list of %+v", x.vm)
		}
		if got, want := impl.VmText(m, vm), impl.VmText(cloneModule(x.m), cloneVm(x.vm)); got != want {
			t.Errorf("VmText reads behind a list of %+v", x.vm)
		}
		for name, makeOne := range stateMakers() {
			checkVm(t, name+" reads behind a list", makeOne(m, vm), makeOne(cloneModule(x.m), cloneVm(x.vm)))
		}
		other := roomyVm(x.vm)
		if ok := vmOkByLaw(x.m, x.vm); impl.Alike(m, vm, other) != ok || impl.Alike(m, vm, vm) != ok {
			t.Errorf("Alike reads behind a list of %+v", x.vm)
		}
		if !untouched(m, x.m) || !untouchedVm(vm, x.vm) || !untouchedVm(other, x.vm) {
			t.Errorf("%v, %+v: written into", x.m, x.vm)
		}
	}
}

func TestArgumentsAreNotWrittenInto(t *testing.T) {
	r := rand.New(rand.NewSource(10))
	for range 300 {
		was := randomProgram(r)
		args := randomArgs(r, was)
		if r.Intn(5) == 0 {
			args = append(args, num(1))
		}
		m, wide := roomy(was), roomyValues(args)
		vm, ok := impl.Start(m, wide)
		want, okWant := startByLaw(was, args)
		checkVm(t, "Start reads behind a list", vm, want)
		checkVm(t, "Run reads behind a list", impl.Run(m, wide, 100), runByLaw(was, args, 100))
		if n := len(args); ok != okWant || !untouched(m, was) || !slices.Equal(wide[:n+2], slices.Concat(args, spareValues())) {
			t.Errorf("%v with %v: written into", was, args)
		}
	}
}

// What is written into a state does not show in the one that came of it, nor the other way round.
func TestStatesBeforeAndAfterAreKeptApart(t *testing.T) {
	for name, makeOne := range stateMakers() {
		for _, x := range someStates() {
			was := roomyVm(x.vm)
			got := makeOne(x.m, was)
			want := cloneVm(got)
			other := makeOne(x.m, was)
			fillVm(got)
			if !untouchedVm(was, x.vm) {
				t.Errorf("%s: %+v shares memory with what came of it", name, x.vm)
			}
			checkVm(t, name+": two answers", other, want)
			checkVm(t, name+": a later answer", makeOne(x.m, was), want)
			fillVm(was)
			checkVm(t, name+": what came of a state that was written into", other, want)
		}
	}
}

func TestStartsAreKeptApart(t *testing.T) {
	r := rand.New(rand.NewSource(11))
	for range 200 {
		was := randomProgram(r)
		m, args := cloneModule(was), randomArgs(r, was)
		given := slices.Clone(args)
		for _, begin := range []func() impl.Vm{
			func() impl.Vm { vm, _ := impl.Start(m, given); return vm },
			func() impl.Vm { return impl.Run(m, given, 0) },
			func() impl.Vm { return impl.Run(m, given, 60) },
		} {
			vm, other := begin(), begin()
			want := cloneVm(other)
			fillVm(vm)
			if !sameModule(m, was) || !slices.Equal(given, args) {
				t.Fatalf("%v with %v: shares memory with a state", was, args)
			}
			checkVm(t, "two answers", other, want)
		}
		vm := impl.Run(m, given, 60)
		want := cloneVm(vm)
		fillLists(m)
		for i := range given {
			given[i] = num(-77)
		}
		checkVm(t, "a state whose module and arguments were written into", vm, want)
	}
}

// listsOf are all lists of values of a state, also of what lies behind its own lists, up to their capacity.
func listsOf(vm impl.Vm) [][]impl.Value {
	vm.Frames, vm.Heap = vm.Frames[:cap(vm.Frames)], vm.Heap[:cap(vm.Heap)]
	out := valueLists(vm)
	for i, list := range out {
		out[i] = list[:cap(list)]
	}
	return out
}

// listsApart writes another number into each list of a state, and tells whether each has its own then.
func listsApart(vm impl.Vm) bool {
	lists := listsOf(vm)
	for n, list := range lists {
		for i := range list {
			list[i] = num(n)
		}
	}
	for n, list := range lists {
		if slices.ContainsFunc(list, func(v impl.Value) bool { return v != num(n) }) {
			return false
		}
	}
	return true
}

func TestTheListsOfAStateShareNothing(t *testing.T) {
	answers := []impl.Vm{}
	for _, x := range someStates() {
		for _, makeOne := range stateMakers() {
			answers = append(answers, makeOne(x.m, x.vm))
		}
	}
	for _, x := range wholeRuns() {
		for steps := range 120 {
			answers = append(answers, impl.Run(x.m, x.args, steps))
		}
	}
	for _, vm := range answers {
		if !listsApart(vm) {
			t.Fatalf("two lists of a state share memory: %+v", vm)
		}
	}
}

// textsOfVm are all texts in a state that have some memory.
func textsOfVm(vm impl.Vm) []string {
	out := slices.Clone(vm.Out)
	for _, v := range valuesOf(vm) {
		out = append(out, v.S)
	}
	return slices.DeleteFunc(out, func(s string) bool { return s == "" })
}

// ownTexts has a copy of each text, as the compiler keeps texts of the program's own in one place.
func ownTexts(values []impl.Value) {
	for i := range values {
		values[i].S = strings.Clone(values[i].S)
	}
}

func TestTextsOfStatesAreNewMemory(t *testing.T) {
	for _, x := range someStates() {
		m, vm := cloneModule(x.m), cloneVm(x.vm)
		for i := range m.Texts {
			m.Texts[i] = strings.Clone(m.Texts[i])
		}
		for _, list := range listsOf(vm) {
			ownTexts(list)
		}
		for i := range vm.Out {
			vm.Out[i] = strings.Clone(vm.Out[i])
		}
		vm.Value.S = strings.Clone(vm.Value.S)
		given := append(textsOfVm(vm), m.Texts...)
		answers := []string{impl.VmText(m, vm)}
		for _, makeOne := range stateMakers() {
			answers = append(answers, textsOfVm(makeOne(m, vm))...)
		}
		for _, got := range answers {
			for _, whole := range given {
				if liesIn(got, whole) {
					t.Fatalf("%v: of %+v: %q is in an argument's memory", m, vm, got)
				}
			}
		}
	}
}

func TestTextsOfStartsAreNewMemory(t *testing.T) {
	m := mod(`text "ab"; func 1 2; text 0; store 1; load 1; print; load 0; print; load 0; return`)
	m.Texts[0] = strings.Clone(m.Texts[0])
	args := vals(text(strings.Clone("arg")))
	start, _ := impl.Start(m, args)
	for steps := range 9 {
		for _, got := range append(textsOfVm(impl.Run(m, args, steps)), textsOfVm(start)...) {
			if liesIn(got, args[0].S) || liesIn(got, m.Texts[0]) {
				t.Errorf("%d steps: %q is in an argument's memory", steps, got)
			}
		}
	}
}
