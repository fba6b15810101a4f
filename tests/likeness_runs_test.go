package tests

import (
	"fmt"
	"math/rand"
	"slices"
	"strings"
	"testing"

	"loop.example/g00094/impl"
)

// recordsFirst makes a record that is dropped, one that names itself (local 0), one that names this (local 1),
// and one more that is dropped: 14 instructions.
const recordsFirst = "func 0 2; new 1; drop; new 2; dup; dup; put 0; store 0; new 1; dup; load 0; put 0; store 1; new 3; drop; "

// recordRuns are programs whose states have records; want tells how each of them ends.
func recordRuns() []whole {
	trap := func(n int) impl.Vm { return impl.Vm{Status: impl.StTrap, Trap: n} }
	after := func(code string) impl.Module { return mod(recordsFirst + code) }
	ring := mod("func 1 4; new 2; store 1; load 1; store 2; load 0; int 1; less; if 23; new 2; store 3; load 2; load 3; put 0; load 3; load 0; put 1; load 3; store 2; load 0; int 1; sub; store 0; jump 4; " +
		"load 2; load 1; put 0; load 1; get 0; invoke 1; return; func 1 2; load 0; get 0; store 1; load 1; load 0; same; print; load 1; get 1; print; load 1; return")
	return []whole{
		{"a record as the answer", after("load 1; return"), nil, "", impl.Vm{Status: impl.StDone, Value: rec(2)}},
		{"no record as the answer", after("load 1; get 0; load 0; same; return"), nil, "", impl.Vm{Status: impl.StDone, Value: truth(1)}},
		{"records printed", after("load 1; print; load 0; get 0; print; nil; return"), nil, "{1},{2}", impl.Vm{Status: impl.StDone}},
		{"a record handed about", after("load 1; invoke 1; return; func 1 2; load 0; get 0; invoke 2; return; func 1 2; load 0; load 0; put 1; load 0; get 1; return"), nil, "", impl.Vm{Status: impl.StDone, Value: rec(1)}},
		{"a ring", ring, vals(num(5)), "false,4", impl.Vm{Status: impl.StDone, Value: rec(2)}},
		{"a ring of one", ring, vals(num(0)), "true,nil", impl.Vm{Status: impl.StDone, Value: rec(0)}},
		{"TrType", after("load 0; not; return"), nil, "", trap(impl.TrType)},
		{"TrOver", after("load 1; int 1000000000; int 1; add; return"), nil, "", trap(impl.TrOver)},
		{"TrText", mod(`text "` + xs(31) + `"; ` + recordsFirst + "load 1; text 0; text 0; add; return"), nil, "", trap(impl.TrText)},
		{"TrField", after("load 1; get 5; return"), nil, "", trap(impl.TrField)},
		{"TrField of a put", after("load 1; load 0; put 1; nil; return"), nil, "", trap(impl.TrField)},
		{"TrArgs", after("fun 0; load 0; call 1; return"), nil, "", trap(impl.TrArgs)},
		{"TrDeep", after("load 1; invoke 0; return"), nil, "", trap(impl.TrDeep)},
		{"TrMade", after("jump 0"), nil, "", trap(impl.TrMade)},
		{"TrOut", after("load 1; get 0; print; jump 14"), nil, strings.Join(slices.Repeat([]string{"{2}"}, 200), ","), trap(impl.TrOut)},
	}
}

func TestRunsWithRecords(t *testing.T) {
	for _, x := range recordRuns() {
		vm := impl.Run(x.m, x.args, 5000)
		if vm.Status != x.want.Status || vm.Trap != x.want.Trap || vm.Value != x.want.Value || strings.Join(vm.Out, ",") != x.out || vm.Made < 1 {
			t.Errorf("%s: %+v", x.name, vm)
		}
	}
}

// checkTwins runs a program beside itself with the records of the one moved about on the way, and asks at each
// step whether the two are alike. It gives the last state.
func checkTwins(t *testing.T, r *rand.Rand, m impl.Module, args []impl.Value, often int) impl.Vm {
	t.Helper()
	vm, ok := impl.Start(m, args)
	twin, _ := impl.Start(m, args)
	if !ok {
		t.Fatalf("%v is not started with %v", m, args)
	}
	for steps := 0; steps < 1000 && vm.Status == impl.StRun; steps++ {
		if r.Intn(often) == 0 {
			twin = moved(r, m, twin)
		}
		if r.Intn(often*4) == 0 {
			twin = impl.Canon(m, twin)
		}
		checkAlike(t, "a step", m, vm, twin, true)
		if steps%9 == 0 {
			checkCanon(t, m, twin)
		}
		vm, twin = impl.Step(m, vm), impl.Step(m, twin)
	}
	checkAlike(t, "the last step", m, vm, twin, true)
	checkAlike(t, "the last step, moved", m, vm, moved(r, m, twin), true)
	checkCanon(t, m, vm)
	checkCanon(t, m, twin)
	return vm
}

func TestTwinsOfRuns(t *testing.T) {
	r := rand.New(rand.NewSource(14))
	for _, x := range append(recordRuns(), wholeRuns()...) {
		for _, often := range []int{1, 2, 8} {
			vm := checkTwins(t, r, x.m, x.args, often)
			if vm.Status != x.want.Status || vm.Trap != x.want.Trap {
				t.Errorf("%s: %+v", x.name, vm)
			}
		}
	}
}

// Steps are not told apart by likeness, but what has MaxSteps goes no further: the two are stepped at once.
func TestTwinsAtMaxSteps(t *testing.T) {
	m := mod(recordsFirst + "load 1; get 0; print; jump 14")
	vm := impl.Run(m, nil, 16)
	twin := moved(rand.New(rand.NewSource(19)), m, vm)
	vm.Steps = impl.MaxSteps - 1
	checkAlike(t, "ahead of the last step", m, vm, twin, true)
	vm, twin = impl.Step(m, vm), impl.Step(m, twin)
	checkAlike(t, "behind the last step", m, vm, twin, true)
	twin.Steps = impl.MaxSteps
	checkAlike(t, "no step left", m, impl.Step(m, vm), impl.Step(m, twin), true)
	checkAlike(t, "where it stood", m, impl.Step(m, vm), vm, true)
}

// States of one run that stand at different instructions are not alike, nor are those that made another number
// of records.
func TestStatesOfOneRunThatAreNotAlike(t *testing.T) {
	for _, x := range recordRuns() {
		var states []impl.Vm
		for steps := range 60 {
			states = append(states, impl.Run(x.m, x.args, steps))
		}
		for i, a := range states {
			for _, b := range states[i:] {
				if checkAlikeByLaw(t, x.name, x.m, a, b) && a.Made != b.Made {
					t.Errorf("%s: %+v and %+v", x.name, a, b)
				}
			}
		}
	}
}

func TestManyTwins(t *testing.T) {
	r := rand.New(rand.NewSource(15))
	ends := map[int]int{}
	for range 150 {
		m := randomProgram(r)
		vm := checkTwins(t, r, m, randomArgs(r, m), 1+r.Intn(9))
		if len(metByLaw(vm)) > 0 {
			ends[vm.Trap]++
		}
	}
	for _, trap := range []int{impl.TrType, impl.TrOver, impl.TrField} {
		if ends[trap] < 5 {
			t.Errorf("trap %d came %d times alone with records: the programs try too little", trap, ends[trap])
		}
	}
}

// TestManyTwinsOfStates steps states that no run need come to.
func TestManyTwinsOfStates(t *testing.T) {
	r := rand.New(rand.NewSource(16))
	traps := map[int]int{}
	for range 60 {
		m := randomProgram(r)
		for range 20 {
			vm := randomState(r, m)
			vm.Steps %= 1000
			a, b := moved(r, m, vm), impl.Canon(m, vm)
			for range 4 {
				checkAlike(t, "a state and another", m, vm, a, true)
				checkAlike(t, "a state and a Canon", m, vm, b, true)
				checkAlike(t, "both of them", m, a, b, true)
				vm, a, b = impl.Step(m, vm), impl.Step(m, a), impl.Step(m, b)
			}
			if len(metByLaw(vm)) > 0 {
				traps[vm.Trap]++
			}
		}
	}
	for trap := range 9 {
		if traps[trap] < 5 {
			t.Errorf("trap %d came %d times alone: the states try too little", trap, traps[trap])
		}
	}
}

// altered is a state with another value somewhere.
func altered(r *rand.Rand, m impl.Module, was impl.Vm) impl.Vm {
	vm := cloneVm(was)
	places := placesIn(&vm)[1:]
	if vm.Status == impl.StDone {
		places = placesIn(&vm)
	}
	if len(places) > 0 {
		kind := []int{impl.VRec, impl.VRec, r.Intn(6)}[r.Intn(3)]
		*places[r.Intn(len(places))] = randomOk(r, m, kind, len(vm.Heap))
	}
	return vm
}

func TestManyStatesAgainstEachOther(t *testing.T) {
	r := rand.New(rand.NewSource(17))
	alike := map[bool]int{}
	for range 60 {
		m := randomProgram(r)
		for range 8 {
			vm := randomState(r, m)
			group := []impl.Vm{vm, moved(r, m, vm), altered(r, m, vm), altered(r, m, moved(r, m, vm)), spoiled(r, m, vm), randomState(r, m)}
			for i, a := range group {
				checkCanon(t, m, a)
				for _, b := range group[i:] {
					want := checkAlikeByLaw(t, "two of a group", m, a, b)
					alike[want]++
					if same := sameVm(impl.Canon(m, a), impl.Canon(m, b)); same != want && impl.VmOk(m, a) {
						t.Fatalf("Canons of %+v\nand %+v\nof %v are the same: %v", a, b, m, same)
					}
				}
			}
		}
	}
	if alike[true] < 1000 || alike[false] < 1000 {
		t.Errorf("states are alike or not %v times: they try too little", alike)
	}
}

// smallStates are all states with two locals and three records of one field, each of these nil or a record.
func smallStates() []impl.Vm {
	var out []impl.Vm
	for n := range 4 * 4 * 4 * 4 * 4 {
		digit := func(place int) impl.Value {
			if k := n >> (2 * place) & 3; k < 3 {
				return rec(k)
			}
			return impl.Value{}
		}
		vm := at(0, vals(digit(0), digit(1)), nil, 0)
		vm.Heap, vm.Made = []impl.Rec{record(digit(2)), record(digit(3)), record(digit(4))}, 3
		out = append(out, vm)
	}
	return out
}

// leastName is the first in order of all names that a small state has when its records change about; fields that
// nobody reaches are left out. Two states are alike if they have the same.
func leastName(vm impl.Vm) string {
	met := metByLaw(vm)
	var names []string
	for _, to := range [][]int{{0, 1, 2}, {0, 2, 1}, {1, 0, 2}, {1, 2, 0}, {2, 0, 1}, {2, 1, 0}} {
		other := renamed(vm, func(n int) int { return to[n] })
		fields := make([]string, 3)
		for n, r := range other.Heap {
			if slices.Contains(met, n) {
				fields[to[n]] = fmt.Sprint(r.Fields)
			}
		}
		names = append(names, fmt.Sprint(other.Frames[0].Locals, fields))
	}
	return slices.Min(names)
}

func TestAllSmallStates(t *testing.T) {
	m := mod("func 0 2; nil; return")
	states := smallStates()
	names := make([]string, len(states))
	canonOf, nameOf := map[string]string{}, map[string]string{}
	for i, vm := range states {
		checkCanon(t, m, vm)
		name, canon := leastName(vm), fmt.Sprint(impl.Canon(m, vm))
		if other, ok := canonOf[name]; ok && other != canon {
			t.Fatalf("two Canons of %+v: %s, %s", vm, canon, other)
		}
		if other, ok := nameOf[canon]; ok && other != name {
			t.Fatalf("one Canon of two states: %+v, %s, %s", vm, name, other)
		}
		names[i], canonOf[name], nameOf[canon] = name, canon, name
	}
	for i, a := range states {
		for j := i % 11; j < len(states); j += 11 {
			if got := impl.Alike(m, a, states[j]); got != (names[i] == names[j]) {
				t.Fatalf("%+v and %+v are alike: %v", a, states[j], got)
			}
		}
	}
}

func FuzzLikeness(f *testing.F) {
	r := rand.New(rand.NewSource(18))
	for _, m := range append(someModules(), several(), stateModule(), alikeModule(), randomProgram(r), randomProgram(r)) {
		f.Add(told(m), int64(1))
	}
	f.Fuzz(func(t *testing.T, b []byte, seed int64) {
		m, ok := impl.Load(b)
		if !ok {
			return
		}
		if impl.Verify(m).Code != impl.OK {
			checkCanon(t, m, impl.Vm{Status: impl.StDone})
			return
		}
		r := rand.New(rand.NewSource(seed))
		for range 5 {
			vm := randomState(r, m)
			twin, other := moved(r, m, vm), altered(r, m, vm)
			checkAlike(t, "moved", m, vm, twin, true)
			checkAlikeByLaw(t, "altered", m, twin, other)
			for _, x := range []impl.Vm{vm, twin, other, spoiled(r, m, vm)} {
				checkCanon(t, m, x)
			}
			if vm.Steps < impl.MaxSteps {
				checkAlike(t, "a step", m, impl.Step(m, vm), impl.Step(m, twin), true)
			}
		}
	})
}
