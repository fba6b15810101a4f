package tests

import (
	"fmt"
	"math/rand"
	"slices"
	"testing"

	"loop.example/g00094/impl"
)

// plainSteps is how far the plain machine is followed.
const plainSteps = 1500

// looksAlike is asked ahead of likeness, as it is told sooner.
func looksAlike(a impl.Vm, b impl.Vm) bool {
	stands := func(f impl.Frame, g impl.Frame) bool { return f.Func == g.Func && f.Pc == g.Pc }
	return a.Status == b.Status && a.Made == b.Made && len(a.Out) == len(b.Out) && slices.EqualFunc(a.Frames, b.Frames, stands)
}

// stepsTo tells in how many steps the plain machine comes from a state to one alike another one; -1 where it does not.
func stepsTo(m impl.Module, from impl.Vm, to impl.Vm) int {
	vm := cloneVm(from)
	vm.Steps = 0
	for n := range plainSteps {
		if looksAlike(vm, to) && alikeByLaw(m, vm, to) {
			return n
		}
		if vm.Status != impl.StRun {
			break
		}
		vm = stepByLaw(m, vm)
	}
	return -1
}

// checkMeaning asks promise 11 of code that was made and that a state enters: what it comes to is alike something that
// the plain machine comes to from there. It gives what the code came to.
func checkMeaning(t *testing.T, e entering) (impl.Vm, impl.Left) {
	t.Helper()
	if !checkEnters(t, e.m, e.c, e.vm) {
		t.Fatalf("%v: %+v\nis not entered by %s", e.m, e.vm, impl.FastText(e.m, e.c))
	}
	got, told := checkFast(t, e)
	if told == (impl.Left{}) {
		t.Fatalf("%v: nothing comes of %+v\nby %s", e.m, e.vm, impl.FastText(e.m, e.c))
	}
	if stepsTo(e.m, e.vm, got) == -1 {
		t.Fatalf("%v: %+v\nand fuel %d come by %s\nto %+v\nwith %+v, to which the plain machine does not come", e.m, e.vm, e.fuel, impl.FastText(e.m, e.c), got, told)
	}
	return got, told
}

// checkLeaving asks of code that left by an exit why it did: what a trap is told for traps, what a guess is told for is
// not as was guessed, a call calls, and a pause stands where a loop begins.
func checkLeaving(t *testing.T, e entering, got impl.Vm, told impl.Left) {
	t.Helper()
	if told.Kind == impl.LfReturn {
		return
	}
	last := got.Frames[len(got.Frames)-1]
	x := e.m.Funcs[last.Func].Code[last.Pc]
	// The state may have no step left.
	fresh := cloneVm(got)
	fresh.Steps = 0
	next := impl.Step(e.m, fresh)
	fine := false
	switch told.Kind {
	case impl.ExTrap:
		fine = next.Status == impl.StTrap
	case impl.ExGuard:
		s, seen := sightByLaw(e.m, got)
		fine = seen && told.Spec.Func == last.Func && told.Spec.Pc == last.Pc && (s.Seen != 1 || s.Target != told.Spec.Target)
	case impl.ExCall:
		fine = x.Op == impl.OpCall || x.Op == impl.OpInvoke
	case impl.ExPause:
		fine = slices.Contains(impl.HeadsOf(e.m, last.Func), last.Pc) && told.Steps > e.fuel
	}
	if !fine {
		t.Fatalf("%v: %+v\nleaves by %+v, in %+v", e.m, e, told, got)
	}
}

// inTandem runs a program by code wherever that enters, and step by step elsewhere, and gives the last state, and how
// often code left in which way. Behind an exit a step is done, so that it goes on.
func inTandem(t *testing.T, m impl.Module, args []impl.Value, codes []impl.Fast, fuel func() int) (impl.Vm, [6]int) {
	t.Helper()
	vm, _ := impl.Start(m, args)
	var ways [6]int
	for range 400 {
		if vm.Status != impl.StRun {
			break
		}
		vm.Steps = 0
		at := slices.IndexFunc(codes, func(c impl.Fast) bool { return impl.Enters(m, c, vm) })
		if at >= 0 {
			e := entering{m, codes[at], vm, fuel()}
			got, told := checkMeaning(t, e)
			checkLeaving(t, e, got, told)
			ways[told.Kind]++
			vm = got
			vm.Steps = 0
			if told.Kind == impl.LfReturn {
				continue
			}
		}
		vm = impl.Step(m, vm)
	}
	return vm, ways
}

// checkTandem holds the end of a run by code against that of a plain run.
func checkTandem(t *testing.T, r *rand.Rand, m impl.Module, args []impl.Value, how style) [6]int {
	t.Helper()
	codes := allTranslated(m, how)
	for _, c := range codes {
		mustBeOk(t, fmt.Sprintf("translated %+v", how), m, c, true)
	}
	vm, ways := inTandem(t, m, args, codes, func() int { return []int{0, 1, 7, 50, 300}[r.Intn(5)] })
	if plain := impl.Run(m, args, 4000); vm.Status != impl.StRun && plain.Status != impl.StRun && !impl.Alike(m, vm, plain) {
		t.Fatalf("%v with %v, %+v: comes to %+v, not %+v", m, args, how, vm, plain)
	}
	return ways
}

// TestTranslatedProgramsMeanWhatTheyDid asks promise 11 of programs as people write them.
func TestTranslatedProgramsMeanWhatTheyDid(t *testing.T) {
	r := rand.New(rand.NewSource(48))
	var ways [6]int
	for _, x := range append(wholeRuns(), recordRuns()...) {
		for _, how := range someStyles() {
			for n, count := range checkTandem(t, r, x.m, x.args, how) {
				ways[n] += count
			}
		}
	}
	for kind := impl.ExTrap; kind <= impl.LfReturn; kind++ {
		if ways[kind] < 10 {
			t.Errorf("ways in which code left: %v: the programs try too little", ways)
		}
	}
}

// TestManyTranslatedPrograms asks it of many.
func TestManyTranslatedPrograms(t *testing.T) {
	r := rand.New(rand.NewSource(49))
	var ways [6]int
	for n := range 300 {
		m := []func(r *rand.Rand) impl.Module{randomProgram, mixedProgram}[n%2](r)
		for kind, count := range checkTandem(t, r, m, randomArgs(r, m), someStyles()[n%len(someStyles())]) {
			ways[kind] += count
		}
	}
	for kind := impl.ExTrap; kind <= impl.LfReturn; kind++ {
		if ways[kind] < 40 {
			t.Errorf("ways in which code left: %v: the programs try too little", ways)
		}
	}
}

// TestTranslatedCodeInDrawnStates asks it from states that no run need come to: full of records, texts or frames.
func TestTranslatedCodeInDrawnStates(t *testing.T) {
	r := rand.New(rand.NewSource(50))
	var ways [6]int
	for n := range 120 {
		m := randomProgram(r)
		for _, c := range allTranslated(m, someStyles()[n%len(someStyles())]) {
			e := entering{m, c, stateAt(r, m, c), edge(r, 200)}
			got, told := checkMeaning(t, e)
			checkLeaving(t, e, got, told)
			ways[told.Kind]++
		}
	}
	for kind := impl.ExTrap; kind <= impl.LfReturn; kind++ {
		if ways[kind] < 10 {
			t.Errorf("ways in which code left: %v: the states try too little", ways)
		}
	}
}

// stateAt is a drawn state that stands at the entry of code.
func stateAt(r *rand.Rand, m impl.Module, c impl.Fast) impl.Vm {
	vm := randomState(r, m)
	for vm.Status != impl.StRun {
		vm = randomState(r, m)
	}
	high := depthsByLaw(m, c.Func)[c.Entry]
	vm.Frames[len(vm.Frames)-1] = frame(c.Func, c.Entry,
		randomValues(r, m, m.Funcs[c.Func].Locals, len(vm.Heap)), randomValues(r, m, high, len(vm.Heap)))
	return vm
}
