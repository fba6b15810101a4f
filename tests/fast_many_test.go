package tests

import (
	"math/rand"
	"slices"
	"testing"

	"loop.example/g00094/impl"
)

// turned is code with some things changed here and there, that is still ok: other registers, other ops of the same
// form, ops changed about, other sources.
func turned(r *rand.Rand, m impl.Module, was impl.Fast) impl.Fast {
	c := cloneFast(was)
	for range 1 + r.Intn(6) {
		next := cloneFast(c)
		turnOnce(r, m, &next)
		if impl.FastOk(m, next) {
			c = next
		}
	}
	return c
}

func turnOnce(r *rand.Rand, m impl.Module, c *impl.Fast) {
	x := &c.Ops[r.Intn(len(c.Ops))]
	switch r.Intn(6) {
	case 0:
		*fieldOf(x, fieldNames[r.Intn(len(fieldNames))]) = r.Intn(max(c.Vals, len(c.Exits), 6))
	case 1:
		alike := slices.DeleteFunc(numbersFrom(1, 29), func(op int) bool { return opRows[op] != opRows[x.Op] })
		x.Op = alike[r.Intn(len(alike))]
	case 2:
		other := &c.Ops[r.Intn(len(c.Ops))]
		*x, *other = *other, *x
	case 3:
		*x = []impl.FOp{
			{Op: impl.FMade}, {Op: impl.FMake}, {Op: impl.FNew}, {Op: impl.FMoveNum, D: r.Intn(3), A: r.Intn(3)},
			{Op: impl.FNum, D: r.Intn(3), V: randomOk(r, m, impl.VInt, 0)},
		}[r.Intn(5)]
	case 4:
		w := coder{r: r, m: m, c: *c, guesses: guessesOf(m), ends: placesOf(m, true), waiting: placesOf(m, false)}
		if len(c.Exits) > 0 {
			c.Exits[r.Intn(len(c.Exits))] = w.exit()
		}
	case 5:
		*c = spoiledFast(r, *c)
	}
}

// TestManyCodesRun asks promises 9 and 33 of code that nobody made, from drawn states, with drawn fuel, and holds what
// comes against the law.
func TestManyCodesRun(t *testing.T) {
	r := rand.New(rand.NewSource(52))
	var ways [6]int
	for range 150 {
		m := randomProgram(r)
		for range 10 {
			c := randomFast(r, m)
			for range 3 {
				_, told := checkFast(t, entering{m, c, stateAt(r, m, c), edge(r, 300)})
				ways[told.Kind]++
			}
		}
	}
	for kind, n := range ways {
		if n < 50 {
			t.Errorf("Kind %d came %d times alone of %v: the code tries too little", kind, n, ways)
		}
	}
}

// TestTurnedCodesRun asks it of code that was made, and then turned here and there, which goes further.
func TestTurnedCodesRun(t *testing.T) {
	r := rand.New(rand.NewSource(53))
	var ways [6]int
	ops, far := map[int]int{}, 0
	for n := range 150 {
		m := randomProgram(r)
		for _, c := range allTranslated(m, someStyles()[n%len(someStyles())]) {
			for range 4 {
				e := entering{m, turned(r, m, c), stateAt(r, m, c), edge(r, 400)}
				_, told := checkFast(t, e)
				ways[told.Kind]++
				if told.Steps > 30 {
					far++
				}
				for _, x := range e.c.Ops[:min(told.Steps, len(e.c.Ops))] {
					ops[x.Op]++
				}
			}
		}
	}
	for kind, n := range ways {
		if n < 30 {
			t.Errorf("Kind %d came %d times alone of %v: the code tries too little", kind, n, ways)
		}
	}
	for op := impl.FConst; op <= impl.FDeep; op++ {
		if ops[op] < 5 {
			t.Errorf("Op %d came %d times alone: the code tries too little", op, ops[op])
		}
	}
	if far < 50 {
		t.Errorf("%d runs of more than 30 steps: the code goes too little", far)
	}
}

// TestManyStatesAtEntries asks in states, ok or not, whether code, ok or not, enters there, and runs it.
func TestManyStatesAtEntries(t *testing.T) {
	r := rand.New(rand.NewSource(54))
	enters, runs := map[bool]int{}, map[bool]int{}
	for range 150 {
		m := randomProgram(r)
		for range 6 {
			c := randomFast(r, m)
			vm := stateAt(r, m, c)
			for _, e := range []entering{
				{m, c, vm, edge(r, 50)}, {m, c, spoiled(r, m, vm), 50}, {m, spoiledFast(r, c), vm, 50}, {m, c, randomState(r, m), 50}, {m, c, trappedIn(vm), 50},
				{randomProgram(r), c, vm, 50}, {m, c, vm, -1 - r.Intn(3)}, {m, c, vm, impl.MaxSteps + 1 + r.Intn(3)},
			} {
				enters[checkEnters(t, e.m, e.c, e.vm)]++
				_, told := checkFast(t, e)
				runs[told != impl.Left{}]++
			}
		}
	}
	if enters[true] < 500 || enters[false] < 500 || runs[true] < 500 || runs[false] < 500 {
		t.Errorf("entered %v, run %v: they try too little", enters, runs)
	}
}

// filled is a state with its records, its texts, its frames or its steps up to their limits, or just below.
func filled(r *rand.Rand, m impl.Module, vm impl.Vm) impl.Vm {
	switch r.Intn(4) {
	case 0:
		for vm.Made < impl.MaxMade-r.Intn(2) {
			vm.Made++
			if r.Intn(2) == 0 {
				vm.Heap = append(vm.Heap, record(randomValues(r, m, r.Intn(7), len(vm.Heap))...))
			}
		}
	case 1:
		for len(vm.Out) < impl.MaxOut-r.Intn(2) {
			vm.Out = append(vm.Out, "o")
		}
	case 2:
		waiting := placesOf(m, false)
		for len(waiting) > 0 && len(vm.Frames) < impl.MaxFrames-r.Intn(4) {
			vm.Frames = append(frames(waiting[r.Intn(len(waiting))]), vm.Frames...)
		}
	case 3:
		vm.Steps = impl.MaxSteps - r.Intn(5)
	}
	return vm
}

// TestCodesInStatesAtTheirLimits asks promises 9 and 11 in states that are full, or nearly so.
func TestCodesInStatesAtTheirLimits(t *testing.T) {
	r := rand.New(rand.NewSource(55))
	var ways [6]int
	for n := range 200 {
		m := randomProgram(r)
		for _, c := range allTranslated(m, someStyles()[n%len(someStyles())]) {
			vm := filled(r, m, stateAt(r, m, c))
			e := entering{m, c, vm, edge(r, 200)}
			got, told := checkMeaning(t, e)
			checkLeaving(t, e, got, told)
			ways[told.Kind]++
			checkFast(t, entering{m, turned(r, m, c), vm, edge(r, 200)})
		}
	}
	for kind := impl.ExTrap; kind <= impl.LfReturn; kind++ {
		if ways[kind] < 20 {
			t.Errorf("ways in which code left: %v: the states try too little", ways)
		}
	}
}

// Code that was run twice comes to the same, and what came of it can be entered again where it stands at the entry.
func TestCodeIsRunAgain(t *testing.T) {
	r := rand.New(rand.NewSource(56))
	again := 0
	for n := range 80 {
		m := randomProgram(r)
		for _, c := range allTranslated(m, someStyles()[n%len(someStyles())]) {
			e := entering{m, c, stateAt(r, m, c), r.Intn(60)}
			first, told := checkFast(t, e)
			second, toldToo := e.run()
			if !sameVm(first, second) || told != toldToo {
				t.Fatalf("%+v comes to %+v and to %+v", e, first, second)
			}
			if impl.Enters(m, c, first) {
				again++
				checkMeaning(t, entering{m, c, first, r.Intn(60)})
			}
		}
	}
	if again < 20 {
		t.Errorf("entered again %d times alone: the code tries too little", again)
	}
}

func FuzzFast(f *testing.F) {
	r := rand.New(rand.NewSource(57))
	for _, m := range append(someModules(), several(), codeModule(), planModule(), stateModule(), alikeModule(), cellModule(), randomProgram(r), randomProgram(r)) {
		f.Add(told(m), int64(1), 20)
	}
	f.Fuzz(func(t *testing.T, b []byte, seed int64, fuel int) {
		m, ok := impl.Load(b)
		if !ok {
			return
		}
		if fuel > 500 && fuel <= impl.MaxSteps {
			fuel %= 500
		}
		if impl.Verify(m).Code != impl.OK {
			checkFast(t, entering{m, retCode(0, 0, 20, 0), stateOn(frame(0, 0, nil, nil)), fuel})
			return
		}
		r := rand.New(rand.NewSource(seed))
		for range 3 {
			c := randomFast(r, m)
			checkFast(t, entering{m, c, stateAt(r, m, c), fuel})
		}
		for _, c := range allTranslated(m, someStyles()[r.Intn(len(someStyles()))]) {
			vm := stateAt(r, m, c)
			if fuel >= 0 && fuel <= 500 {
				checkMeaning(t, entering{m, c, vm, fuel})
			}
			checkFast(t, entering{m, turned(r, m, c), vm, fuel})
		}
	})
}
