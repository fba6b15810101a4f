package tests

import (
	"encoding/binary"
	"math"
	"math/rand"
	"slices"
	"testing"

	"loop.example/g00094/impl"
)

// spoiledNumbers is a list with some numbers changed, moved, left out or laid in.
func spoiledNumbers(r *rand.Rand, was []int) []int {
	list := slices.Clone(was)
	for range 1 + r.Intn(2) {
		if len(list) == 0 {
			return list
		}
		at := r.Intn(len(list))
		switch r.Intn(6) {
		case 0, 1:
			list[at] += []int{1, -1, 2, -2, 3, 60, 256, -256, 1 << 32, math.MaxInt, math.MinInt}[r.Intn(11)]
		case 2:
			list = slices.Delete(list, at, min(at+1+r.Intn(4), len(list)))
		case 3:
			list = slices.Insert(list, at, make([]int, 1+r.Intn(4))...)
		case 4:
			other := r.Intn(len(list))
			list[at], list[other] = list[other], list[at]
		case 5:
			list = slices.Insert(list, at, list[at:min(at+r.Intn(9), len(list))]...)
		}
	}
	return list
}

// numberSoup is a list of numbers, most of them small, none of which was ever written.
func numberSoup(r *rand.Rand) []int {
	list := make([]int, r.Intn(40))
	for i := range list {
		switch r.Intn(12) {
		case 0:
			list[i] = r.Intn(40)
		case 1:
			list[i] = 97
		case 2:
			list[i] = []int{-1, 255, 256, 1 << 32, math.MaxInt, math.MinInt}[r.Intn(6)]
		default:
			list[i] = r.Intn(1 + r.Intn(4))
		}
	}
	return list
}

// checkMany asks promise 34 of a thing that is ok, and then of lists that come of its own.
func (k snapshotKind[T]) checkMany(t *testing.T, r *rand.Rand, m impl.Module, x T, read map[bool]int) {
	t.Helper()
	if !k.check(t, m, x) {
		t.Fatalf("%v: %+v is not ok", m, x)
	}
	list := k.write(m, x)
	for range 6 {
		read[k.checkList(t, m, spoiledNumbers(r, list))]++
	}
	k.checkList(t, m, list[:r.Intn(len(list))])
}

// TestManyStatesAreWritten asks promise 34 of the states of runs, and of states that no run need come to.
func TestManyStatesAreWritten(t *testing.T) {
	r := rand.New(rand.NewSource(99))
	k, read, spoilt := vms(), map[bool]int{}, map[bool]int{}
	var kinds [6]int
	var ends [3]int
	for n := range 200 {
		m := anyProgram(r, n)
		args := randomArgs(r, m)
		states := []impl.Vm{randomState(r, m), randomState(r, m), randomState(r, m), impl.Run(m, args, impl.MaxSteps)}
		for range 12 {
			states = append(states, impl.Run(m, args, r.Intn(300)))
		}
		for _, vm := range states {
			k.checkMany(t, r, m, vm, read)
			spoilt[k.check(t, m, spoiled(r, m, vm))]++
			ends[vm.Status]++
			for _, v := range valuesOf(vm) {
				kinds[v.Kind]++
			}
		}
	}
	for range 20000 {
		k.checkList(t, stateModule(), numberSoup(r))
	}
	checkTries(t, "changed lists", read, 1000)
	checkTries(t, "changed states", spoilt, 500)
	if slices.Min(kinds[:]) < 500 || slices.Min(ends[:]) < 300 {
		t.Errorf("values of each Kind %v, states of each Status %v: they try too little", kinds, ends)
	}
}

// checkTries asks that both sides came often enough.
func checkTries(t *testing.T, what string, ok map[bool]int, least int) {
	t.Helper()
	if ok[true] < least || ok[false] < least {
		t.Errorf("%s are ok or not %v times: they try too little", what, ok)
	}
}

// someCodeOf is code of a program that was made, swept, translated or drawn.
func someCodeOf(r *rand.Rand, m impl.Module, n int) []impl.Fast {
	made := allMade(m, somePlansOf(r, m)[n%8])
	out := append(made, allTranslated(m, someStyles()[n%len(someStyles())])...)
	for _, c := range made {
		out = append(out, impl.Sweep(m, c))
	}
	for range 3 {
		c := randomFast(r, m)
		out = append(out, c, turned(r, m, c))
	}
	return out
}

// TestManyCodesAreWritten asks promise 34 of code that was made, swept, or written by hand, and of such as was drawn.
func TestManyCodesAreWritten(t *testing.T) {
	r := rand.New(rand.NewSource(100))
	k, read, spoilt := codes(), map[bool]int{}, map[bool]int{}
	var ops [30]int
	var kinds, sources [5]int
	for n := range 120 {
		m := looseProgram(r, n)
		for _, c := range someCodeOf(r, m, n) {
			k.checkMany(t, r, m, c, read)
			spoilt[k.check(t, m, spoiledFast(r, c))]++
			for op, count := range countsOf(c) {
				ops[op] += count
			}
			for _, e := range c.Exits {
				kinds[e.Kind]++
				for _, s := range slices.Concat(sourceLists(e)...) {
					sources[s.Kind]++
				}
			}
		}
	}
	for range 20000 {
		k.checkList(t, codeModule(), numberSoup(r))
	}
	checkTries(t, "changed lists", read, 600)
	checkTries(t, "changed codes", spoilt, 300)
	if slices.Min(ops[1:]) < 100 || slices.Min(kinds[1:]) < 500 || slices.Min(sources[1:]) < 500 {
		t.Errorf("ops %v, exits of each Kind %v, sources of each Kind %v: they try too little", ops, kinds, sources)
	}
}

// A state that is read goes on as the one that was written, and code that is read does what the other does.
func TestWhatIsReadGoesOnAlike(t *testing.T) {
	r := rand.New(rand.NewSource(101))
	for n := range 60 {
		m := anyProgram(r, n)
		args := randomArgs(r, m)
		at := r.Intn(200)
		vm, _ := impl.ReadVm(m, impl.WriteVm(m, impl.Run(m, args, at)))
		for range 50 {
			vm = impl.Step(m, vm)
		}
		checkVm(t, "a run that was written and read on the way", vm, impl.Run(m, args, at+50))
		for _, c := range allMade(m, boldPlan(r, m)) {
			again, _ := impl.ReadFast(m, impl.WriteFast(m, c))
			e := entering{m, c, stateAt(r, m, c), r.Intn(100)}
			want, wantTold := e.run()
			e.c = again
			got, told := e.run()
			checkVm(t, "code that was written and read", got, want)
			if told != wantTold || impl.FastText(m, again) != impl.FastText(m, c) {
				t.Fatalf("%v: %+v leaves by %+v, not %+v", m, again, told, wantTold)
			}
		}
	}
}

// numbersOfBytes are the numbers that bytes tell, eight bytes each where the first one is 255, otherwise a byte each.
func numbersOfBytes(b []byte) []int {
	var out []int
	for len(b) > 0 {
		if b[0] == 255 && len(b) > 8 {
			out, b = append(out, int(binary.LittleEndian.Uint64(b[1:9]))), b[9:]
			continue
		}
		out, b = append(out, int(b[0])), b[1:]
	}
	return out
}

// bytesOfNumbers are bytes that tell these numbers.
func bytesOfNumbers(list []int) []byte {
	var out []byte
	for _, n := range list {
		if within(n, 0, 254) {
			out = append(out, byte(n))
		} else {
			out = binary.LittleEndian.AppendUint64(append(out, 255), uint64(n))
		}
	}
	return out
}

func FuzzSnapshots(f *testing.F) {
	for i, x := range statesWritten() {
		f.Add(told(x.m), bytesOfNumbers(x.list), int64(i))
	}
	for i, x := range codesWritten() {
		f.Add(told(x.m), bytesOfNumbers(x.list), int64(i))
	}
	f.Fuzz(func(t *testing.T, b []byte, numbers []byte, seed int64) {
		m, _ := impl.Load(b)
		list := numbersOfBytes(numbers)
		vms().checkList(t, m, list)
		codes().checkList(t, m, list)
		if !goodByLaw(m) {
			return
		}
		r := rand.New(rand.NewSource(seed))
		vms().checkMany(t, r, m, randomState(r, m), map[bool]int{})
		codes().checkMany(t, r, m, randomFast(r, m), map[bool]int{})
	})
}
