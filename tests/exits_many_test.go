package tests

import (
	"math"
	"math/rand"
	"slices"
	"testing"

	"loop.example/g00094/impl"
)

// randomHeap are records of a state of m, as many as there may be, or fewer.
func randomHeap(r *rand.Rand, m impl.Module) []impl.Rec {
	heap := make([]impl.Rec, edge(r, impl.MaxMade))
	for i := range heap {
		heap[i].Fields = randomValues(r, m, r.Intn(impl.MaxFields+1), len(heap))
	}
	return heap
}

func randomNumbers(r *rand.Rand, n int) []int {
	out := make([]int, n)
	for i := range out {
		out[i] = []int{0, 1, -1, 77, impl.MaxNum, -impl.MaxNum}[r.Intn(6)]
	}
	return out
}

// randomLeaving leaves random code by one of its exits; it is ok but for the room that the heap has.
func randomLeaving(r *rand.Rand, m impl.Module) leaving {
	c := randomFast(r, m)
	for len(c.Exits) == 0 {
		c = randomFast(r, m)
	}
	heap, x := randomHeap(r, m), r.Intn(len(c.Exits))
	if r.Intn(2) == 0 {
		tangle(r, c.Exits[x])
	}
	return leaving{m, c, x, randomValues(r, m, c.Vals, len(heap)), randomNumbers(r, c.Nums), heap}
}

// tangle lets some sources of an exit name records, if it has any, so that most of these are reached.
func tangle(r *rand.Rand, e impl.Exit) {
	for _, list := range sourceLists(e) {
		for i := range list {
			if len(e.Recs) > 0 && r.Intn(3) == 0 {
				list[i] = recSrc(r.Intn(len(e.Recs)))
			}
		}
	}
}

// spoiledLeaving has one thing changed somewhere; it is ok still now and then.
func spoiledLeaving(r *rand.Rand, was leaving) leaving {
	l := was.clone()
	switch r.Intn(8) {
	case 0:
		l.x += []int{1, -1, 2, 9, -9, math.MaxInt, math.MinInt}[r.Intn(7)]
	case 1:
		l.vals = append(l.vals, randomValue(r))[r.Intn(2):]
	case 2:
		l.nums = append(l.nums, r.Intn(9))[r.Intn(2):]
	case 3:
		if len(l.nums) > 0 {
			l.nums[r.Intn(len(l.nums))] = []int{1000000001, -1000000001, math.MaxInt, math.MinInt, 5}[r.Intn(5)]
		}
	case 4:
		if len(l.vals) > 0 {
			l.vals[r.Intn(len(l.vals))] = []impl.Value{randomValue(r), rec(len(l.heap)), rec(len(l.heap) - 1)}[r.Intn(3)]
		}
	case 5:
		l.c = spoiledFast(r, l.c)
	case 6:
		l.heap = append(l.heap, record(make([]impl.Value, r.Intn(9))...))[r.Intn(2):]
	case 7:
		if len(l.heap) > 0 {
			f := &l.heap[r.Intn(len(l.heap))]
			f.Fields = append(f.Fields, randomValue(r))[r.Intn(2):]
		}
	}
	return l
}

// TestManyExits holds exits of code that nobody made, and what is not ok, against the law, and asks promise 12 of them.
func TestManyExits(t *testing.T) {
	r := rand.New(rand.NewSource(42))
	records, ups, oks := map[int]int{}, map[int]int{}, map[bool]int{}
	refused, filled := 0, 0
	for range 150 {
		m := randomProgram(r)
		for range 10 {
			l := randomLeaving(r, m)
			if !checkRebuild(t, l) {
				refused++
				continue
			}
			heap := l.rebuild().Heap
			if n := len(heap) - len(l.heap); n > 0 && len(heap) == impl.MaxMade {
				filled++
			}
			records[min(len(heap)-len(l.heap), 9)]++
			ups[len(l.c.Exits[l.x].Frames)]++
			for range 4 {
				oks[checkRebuild(t, spoiledLeaving(r, l))]++
			}
		}
	}
	if refused < 20 || filled < 3 || oks[true] < 500 || oks[false] < 1000 {
		t.Errorf("%d without room, %d just filled up, spoiled ones built or not %v times: they try too little", refused, filled, oks)
	}
	for n := range 4 {
		if records[n] < 10 || ups[n+1] < 50 {
			t.Errorf("so many records %v, so many frames %v: they try too little", records, ups)
		}
	}
	if records[9] < 20 {
		t.Errorf("so many records %v: they try too little", records)
	}
}

// TestManyStatesAtExits asks in states, ok or not, whether an exit holds there; those that Rebuild built among them.
func TestManyStatesAtExits(t *testing.T) {
	r := rand.New(rand.NewSource(43))
	holds := map[bool]int{}
	for range 150 {
		m := randomProgram(r)
		for range 10 {
			l := randomLeaving(r, m)
			e := l.c.Exits[l.x]
			checkHolds(t, m, l.c, l.x, randomState(r, m))
			vm := randomState(r, m)
			if vm.Status == impl.StRun {
				// The exit's frames in place of as many, of all but the first, or above them.
				n := max(len(vm.Frames)-r.Intn(len(e.Frames)+1), 0)
				vm.Frames = append(slices.Clone(vm.Frames[:n]), nilFrames(e)[r.Intn(2)*r.Intn(len(e.Frames)):]...)
			}
			holds[checkHolds(t, m, l.c, l.x, vm)]++
			checkHolds(t, m, l.c, l.x, spoiled(r, m, vm))
			checkHolds(t, m, spoiledFast(r, l.c), l.x, vm)
			checkHolds(t, m, l.c, l.x+[]int{1, -1, 8}[r.Intn(3)], vm)
		}
	}
	if holds[true] < 200 || holds[false] < 200 {
		t.Errorf("exits hold or not %v times: they try too little", holds)
	}
}

// apart is a state whose last frames are told by an exit: some of its records are not made, the others stand in the
// heap of the leaving.
type apart struct {
	leaving
	below  []impl.Frame
	places map[int]int
	unmade []int
}

// takenApart takes the last frames of a state that runs apart: what they have comes through registers, constants and
// records that are not made, which nobody else names.
func takenApart(r *rand.Rand, m impl.Module, vm impl.Vm) apart {
	up := 1 + r.Intn(min(impl.MaxUp, len(vm.Frames)))
	split := len(vm.Frames) - up
	a := apart{leaving: leaving{m: m}, places: map[int]int{}}
	kept := metByLaw(impl.Vm{Frames: vm.Frames[:split], Heap: vm.Heap})
	seldom := 1 + r.Intn(60)
	for _, n := range r.Perm(len(vm.Heap)) {
		if len(vm.Heap)-len(kept) > impl.MaxRecs || r.Intn(seldom) == 0 {
			kept = metByLaw(impl.Vm{Frames: frames(frame(0, 0, namesOf(append(kept, n)), nil)), Heap: vm.Heap})
		}
	}
	slices.Sort(kept)
	for place, n := range kept {
		a.places[n] = place
	}
	for _, n := range r.Perm(len(vm.Heap)) {
		if _, stays := a.places[n]; !stays {
			a.unmade = append(a.unmade, n)
		}
	}
	whole := renamed(vm, func(n int) int {
		if place, stays := a.places[n]; stays {
			return place
		}
		return -1 - slices.Index(a.unmade, n)
	})
	a.below = whole.Frames[:split]
	for _, n := range kept {
		a.heap = append(a.heap, whole.Heap[n])
	}
	a.tell(r, whole, whole.Frames[split:])
	return a
}

// namesOf are values that name these records.
func namesOf(places []int) []impl.Value {
	var out []impl.Value
	for _, n := range places {
		out = append(out, rec(n))
	}
	return out
}

// tell makes the code whose only exit tells these frames; records that are not made have numbers below 0 there.
func (a *apart) tell(r *rand.Rand, whole impl.Vm, list []impl.Frame) {
	e := impl.Exit{Kind: impl.ExPause}
	for _, f := range list {
		e.Frames = append(e.Frames, exFrame(f.Func, f.Pc, a.sources(r, f.Locals), a.sources(r, f.Stack)))
	}
	for _, n := range a.unmade {
		e.Recs = append(e.Recs, exRec(a.sources(r, whole.Heap[n].Fields)...))
	}
	fewest := a.m.Funcs[list[0].Func].Locals
	for len(a.vals) < fewest {
		a.vals = append(a.vals, impl.Value{})
	}
	a.c = impl.Fast{Func: list[0].Func, Vals: len(a.vals), Nums: len(a.nums), Ops: []impl.FOp{{Op: impl.FExit}}, Exits: []impl.Exit{e}}
}

func (a *apart) sources(r *rand.Rand, values []impl.Value) []impl.Src {
	var out []impl.Src
	for _, v := range values {
		switch {
		case v.Kind == impl.VRec && v.N < 0:
			out = append(out, recSrc(-1-v.N))
		case v.Kind != impl.VRec && r.Intn(3) == 0:
			out = append(out, constSrc(v))
		case v.Kind == impl.VInt && r.Intn(2) == 0:
			if !slices.Contains(a.nums, v.N) {
				a.nums = append(a.nums, v.N)
			}
			out = append(out, numSrc(slices.Index(a.nums, v.N)))
		default:
			if !slices.Contains(a.vals, v) {
				a.vals = append(a.vals, v)
			}
			out = append(out, valSrc(slices.Index(a.vals, v)))
		}
	}
	return out
}

// checkApart takes a state that runs apart and builds it again: what comes is alike it. It tells how many records were
// built.
func checkApart(t *testing.T, r *rand.Rand, m impl.Module, vm impl.Vm) int {
	t.Helper()
	a := takenApart(r, m, vm)
	if !checkRebuild(t, a.leaving) {
		t.Fatalf("%v: of %+v\nnothing is built again by %+v", m, vm, a)
	}
	again := a.rebuild()
	n := len(again.Heap) - len(a.heap)
	again.Frames = append(slices.Clone(a.below), again.Frames...)
	again.Made, again.Out = vm.Made, vm.Out
	if !checkAlikeByLaw(t, "built again", m, vm, again) {
		t.Fatalf("%v: %+v\nis built again as %+v", m, vm, again)
	}
	if !checkHolds(t, m, a.c, 0, vm) || !checkHolds(t, m, a.c, 0, again) {
		t.Fatalf("%v: the exit does not hold in %+v", m, vm)
	}
	return n
}

// TestStatesAreBuiltAgain asks promise 12 of states that runs come to, and of such as none need come to.
func TestStatesAreBuiltAgain(t *testing.T) {
	r := rand.New(rand.NewSource(44))
	records := map[int]int{}
	for _, x := range recordRuns() {
		for steps := range 60 {
			if vm := impl.Run(x.m, x.args, steps); vm.Status == impl.StRun {
				records[min(checkApart(t, r, x.m, vm), 9)]++
			}
		}
	}
	for range 100 {
		m := randomProgram(r)
		args := randomArgs(r, m)
		for steps := 0; steps < 300; steps += 1 + r.Intn(30) {
			if vm := impl.Run(m, args, steps); vm.Status == impl.StRun {
				records[min(checkApart(t, r, m, vm), 9)]++
			}
		}
		for range 5 {
			if vm := randomState(r, m); vm.Status == impl.StRun {
				records[min(checkApart(t, r, m, vm), 9)]++
			}
		}
	}
	for _, n := range []int{0, 1, 2, 9} {
		if records[n] < 10 {
			t.Errorf("so many records %v: the states try too little", records)
		}
	}
}

func FuzzExits(f *testing.F) {
	r := rand.New(rand.NewSource(45))
	for _, m := range append(someModules(), several(), codeModule(), planModule(), stateModule(), alikeModule(), randomProgram(r), randomProgram(r)) {
		f.Add(told(m), int64(1))
	}
	f.Fuzz(func(t *testing.T, b []byte, seed int64) {
		m, ok := impl.Load(b)
		if !ok {
			return
		}
		if impl.Verify(m).Code != impl.OK {
			checkRebuild(t, leaving{m: m, c: retCode(0, 0, 20, 0), vals: make([]impl.Value, 20)})
			return
		}
		r := rand.New(rand.NewSource(seed))
		for range 5 {
			l := randomLeaving(r, m)
			checkRebuild(t, l)
			checkRebuild(t, spoiledLeaving(r, l))
			if vm := randomState(r, m); vm.Status == impl.StRun {
				checkApart(t, r, m, vm)
				checkHolds(t, m, l.c, l.x, vm)
			}
		}
	})
}
