package tests

import (
	"slices"
	"testing"

	"loop.example/g00094/impl"
)

// leaving is what Rebuild is asked: code, one of its exits, what stands in the registers, and the heap.
type leaving struct {
	m    impl.Module
	c    impl.Fast
	x    int
	vals []impl.Value
	nums []int
	heap []impl.Rec
}

func (l leaving) rebuild() impl.Vm {
	frames, heap := impl.Rebuild(l.m, l.c, l.x, l.vals, l.nums, l.heap)
	return impl.Vm{Frames: frames, Heap: heap}
}

func cloneHeap(heap []impl.Rec) []impl.Rec { return cloneVm(impl.Vm{Heap: heap}).Heap }

func (l leaving) clone() leaving {
	return leaving{cloneModule(l.m), cloneFast(l.c), l.x, slices.Clone(l.vals), slices.Clone(l.nums), cloneHeap(l.heap)}
}

// fitsByLaw asks all that Rebuild asks of its arguments, by the document's words.
func (l leaving) fitsByLaw() bool {
	if !fastOkByLaw(l.m, l.c) || !within(l.x, 0, len(l.c.Exits)-1) {
		return false
	}
	if len(l.vals) != l.c.Vals || len(l.nums) != l.c.Nums || len(l.heap) > 120 {
		return false
	}
	for _, r := range l.heap {
		if len(r.Fields) > 6 {
			return false
		}
	}
	wrong := func(v impl.Value) bool { return !okByLaw(l.m, v, len(l.heap)) }
	return !slices.ContainsFunc(append(valuesOf(impl.Vm{Heap: l.heap}), l.vals...), wrong) &&
		!slices.ContainsFunc(l.nums, func(n int) bool { return !within(n, -1000000000, 1000000000) })
}

// laidDown has a value for each source. Every record of the exit has a place behind the heap, by its number, whether
// anybody names it or not.
func (l leaving) laidDown(list []impl.Src) []impl.Value {
	var out []impl.Value
	for _, s := range list {
		out = append(out, map[int]func() impl.Value{
			1: func() impl.Value { return s.V },
			2: func() impl.Value { return l.vals[s.N] },
			3: func() impl.Value { return num(l.nums[s.N]) },
			4: func() impl.Value { return rec(len(l.heap) + s.N) },
		}[s.Kind]())
	}
	return out
}

// rebuildByLaw is Rebuild by the document's words: with all records of the exit laid down behind the heap, those that
// likeness does not meet are taken out, and the others put into the order in which it meets them. (Records of the heap
// name none of them, and so stand in nobody's way.)
func rebuildByLaw(l leaving) impl.Vm {
	if !l.fitsByLaw() {
		return impl.Vm{}
	}
	e, n := l.c.Exits[l.x], len(l.heap)
	whole := impl.Vm{Heap: cloneHeap(l.heap)}
	for _, f := range e.Frames {
		whole.Frames = append(whole.Frames, frame(f.Func, f.Pc, l.laidDown(f.Locals), l.laidDown(f.Stack)))
	}
	for _, r := range e.Recs {
		whole.Heap = append(whole.Heap, record(l.laidDown(r.Fields)...))
	}
	met := slices.DeleteFunc(metByLaw(whole), func(place int) bool { return place < n })
	if n+len(met) > 120 {
		return impl.Vm{}
	}
	out := renamed(whole, func(place int) int {
		if place < n {
			return place
		}
		return n + slices.Index(met, place)
	})
	heap := out.Heap[:n:n]
	for _, place := range met {
		heap = append(heap, out.Heap[place])
	}
	out.Heap = heap
	return out
}

// becoming tells which record of an answer each record of the exit became, those first that are met first.
type becoming struct {
	leaving
	became map[int]int
	met    []int
}

// fit tells whether these are the values of these sources, and notes which record became which.
func (b *becoming) fit(list []impl.Src, values []impl.Value) bool {
	return slices.EqualFunc(list, values, func(s impl.Src, v impl.Value) bool {
		switch s.Kind {
		case impl.SrConst:
			return v == s.V
		case impl.SrVal:
			return v == b.vals[s.N]
		case impl.SrNum:
			return v == num(b.nums[s.N])
		}
		if _, known := b.became[s.N]; !known {
			b.became[s.N] = v.N
			b.met = append(b.met, s.N)
		}
		return v == rec(b.became[s.N])
	})
}

// checkBuilt asks promise 12 of what was built, without the law: the frames are those of the exit, the heap is as it
// was, and behind it stands what was not made, each once, and nothing else.
func checkBuilt(t *testing.T, l leaving, got impl.Vm) {
	t.Helper()
	e, n := l.c.Exits[l.x], len(l.heap)
	b := becoming{leaving: l, became: map[int]int{}}
	framesFit := slices.EqualFunc(e.Frames, got.Frames, func(x impl.ExFrame, f impl.Frame) bool {
		return x.Func == f.Func && x.Pc == f.Pc && b.fit(x.Locals, f.Locals) && b.fit(x.Stack, f.Stack)
	})
	if !framesFit {
		t.Fatalf("%+v\nbuilds other frames than the exit tells: %+v", l, got.Frames)
	}
	if len(got.Heap) < n || !slices.EqualFunc(got.Heap[:n], l.heap, sameRec) {
		t.Fatalf("%+v\ndoes not leave the heap as it was: %+v", l, got.Heap)
	}
	// What was met as the next one stands at the next place: so no two are one, and none is one of the heap's.
	for i := 0; i < len(b.met); i++ {
		number := b.met[i]
		if b.became[number] != n+i || n+i >= len(got.Heap) || !b.fit(e.Recs[number].Fields, got.Heap[n+i].Fields) {
			t.Fatalf("%+v\nbuilds record %d as something else, or elsewhere: %+v", l, number, got.Heap)
		}
	}
	if len(got.Heap) != n+len(b.met) {
		t.Fatalf("%+v\nbuilds %d records for %v", l, len(got.Heap)-n, b.met)
	}
	got.Made = len(got.Heap)
	if !impl.VmOk(l.m, got) || !impl.ExitHolds(l.m, l.c, l.x, got) {
		t.Fatalf("%+v\nbuilds what is no state at the exit: %+v", l, got)
	}
}

// checkRebuild holds Rebuild of anything against the law, asks promise 12 of it, and tells whether something was built.
func checkRebuild(t *testing.T, l leaving) bool {
	t.Helper()
	got := l.rebuild()
	if want := rebuildByLaw(l); !sameVm(got, want) {
		t.Fatalf("Rebuild of %+v\nbuilds %+v, %+v, not\n%+v, %+v", l, got.Frames, got.Heap, want.Frames, want.Heap)
	}
	if len(got.Frames) == 0 {
		if len(got.Heap) != 0 {
			t.Fatalf("Rebuild of %+v\nbuilds no frames, and yet %+v", l, got.Heap)
		}
		return false
	}
	checkBuilt(t, l, got)
	return true
}

// holdsByLaw is ExitHolds by the document's words.
func holdsByLaw(m impl.Module, c impl.Fast, x int, vm impl.Vm) bool {
	if !fastOkByLaw(m, c) || !within(x, 0, len(c.Exits)-1) || !vmOkByLaw(m, vm) || vm.Status != 0 {
		return false
	}
	e := c.Exits[x]
	for up := 1; up <= len(e.Frames); up++ {
		if up > len(vm.Frames) {
			return false
		}
		told, stands := e.Frames[len(e.Frames)-up], vm.Frames[len(vm.Frames)-up]
		if told.Func != stands.Func || told.Pc != stands.Pc {
			return false
		}
	}
	return true
}

// checkHolds holds ExitHolds of anything against the law, and tells what it answers.
func checkHolds(t *testing.T, m impl.Module, c impl.Fast, x int, vm impl.Vm) bool {
	t.Helper()
	got := impl.ExitHolds(m, c, x, vm)
	if want := holdsByLaw(m, c, x, vm); got != want {
		t.Fatalf("ExitHolds of exit %d of %+v\nin %+v: %v, not %v", x, c, vm, got, want)
	}
	return got
}
