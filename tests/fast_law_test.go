package tests

import (
	"slices"
	"testing"

	"loop.example/g00094/impl"
)

// entering is what RunFast is asked: code, the state that it is run from, and fuel.
type entering struct {
	m    impl.Module
	c    impl.Fast
	vm   impl.Vm
	fuel int
}

func (e entering) run() (impl.Vm, impl.Left) { return impl.RunFast(e.m, e.c, e.vm, e.fuel) }

func (e entering) clone() entering {
	return entering{cloneModule(e.m), cloneFast(e.c), cloneVm(e.vm), e.fuel}
}

// entersByLaw is Enters by the document's words.
func entersByLaw(m impl.Module, c impl.Fast, vm impl.Vm) bool {
	if !fastOkByLaw(m, c) || !vmOkByLaw(m, vm) || vm.Status != 0 {
		return false
	}
	last := vm.Frames[len(vm.Frames)-1]
	return last.Func == c.Func && last.Pc == c.Entry
}

// going is how code goes on behind an op.
type going int

const (
	goesOn going = iota
	leaves
	answers
	breaks
)

// racing is code at work, by the document's words.
type racing struct {
	entering
	vals  []impl.Value
	nums  []int
	at    int
	steps int
}

// racingOf has the registers as they are ahead of the first op.
func racingOf(e entering) *racing {
	w := &racing{entering: e.clone(), nums: make([]int, e.c.Nums)}
	last := w.vm.Frames[len(w.vm.Frames)-1]
	w.vals = slices.Concat(last.Locals, last.Stack)
	for len(w.vals) < e.c.Vals {
		w.vals = append(w.vals, impl.Value{})
	}
	return w
}

// leavesIf is for ops that do nothing but leave now and then.
func leavesIf(b bool) going {
	if b {
		return leaves
	}
	return goesOn
}

// put gives a register what was worked out, unless that traps.
func (w *racing) put(d int, x outcome) going {
	if x.trap == 0 {
		w.vals[d] = x.v
	}
	return leavesIf(x.trap != 0)
}

func (w *racing) putNumber(d int, x outcome) going {
	if x.trap == 0 {
		w.nums[d] = x.v.N
	}
	return leavesIf(x.trap != 0)
}

// do does an op that works on registers alone; others are done elsewhere.
func (w *racing) do(x impl.FOp) going {
	switch x.Op {
	case 1:
		return w.put(x.D, gives(x.V))
	case 2:
		return w.put(x.D, gives(w.vals[x.A]))
	case 3:
		return w.putNumber(x.D, gives(x.V))
	case 4:
		return w.putNumber(x.D, gives(num(w.nums[x.A])))
	case 5:
		if w.vals[x.A].Kind != 1 {
			return leaves
		}
		return w.putNumber(x.D, gives(w.vals[x.A]))
	case 6:
		return w.put(x.D, gives(num(w.nums[x.A])))
	case 7, 8, 9, 10:
		return w.put(x.D, operations()[x.Op-7].law(w.vals[x.A], w.vals[x.B]))
	case 11:
		return w.put(x.D, gives(bool01(w.vals[x.A] == w.vals[x.B])))
	case 12:
		return w.put(x.D, notByLaw(w.vals[x.A]))
	case 13, 14, 15:
		return w.putNumber(x.D, operations()[x.Op-13].law(num(w.nums[x.A]), num(w.nums[x.B])))
	case 16:
		return w.put(x.D, lessByLaw(num(w.nums[x.A]), num(w.nums[x.B])))
	case 22:
		return leavesIf(w.vals[x.A] != fun(x.B))
	}
	return w.doMore(x)
}

// doMore does an op that works on the state, or that goes elsewhere.
func (w *racing) doMore(x impl.FOp) going {
	switch x.Op {
	case 17, 18, 19, 20, 21:
		return w.doRecord(x)
	case 23:
		w.at = x.A
	case 24:
		v := w.vals[x.A]
		if v == truth(1) {
			w.at = x.B
		}
		return leavesIf(v.Kind != 2)
	case 25:
		return leavesIf(w.steps-1 >= w.fuel)
	case 26:
		return leaves
	case 27:
		return answers
	case 28:
		if len(w.vm.Out) == 200 {
			return leaves
		}
		w.vm.Out = append(w.vm.Out, textByLaw(w.vals[x.A], w.vm.Heap))
	case 29:
		return leavesIf(24-len(w.vm.Frames) < x.A)
	}
	return goesOn
}

// doRecord does the ops for records.
func (w *racing) doRecord(x impl.FOp) going {
	switch x.Op {
	case 17, 20:
		if w.vm.Made == 120 {
			return leaves
		}
		w.vm.Made++
	case 21:
		if len(w.vm.Heap)+1 > w.vm.Made {
			return breaks
		}
	case 18:
		out, trap := recordsByLaw(&w.vm, ins(impl.OpGet, x.B), vals(w.vals[x.A]))
		return w.put(x.D, outcome{append(out, impl.Value{})[0], trap})
	case 19:
		_, trap := recordsByLaw(&w.vm, ins(impl.OpPut, x.D), vals(w.vals[x.A], w.vals[x.B]))
		return leavesIf(trap != 0)
	}
	if x.Op != 20 {
		w.vm.Heap = append(w.vm.Heap, record(make([]impl.Value, x.A)...))
		w.vals[x.D] = rec(len(w.vm.Heap) - 1)
	}
	return goesOn
}

// left is what comes where op x leaves by its exit, or answers.
func (w *racing) left(x impl.FOp, how going) (impl.Vm, impl.Left) {
	vm, told := w.vm, impl.Left{Kind: 5, Steps: w.steps}
	vm.Frames = vm.Frames[:len(vm.Frames)-1]
	switch {
	case how == leaves:
		built := rebuildByLaw(leaving{w.m, w.c, x.X, w.vals, w.nums, w.vm.Heap})
		vm.Frames, vm.Heap = append(vm.Frames, built.Frames...), built.Heap
		told.Kind, told.Exit, told.Spec = w.c.Exits[x.X].Kind, x.X, w.c.Exits[x.X].Spec
	case len(vm.Frames) == 0:
		vm.Status, vm.Value = 1, w.vals[x.A]
	default:
		below := &vm.Frames[len(vm.Frames)-1]
		below.Stack = append(below.Stack, w.vals[x.A])
	}
	vm.Steps = min(vm.Steps+w.steps, 50000)
	return vm, told
}

// runFastByLaw is RunFast by the document's words.
func runFastByLaw(e entering) (impl.Vm, impl.Left) {
	if !entersByLaw(e.m, e.c, e.vm) || !within(e.fuel, 0, 50000) {
		return impl.Vm{}, impl.Left{}
	}
	w := racingOf(e)
	for {
		x := w.c.Ops[w.at]
		w.at++
		w.steps++
		switch how := w.do(x); how {
		case breaks:
			return impl.Vm{}, impl.Left{}
		case leaves, answers:
			vm, told := w.left(x, how)
			if !vmOkByLaw(e.m, vm) {
				return impl.Vm{}, impl.Left{}
			}
			return vm, told
		}
	}
}

// checkEnters holds Enters of anything against the law, and tells what it answers.
func checkEnters(t *testing.T, m impl.Module, c impl.Fast, vm impl.Vm) bool {
	t.Helper()
	got := impl.Enters(m, c, vm)
	if want := entersByLaw(m, c, vm); got != want {
		t.Fatalf("Enters of %+v\nin %+v: %v, not %v", c, vm, got, want)
	}
	return got
}

// checkSafe asks promises 9 and 33 of what code came to, without the law, and that the frames below, what was printed,
// and what was counted are not lost.
func checkSafe(t *testing.T, e entering, got impl.Vm, told impl.Left) {
	t.Helper()
	if told == (impl.Left{}) {
		if !sameVm(got, impl.Vm{}) {
			t.Fatalf("%+v\ncomes to %+v, and tells nothing", e, got)
		}
		return
	}
	if !impl.VmOk(e.m, got) {
		t.Fatalf("%+v\ncomes to what is not ok: %+v", e, got)
	}
	below, up, whole := len(e.vm.Frames)-1, 0, len(e.vm.Frames)-2
	if told.Kind != impl.LfReturn {
		up, whole = len(e.c.Exits[told.Exit].Frames), below
		if !impl.ExitHolds(e.m, e.c, told.Exit, got) {
			t.Fatalf("%+v\nleaves by exit %d, which does not hold in %+v", e, told.Exit, got)
		}
	}
	if len(got.Frames) != below+up {
		t.Fatalf("%+v\nhas %d frames behind %+v, not %d and %d", e, len(got.Frames), told, below, up)
	}
	if whole > 0 && !slices.EqualFunc(got.Frames[:whole], e.vm.Frames[:whole], sameFrame) {
		t.Fatalf("%+v\nchanges frames below: %+v", e, got)
	}
	if len(got.Out) < len(e.vm.Out) || !slices.Equal(got.Out[:len(e.vm.Out)], e.vm.Out) || got.Made < e.vm.Made || len(got.Heap) < len(e.vm.Heap) {
		t.Fatalf("%+v\nloses what was printed or made: %+v", e, got)
	}
	if (got.Status == impl.StDone) != (told.Kind == impl.LfReturn && below == 0) || told.Steps < 1 {
		t.Fatalf("%+v\ncomes to %+v with %+v", e, got, told)
	}
}

// checkFast holds RunFast of anything against the law, asks promises 9 and 33 of it, and gives what it answers.
func checkFast(t *testing.T, e entering) (impl.Vm, impl.Left) {
	t.Helper()
	got, told := e.run()
	want, wantTold := runFastByLaw(e)
	if !sameVm(got, want) || told != wantTold {
		t.Fatalf("RunFast of %+v\nof %v\ncomes to %+v\nwith %+v, not\n%+v\nwith %+v", e, e.m, got, told, want, wantTold)
	}
	checkSafe(t, e, got, told)
	if ran := told != (impl.Left{}); ran && !checkEnters(t, e.m, e.c, e.vm) {
		t.Fatalf("%+v\nruns, and is not entered", e)
	}
	return got, told
}
