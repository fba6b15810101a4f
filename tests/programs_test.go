package tests

import (
	"maps"
	"math/rand"
	"slices"
	"testing"

	"loop.example/g00094/impl"
)

// writer writes a function of a random program. Most of what it writes fits the values that come there, so that
// runs go far; now and then something does not.
type writer struct {
	r     *rand.Rand
	m     impl.Module
	fn    impl.Func
	stack int
}

// kindsOfLocals is which kind a local is meant to have, by its number.
var kindsOfLocals = []int{impl.VInt, impl.VRec, impl.VFun, impl.VText, impl.VInt, impl.VBool, impl.VRec, impl.VInt}

// counters are locals that loops count with; nothing else is stored there.
const counters = 8

func (w *writer) add(op int, a int) int {
	x := ins(op, a)
	takes, lays := usesOf(w.m, x)
	w.stack += lays - takes
	w.fn.Code = append(w.fn.Code, x)
	return len(w.fn.Code) - 1
}

// here lets the jump at this place lead to what comes next.
func (w *writer) here(at int) { w.fn.Code[at].A = len(w.fn.Code) }

// local is one that is meant to have this kind.
func (w *writer) local(kind int) int {
	for {
		if k := w.r.Intn(len(kindsOfLocals)); kindsOfLocals[k] == kind {
			return k
		}
	}
}

// value lays one of this kind.
func (w *writer) value(kind int, depth int) {
	if w.r.Intn(60) == 0 {
		kind = w.r.Intn(6)
	}
	if depth == 0 || w.stack > 10 || w.r.Intn(3) == 0 {
		w.plain(kind)
		return
	}
	switch w.r.Intn(8) {
	case 0:
		if kind == impl.VInt || kind == impl.VText {
			w.called(depth - 1)
			return
		}
	case 1:
		w.value(impl.VRec, depth-1)
		w.add(impl.OpGet, w.r.Intn(3))
		return
	case 2:
		w.value(kind, depth-1)
		w.value(kind, depth-1)
		w.add(impl.OpSwap, 0)
		w.add(impl.OpDrop, 0)
		return
	case 3:
		w.value(kind, depth-1)
		w.add(impl.OpDup, 0)
		w.add(impl.OpDrop, 0)
		return
	}
	w.worked(kind, depth)
}

// worked lays what comes of other values.
func (w *writer) worked(kind int, depth int) {
	switch kind {
	case impl.VInt:
		w.value(impl.VInt, depth-1)
		w.value(impl.VInt, depth-1)
		w.add(impl.OpAdd+w.r.Intn(3), 0)
	case impl.VText:
		w.value(impl.VText, depth-1)
		w.value(impl.VText, depth-1)
		w.add(impl.OpAdd, 0)
	case impl.VBool:
		w.truth(depth)
	default:
		w.plain(kind)
	}
}

func (w *writer) truth(depth int) {
	switch w.r.Intn(3) {
	case 0:
		kind := []int{impl.VInt, impl.VInt, impl.VText}[w.r.Intn(3)]
		w.value(kind, depth-1)
		w.value(kind, depth-1)
		w.add(impl.OpLess, 0)
	case 1:
		w.value(w.r.Intn(6), depth-1)
		w.value(w.r.Intn(6), depth-1)
		w.add(impl.OpSame, 0)
	default:
		w.value(impl.VBool, depth-1)
		w.add(impl.OpNot, 0)
	}
}

// plain lays a value that does not come of others.
func (w *writer) plain(kind int) {
	if kind != impl.VNil && w.r.Intn(2) == 0 {
		w.add(impl.OpLoad, w.local(kind))
		return
	}
	switch kind {
	case impl.VInt:
		w.add(impl.OpInt, []int{0, 1, 2, -1, 3, 10, 40000, impl.MaxNum}[w.r.Intn(8)])
	case impl.VBool:
		w.add(impl.OpBool, w.r.Intn(2))
	case impl.VText:
		w.add(impl.OpText, w.r.Intn(len(w.m.Texts)))
	case impl.VRec:
		w.add(impl.OpNew, w.r.Intn(4))
	case impl.VFun:
		w.add(impl.OpFun, w.r.Intn(len(w.m.Funcs)))
	default:
		w.add(impl.OpNil, 0)
	}
}

// called lays what a function answers; by OpCall it is sometimes called with too many values.
func (w *writer) called(depth int) {
	f := w.r.Intn(len(w.m.Funcs))
	params := w.m.Funcs[f].Params
	if w.r.Intn(2) == 0 {
		w.params(params, depth)
		w.add(impl.OpInvoke, f)
		return
	}
	w.add(impl.OpFun, f)
	if w.r.Intn(20) == 0 {
		params++
	}
	w.params(params, depth)
	w.add(impl.OpCall, params)
}

func (w *writer) params(n int, depth int) {
	for i := range n {
		w.value(kindsOfLocals[i], min(depth, 1))
	}
}

// statement leaves the stack as high as it was.
func (w *writer) statement(depth int) {
	switch w.r.Intn(7) {
	case 0, 1:
		kind := kindsOfLocals[w.r.Intn(len(kindsOfLocals))]
		w.value(kind, 2)
		w.add(impl.OpStore, w.local(kind))
	case 2:
		w.value(w.r.Intn(6), 2)
		w.add(impl.OpPrint, 0)
	case 3:
		w.value(impl.VRec, 1)
		w.value(w.r.Intn(6), 1)
		w.add(impl.OpPut, w.r.Intn(3))
	case 4:
		w.called(1)
		w.add(impl.OpDrop, 0)
	case 5:
		if depth > 0 {
			w.either(depth - 1)
		}
	case 6:
		if depth > 0 {
			w.loop(depth - 1)
		}
	}
}

func (w *writer) either(depth int) {
	w.value(impl.VBool, 2)
	branch := w.add([]int{impl.OpIf, impl.OpIfNot}[w.r.Intn(2)], 0)
	w.statement(depth)
	end := w.add(impl.OpJump, 0)
	w.here(branch)
	w.statement(depth)
	w.here(end)
}

func (w *writer) loop(depth int) {
	counter := counters + depth
	w.add(impl.OpInt, 0)
	w.add(impl.OpStore, counter)
	head := w.add(impl.OpLoad, counter)
	w.add(impl.OpInt, []int{1, 2, 5, 30}[w.r.Intn(4)])
	w.add(impl.OpLess, 0)
	leave := w.add(impl.OpIfNot, 0)
	w.statement(depth)
	w.statement(depth)
	w.add(impl.OpLoad, counter)
	w.add(impl.OpInt, 1)
	w.add(impl.OpAdd, 0)
	w.add(impl.OpStore, counter)
	w.add(impl.OpJump, head)
	w.here(leave)
}

// function fills the locals that are no parameters, goes through some statements, and answers a number.
func (w *writer) function(params int) impl.Func {
	w.fn = impl.Func{Params: params, Locals: impl.MaxLocals}
	w.stack = 0
	for i := params; i < len(kindsOfLocals); i++ {
		if w.r.Intn(12) > 0 {
			w.given(kindsOfLocals[i])
			w.add(impl.OpStore, i)
		}
	}
	for range w.r.Intn(5) {
		w.statement(2)
	}
	w.value(impl.VInt, 2)
	w.add(impl.OpReturn, 0)
	return w.fn
}

// given lays a value that no local gives.
func (w *writer) given(kind int) {
	for {
		n := len(w.fn.Code)
		w.plain(kind)
		if w.fn.Code[n].Op != impl.OpLoad {
			return
		}
		w.fn.Code = w.fn.Code[:n]
		w.stack--
	}
}

// randomProgram is a good module whose runs go far, each time another one.
func randomProgram(r *rand.Rand) impl.Module {
	for {
		m := impl.Module{Texts: []string{"a", "", "b c", xs(31)}}
		for range 1 + r.Intn(4) {
			m.Funcs = append(m.Funcs, impl.Func{Params: r.Intn(4), Locals: impl.MaxLocals})
		}
		for f := range m.Funcs {
			w := writer{r: r, m: m}
			m.Funcs[f] = w.function(m.Funcs[f].Params)
		}
		if impl.Verify(m).Code == impl.OK {
			return m
		}
	}
}

// randomArgs are what function 0 is meant to be given, now and then of another kind.
func randomArgs(r *rand.Rand, m impl.Module) []impl.Value {
	args := make([]impl.Value, m.Funcs[0].Params)
	for i := range args {
		kind := kindsOfLocals[i]
		if r.Intn(10) == 0 {
			kind = r.Intn(6)
		}
		args[i] = randomOk(r, m, kind, 0)
	}
	return args
}

// randomOk is a value of this kind that is ok with so many records; nil where there is none.
func randomOk(r *rand.Rand, m impl.Module, kind int, recs int) impl.Value {
	switch kind {
	case impl.VInt:
		return num([]int{0, 1, 2, -3, 10, 31623, impl.MaxNum, -impl.MaxNum}[r.Intn(8)])
	case impl.VBool:
		return truth(r.Intn(2))
	case impl.VText:
		return text([]string{"", "a", "ab", xs(30), xs(31), xs(60)}[r.Intn(6)])
	case impl.VFun:
		return fun(r.Intn(len(m.Funcs)))
	case impl.VRec:
		if recs > 0 {
			return rec(r.Intn(recs))
		}
	}
	return impl.Value{}
}

// randomValues are all of one kind every other time, so that more of what is done with two of them fits.
func randomValues(r *rand.Rand, m impl.Module, n int, recs int) []impl.Value {
	out := make([]impl.Value, n)
	kind, alike := r.Intn(6), r.Intn(2) == 0
	for i := range out {
		if !alike {
			kind = r.Intn(6)
		}
		out[i] = randomOk(r, m, kind, recs)
	}
	return out
}

// edge is a number of 0 .. most, at or near the end of it every other time.
func edge(r *rand.Rand, most int) int {
	switch r.Intn(6) {
	case 0:
		return most
	case 1:
		return max(most-1, 0)
	case 2:
		return r.Intn(most + 1)
	}
	return r.Intn(min(most, 3) + 1)
}

// placesOf are where a frame of m may stand, the last one or one that waits.
func placesOf(m impl.Module, last bool) []impl.Frame {
	var out []impl.Frame
	for f, fn := range m.Funcs {
		depths := depthsByLaw(m, f)
		for pc := range fn.Code {
			waits := pc > 0 && within(fn.Code[pc-1].Op, impl.OpCall, impl.OpInvoke) && depths[pc-1] != -1
			switch {
			case depths[pc] == -1:
			case last:
				out = append(out, frame(f, pc, make([]impl.Value, fn.Locals), make([]impl.Value, depths[pc])))
			case waits:
				out = append(out, frame(f, pc, make([]impl.Value, fn.Locals), make([]impl.Value, depths[pc]-1)))
			}
		}
	}
	return out
}

// anyOp is one of these places: each Op that stands at one of them comes as often as each other.
func anyOp(r *rand.Rand, m impl.Module, places []impl.Frame) impl.Frame {
	byOp := map[int][]impl.Frame{}
	for _, f := range places {
		op := m.Funcs[f.Func].Code[f.Pc].Op
		byOp[op] = append(byOp[op], f)
	}
	list := byOp[slices.Sorted(maps.Keys(byOp))[r.Intn(len(byOp))]]
	return list[r.Intn(len(list))]
}

// randomState is a state of a good module that is ok, whether a run comes to it or not.
func randomState(r *rand.Rand, m impl.Module) impl.Vm {
	vm := impl.Vm{Heap: make([]impl.Rec, edge(r, impl.MaxMade)), Steps: edge(r, impl.MaxSteps)}
	vm.Made = len(vm.Heap) + edge(r, impl.MaxMade-len(vm.Heap))
	for i := range vm.Heap {
		vm.Heap[i].Fields = randomValues(r, m, r.Intn(impl.MaxFields+1), len(vm.Heap))
	}
	for range edge(r, impl.MaxOut) {
		vm.Out = append(vm.Out, []string{"", "a", "{2}", xs(60)}[r.Intn(4)])
	}
	vm.Status = []int{impl.StRun, impl.StRun, impl.StRun, impl.StRun, impl.StRun, impl.StDone, impl.StTrap}[r.Intn(7)]
	if vm.Status == impl.StDone {
		vm.Value = randomOk(r, m, r.Intn(6), len(vm.Heap))
		return vm
	}
	if vm.Status == impl.StTrap {
		vm.Trap = 1 + r.Intn(8)
	}
	ends, waiting := placesOf(m, true), placesOf(m, false)
	if len(waiting) > 0 {
		for range edge(r, impl.MaxFrames-1) {
			vm.Frames = append(vm.Frames, waiting[r.Intn(len(waiting))])
		}
	}
	vm.Frames = append(vm.Frames, anyOp(r, m, ends))
	for i, f := range vm.Frames {
		vm.Frames[i].Locals = randomValues(r, m, len(f.Locals), len(vm.Heap))
		vm.Frames[i].Stack = randomValues(r, m, len(f.Stack), len(vm.Heap))
	}
	return vm
}

// spoiled is a state with one thing changed somewhere; it is seldom ok still.
func spoiled(r *rand.Rand, m impl.Module, was impl.Vm) impl.Vm {
	vm := cloneVm(was)
	numbers := []*int{&vm.Made, &vm.Status, &vm.Trap, &vm.Steps}
	values := []*impl.Value{&vm.Value}
	lists := []*[]impl.Value{}
	for i := range vm.Frames {
		f := &vm.Frames[i]
		numbers = append(numbers, &f.Func, &f.Pc)
		lists = append(lists, &f.Locals, &f.Stack)
	}
	for i := range vm.Heap {
		lists = append(lists, &vm.Heap[i].Fields)
	}
	switch r.Intn(5) {
	case 0:
		*numbers[r.Intn(len(numbers))] += []int{1, -1, 2, 200, -200}[r.Intn(5)]
	case 1:
		*values[0] = randomValue(r)
	case 2:
		if len(lists) > 0 {
			list := lists[r.Intn(len(lists))]
			*list = append(slices.Clone(*list), randomValue(r))
			if r.Intn(2) == 0 && len(*list) > 1 {
				*list = (*list)[1:]
			}
		}
	case 3:
		vm.Out = append(vm.Out, []string{"a", xs(61), "\n"}[r.Intn(3)])
	case 4:
		if len(vm.Frames) > 0 {
			i := r.Intn(len(vm.Frames))
			vm.Frames[i], vm.Frames[0] = vm.Frames[0], vm.Frames[i]
			vm.Frames = append(vm.Frames, vm.Frames[:r.Intn(len(vm.Frames)+1)]...)
		}
	}
	return vm
}

// TestManyPrograms holds runs against the law, and asks promises 2 and 3 of them.
func TestManyPrograms(t *testing.T) {
	r := rand.New(rand.NewSource(5))
	ops, traps, steps := map[int]int{}, map[int]int{}, 0
	for range 1000 {
		m := randomProgram(r)
		args := randomArgs(r, m)
		vm, ok := impl.Start(m, args)
		if want, _ := startByLaw(m, args); !ok || !sameVm(vm, want) {
			t.Fatalf("%v with %v starts as %+v", m, args, vm)
		}
		for range 300 {
			if vm.Status != impl.StRun {
				break
			}
			last := vm.Frames[len(vm.Frames)-1]
			ops[m.Funcs[last.Func].Code[last.Pc].Op]++
			next := impl.Step(m, vm)
			if !sameVm(next, stepByLaw(m, vm)) {
				t.Fatalf("%v: Step of %+v\n  %+v", m, vm, next)
			}
			vm = next
			checkHeights(t, m, vm)
			if r.Intn(20) == 0 {
				checkVm(t, "so many steps", impl.Run(m, args, vm.Steps), vm)
			}
		}
		checkVm(t, "all steps", impl.Run(m, args, vm.Steps), vm)
		traps[vm.Trap]++
		steps += vm.Steps
	}
	for op := impl.OpInt; op <= impl.OpPrint; op++ {
		if ops[op] < 100 {
			t.Errorf("Op %d came %d times alone: the programs try too little", op, ops[op])
		}
	}
	for _, trap := range []int{0, impl.TrType, impl.TrOver, impl.TrText, impl.TrField, impl.TrArgs, impl.TrDeep} {
		if traps[trap] == 0 {
			t.Errorf("trap %d never came: the programs try too little", trap)
		}
	}
}

// TestManyLongRuns lets programs run to their end, or far.
func TestManyLongRuns(t *testing.T) {
	r := rand.New(rand.NewSource(6))
	for range 60 {
		m := randomProgram(r)
		args := randomArgs(r, m)
		vm := impl.Run(m, args, 3000)
		checkVm(t, "a long run", vm, runByLaw(m, args, 3000))
		checkHeights(t, m, vm)
		more := impl.Run(m, args, 4000)
		for range 1000 {
			vm = impl.Step(m, vm)
		}
		checkVm(t, "a longer run", more, vm)
	}
}

// TestManyStates holds states that no run need come to against the law, and such as are not ok.
func TestManyStates(t *testing.T) {
	r := rand.New(rand.NewSource(7))
	traps, oks := map[int]int{}, map[bool]int{}
	for range 300 {
		m := randomProgram(r)
		for range 20 {
			vm := randomState(r, m)
			if !impl.VmOk(m, vm) {
				t.Fatalf("%v: %+v is refused", m, vm)
			}
			checkState(t, m, vm)
			if vm.Status == impl.StRun {
				traps[impl.Step(m, vm).Trap]++
			}
			wrong := spoiled(r, m, vm)
			checkState(t, m, wrong)
			oks[impl.VmOk(m, wrong)]++
		}
	}
	for trap := range 9 {
		if traps[trap] < 5 {
			t.Errorf("trap %d came %d times alone: the states try too little", trap, traps[trap])
		}
	}
	if oks[true] < 500 || oks[false] < 500 {
		t.Errorf("spoiled states are ok or not %v times: they try too little", oks)
	}
}

func FuzzMachine(f *testing.F) {
	r := rand.New(rand.NewSource(8))
	for _, m := range append(someModules(), everyOp(), several(), stateModule(), randomProgram(r), randomProgram(r)) {
		f.Add(told(m), int64(1), 20)
	}
	f.Fuzz(func(t *testing.T, b []byte, seed int64, fuel int) {
		m, ok := impl.Load(b)
		if !ok {
			return
		}
		r := rand.New(rand.NewSource(seed))
		args := randomArgs(r, m)
		if fuel > 500 && fuel <= impl.MaxSteps {
			fuel %= 500
		}
		checkVm(t, "a run", impl.Run(m, args, fuel), runByLaw(m, args, fuel))
		if impl.Verify(m).Code != impl.OK {
			checkState(t, m, impl.Vm{Status: impl.StDone})
			return
		}
		for range 5 {
			vm := randomState(r, m)
			checkState(t, m, vm)
			checkState(t, m, spoiled(r, m, vm))
		}
	})
}
