package tests

import (
	"slices"
	"strconv"
	"strings"
	"testing"

	"loop.example/g00094/impl"
)

// mod is the module with these lines, `;` standing between them, and instructions without the blanks ahead.
func mod(lines string) impl.Module {
	var out strings.Builder
	for line := range strings.SplitSeq(lines, ";") {
		line = strings.TrimSpace(line)
		if !strings.HasPrefix(line, "func ") && !strings.HasPrefix(line, "text \"") {
			line = "  " + line
		}
		out.WriteString(line + "\n")
	}
	m, ok := impl.ReadModule(out.String())
	if !ok {
		panic("no module: " + lines)
	}
	return m
}

func vals(list ...impl.Value) []impl.Value { return list }

func record(fields ...impl.Value) impl.Rec { return impl.Rec{Fields: fields} }

func frame(f int, pc int, locals []impl.Value, stack []impl.Value) impl.Frame {
	return impl.Frame{Func: f, Pc: pc, Locals: locals, Stack: stack}
}

func frames(list ...impl.Frame) []impl.Frame { return list }

// sameVm holds an empty list and nil for the same.
func sameVm(a impl.Vm, b impl.Vm) bool {
	return slices.EqualFunc(a.Frames, b.Frames, sameFrame) && slices.EqualFunc(a.Heap, b.Heap, sameRec) &&
		slices.Equal(a.Out, b.Out) && a.Made == b.Made && a.Status == b.Status && a.Trap == b.Trap &&
		a.Value == b.Value && a.Steps == b.Steps
}

func sameFrame(a impl.Frame, b impl.Frame) bool {
	return a.Func == b.Func && a.Pc == b.Pc && slices.Equal(a.Locals, b.Locals) && slices.Equal(a.Stack, b.Stack)
}

func sameRec(a impl.Rec, b impl.Rec) bool { return slices.Equal(a.Fields, b.Fields) }

func cloneVm(vm impl.Vm) impl.Vm {
	vm.Frames = slices.Clone(vm.Frames)
	for i, f := range vm.Frames {
		vm.Frames[i].Locals = slices.Clone(f.Locals)
		vm.Frames[i].Stack = slices.Clone(f.Stack)
	}
	vm.Heap = slices.Clone(vm.Heap)
	for i, r := range vm.Heap {
		vm.Heap[i].Fields = slices.Clone(r.Fields)
	}
	vm.Out = slices.Clone(vm.Out)
	return vm
}

func checkVm(t *testing.T, name string, got impl.Vm, want impl.Vm) {
	t.Helper()
	if !sameVm(got, want) {
		t.Errorf("%s:\n  %+v, not\n  %+v", name, got, want)
	}
}

func goodByLaw(m impl.Module) bool {
	return impl.ModuleOk(m) && verifyByLaw(m) == (impl.Trouble{})
}

// startByLaw is Start by the document's words.
func startByLaw(m impl.Module, args []impl.Value) (impl.Vm, bool) {
	if !goodByLaw(m) || len(args) != m.Funcs[0].Params {
		return impl.Vm{}, false
	}
	locals := make([]impl.Value, m.Funcs[0].Locals)
	for i, v := range args {
		if !okByLaw(m, v, 0) {
			return impl.Vm{}, false
		}
		locals[i] = v
	}
	return impl.Vm{Frames: frames(frame(0, 0, locals, nil))}, true
}

// valueLists are all lists of values of a state, as they lie there.
func valueLists(vm impl.Vm) [][]impl.Value {
	var out [][]impl.Value
	for _, f := range vm.Frames {
		out = append(out, f.Locals, f.Stack)
	}
	for _, r := range vm.Heap {
		out = append(out, r.Fields)
	}
	return out
}

// valuesOf are all values of a state, wherever they stand.
func valuesOf(vm impl.Vm) []impl.Value {
	return append(vals(vm.Value), slices.Concat(valueLists(vm)...)...)
}

// within tells whether n is one of least .. most.
func within(n int, least int, most int) bool { return n >= least && n <= most }

// vmOkByLaw is VmOk by the document's words.
func vmOkByLaw(m impl.Module, vm impl.Vm) bool {
	if !goodByLaw(m) || len(vm.Heap) > 120 || !within(vm.Made, len(vm.Heap), 120) || len(vm.Out) > 200 || !within(vm.Steps, 0, 50000) {
		return false
	}
	for _, r := range vm.Heap {
		if len(r.Fields) > 6 {
			return false
		}
	}
	for _, s := range vm.Out {
		if !okByLaw(m, text(s), 0) {
			return false
		}
	}
	for _, v := range valuesOf(vm) {
		if !okByLaw(m, v, len(vm.Heap)) {
			return false
		}
	}
	switch vm.Status {
	case 0:
		return vm.Trap == 0 && vm.Value == impl.Value{} && framesByLaw(m, vm.Frames)
	case 1:
		return vm.Trap == 0 && len(vm.Frames) == 0
	case 2:
		return within(vm.Trap, 1, 8) && vm.Value == impl.Value{} && framesByLaw(m, vm.Frames)
	}
	return false
}

func framesByLaw(m impl.Module, list []impl.Frame) bool {
	known := map[int][]int{}
	for i, f := range list {
		if !within(f.Func, 0, len(m.Funcs)-1) || len(f.Locals) != m.Funcs[f.Func].Locals {
			return false
		}
		if known[f.Func] == nil {
			known[f.Func] = depthsByLaw(m, f.Func)
		}
		code, depths := m.Funcs[f.Func].Code, known[f.Func]
		if !within(f.Pc, 0, len(code)-1) || depths[f.Pc] == -1 {
			return false
		}
		if i == len(list)-1 {
			if len(f.Stack) != depths[f.Pc] {
				return false
			}
			continue
		}
		if f.Pc == 0 || depths[f.Pc-1] == -1 || !within(code[f.Pc-1].Op, 23, 24) || len(f.Stack)+1 != depths[f.Pc] {
			return false
		}
	}
	return within(len(list), 1, 24)
}

// stepByLaw is Step of a state that is ok, by the document's words. What an instruction does is done to a copy,
// which is thrown away with a trap.
func stepByLaw(m impl.Module, was impl.Vm) impl.Vm {
	if was.Status != 0 || was.Steps == 50000 {
		return cloneVm(was)
	}
	vm := cloneVm(was)
	if trap := doByLaw(m, &vm); trap != 0 {
		vm = cloneVm(was)
		vm.Status, vm.Trap = 2, trap
	}
	vm.Steps = was.Steps + 1
	return vm
}

// doByLaw does the next instruction, and gives its trap; vm may then be half done.
func doByLaw(m impl.Module, vm *impl.Vm) int {
	f := &vm.Frames[len(vm.Frames)-1]
	x := m.Funcs[f.Func].Code[f.Pc]
	takes, _ := usesOf(m, x)
	in := slices.Clone(f.Stack[len(f.Stack)-takes:])
	f.Stack = slices.Clone(f.Stack[:len(f.Stack)-takes])
	f.Pc++
	switch x.Op {
	case impl.OpJump:
		f.Pc = x.A
	case impl.OpIf, impl.OpIfNot:
		if in[0].Kind != 2 {
			return 1
		}
		if in[0].N == map[int]int{impl.OpIf: 1, impl.OpIfNot: 0}[x.Op] {
			f.Pc = x.A
		}
	case impl.OpStore:
		f.Locals[x.A] = in[0]
	case impl.OpCall, impl.OpInvoke:
		return callByLaw(m, vm, x, in)
	case impl.OpReturn:
		vm.Frames = vm.Frames[:len(vm.Frames)-1]
		if len(vm.Frames) == 0 {
			vm.Status, vm.Value = 1, in[0]
			return 0
		}
		below := &vm.Frames[len(vm.Frames)-1]
		below.Stack = append(below.Stack, in[0])
	case impl.OpPrint:
		if len(vm.Out) == 200 {
			return 8
		}
		vm.Out = append(vm.Out, textByLaw(in[0], vm.Heap))
	case impl.OpNew, impl.OpGet, impl.OpPut:
		out, trap := recordsByLaw(vm, x, in)
		f.Stack = append(f.Stack, out...)
		return trap
	default:
		out, trap := laysByLaw(m, f.Locals, x, in)
		f.Stack = append(f.Stack, out...)
		return trap
	}
	return 0
}

func callByLaw(m impl.Module, vm *impl.Vm, x impl.Ins, in []impl.Value) int {
	f := x.A
	if x.Op == impl.OpCall {
		if in[0].Kind != 5 {
			return 1
		}
		f, in = in[0].N, in[1:]
		if m.Funcs[f].Params != x.A {
			return 5
		}
	}
	if len(vm.Frames) == 24 {
		return 6
	}
	locals := append(in, make([]impl.Value, m.Funcs[f].Locals-len(in))...)
	vm.Frames = append(vm.Frames, frame(f, 0, locals, nil))
	return 0
}

func recordsByLaw(vm *impl.Vm, x impl.Ins, in []impl.Value) ([]impl.Value, int) {
	if x.Op == impl.OpNew {
		if vm.Made == 120 {
			return nil, 7
		}
		vm.Made++
		vm.Heap = append(vm.Heap, record(make([]impl.Value, x.A)...))
		return vals(rec(len(vm.Heap) - 1)), 0
	}
	if in[0].Kind != 4 {
		return nil, 1
	}
	fields := vm.Heap[in[0].N].Fields
	if x.A >= len(fields) {
		return nil, 4
	}
	if x.Op == impl.OpGet {
		return vals(fields[x.A]), 0
	}
	fields[x.A] = in[1]
	return nil, 0
}

// laysByLaw is for instructions that do nothing but lay values.
func laysByLaw(m impl.Module, locals []impl.Value, x impl.Ins, in []impl.Value) ([]impl.Value, int) {
	of := func(v impl.Value) ([]impl.Value, int) { return vals(v), 0 }
	with := func(x outcome) ([]impl.Value, int) { return vals(x.v), x.trap }
	switch x.Op {
	case impl.OpInt:
		return of(num(x.A))
	case impl.OpBool:
		return of(truth(x.A))
	case impl.OpText:
		return of(text(m.Texts[x.A]))
	case impl.OpNil:
		return of(impl.Value{})
	case impl.OpFun:
		return of(fun(x.A))
	case impl.OpLoad:
		return of(locals[x.A])
	case impl.OpDup:
		return vals(in[0], in[0]), 0
	case impl.OpSwap:
		return vals(in[1], in[0]), 0
	case impl.OpAdd, impl.OpSub, impl.OpMul, impl.OpLess:
		return with(operations()[x.Op-impl.OpAdd].law(in[0], in[1]))
	case impl.OpSame:
		return of(bool01(in[0] == in[1]))
	case impl.OpNot:
		return with(notByLaw(in[0]))
	}
	return nil, 0
}

// runByLaw is Run by the document's words.
func runByLaw(m impl.Module, args []impl.Value, fuel int) impl.Vm {
	vm, ok := startByLaw(m, args)
	if !ok || !within(fuel, 0, 50000) {
		return impl.Vm{}
	}
	for range fuel {
		if vm.Status == 0 {
			vm = stepByLaw(m, vm)
		}
	}
	return vm
}

// vmTextByLaw is VmText of a state that is ok.
func vmTextByLaw(vm impl.Vm) string {
	out := []string{"run", "done " + textByLaw(vm.Value, vm.Heap), "trap " + strconv.Itoa(vm.Trap)}[vm.Status] + "\n"
	for _, f := range vm.Frames {
		out += "frame " + strconv.Itoa(f.Func) + " " + strconv.Itoa(f.Pc)
		for _, v := range f.Locals {
			out += " " + textByLaw(v, vm.Heap)
		}
		out += " |"
		for _, v := range f.Stack {
			out += " " + textByLaw(v, vm.Heap)
		}
		out += "\n"
	}
	return out + "made " + strconv.Itoa(vm.Made) + " out " + strconv.Itoa(len(vm.Out)) + "\n"
}

// checkState holds all that is told of a state, ok or not, against the law.
func checkState(t *testing.T, m impl.Module, vm impl.Vm) {
	t.Helper()
	ok := vmOkByLaw(m, vm)
	if got := impl.VmOk(m, vm); got != ok {
		t.Fatalf("VmOk of %+v\nof %v: %v", vm, m, got)
	}
	next, want := impl.Vm{}, ""
	if ok {
		next, want = stepByLaw(m, vm), vmTextByLaw(vm)
	}
	got := impl.Step(m, vm)
	if !sameVm(got, next) {
		t.Fatalf("Step of %+v\nof %v:\n  %+v, not\n  %+v", vm, m, got, next)
	}
	if got := impl.VmText(m, vm); got != want {
		t.Fatalf("VmText of %+v: %q, not %q", vm, got, want)
	}
	if ok && !impl.VmOk(m, got) {
		t.Fatalf("Step of %+v\nof %v does not stay ok: %+v", vm, m, got)
	}
	checkCanon(t, m, vm)
}
