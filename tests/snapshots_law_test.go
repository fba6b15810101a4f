package tests

import (
	"slices"
	"testing"

	"loop.example/g00094/impl"
)

// listTold is how many items a list has, and what is told of each.
func listTold[T any](list []T, tell func(item T) []int) []int {
	out := []int{len(list)}
	for _, item := range list {
		out = append(out, tell(item)...)
	}
	return out
}

func textTold(s string) []int {
	return listTold([]byte(s), func(b byte) []int { return []int{int(b)} })
}

func valueTold(v impl.Value) []int { return append([]int{v.Kind, v.N}, textTold(v.S)...) }

func srcTold(s impl.Src) []int { return append([]int{s.Kind, s.N}, valueTold(s.V)...) }

func frameTold(f impl.Frame) []int {
	return slices.Concat([]int{f.Func, f.Pc}, listTold(f.Locals, valueTold), listTold(f.Stack, valueTold))
}

func recTold(x impl.Rec) []int { return listTold(x.Fields, valueTold) }

// vmTold are the numbers of a state by the document's words, also of one that is not ok.
func vmTold(vm impl.Vm) []int {
	return slices.Concat(
		listTold(vm.Frames, frameTold), listTold(vm.Heap, recTold), []int{vm.Made}, listTold(vm.Out, textTold),
		[]int{vm.Status, vm.Trap}, valueTold(vm.Value), []int{vm.Steps},
	)
}

func opTold(x impl.FOp) []int {
	return append([]int{x.Op, x.D, x.A, x.B, x.X, x.F, x.P}, valueTold(x.V)...)
}

func exFrameTold(f impl.ExFrame) []int {
	return slices.Concat([]int{f.Func, f.Pc}, listTold(f.Locals, srcTold), listTold(f.Stack, srcTold))
}

func exRecTold(x impl.ExRec) []int { return listTold(x.Fields, srcTold) }

func exitTold(e impl.Exit) []int {
	return slices.Concat(
		[]int{e.Kind, e.Spec.Func, e.Spec.Pc, e.Spec.Kind, e.Spec.Target}, listTold(e.Frames, exFrameTold), listTold(e.Recs, exRecTold),
	)
}

// fastTold are the numbers of code by the document's words, also of such as is not ok.
func fastTold(c impl.Fast) []int {
	return slices.Concat([]int{c.Func, c.Entry, c.Vals, c.Nums}, listTold(c.Ops, opTold), listTold(c.Exits, exitTold))
}

// taker takes numbers from the beginning of a list, as long as there are any.
type taker struct {
	left []int
	bad  bool
}

func (w *taker) number() int {
	if w.bad = w.bad || len(w.left) == 0; w.bad {
		return 0
	}
	n := w.left[0]
	w.left = w.left[1:]
	return n
}

// listTaken takes items one by one. Each has a number at least, so that no list has more items than numbers are left.
func listTaken[T any](w *taker, take func(w *taker) T) []T {
	count := w.number()
	w.bad = w.bad || !within(count, 0, len(w.left))
	var out []T
	for len(out) < count && !w.bad {
		out = append(out, take(w))
	}
	return out
}

func textTaken(w *taker) string {
	return string(listTaken(w, func(w *taker) byte {
		n := w.number()
		w.bad = w.bad || !within(n, 0, 255)
		return byte(n)
	}))
}

func valueTaken(w *taker) impl.Value {
	return impl.Value{Kind: w.number(), N: w.number(), S: textTaken(w)}
}

func srcTaken(w *taker) impl.Src {
	return impl.Src{Kind: w.number(), N: w.number(), V: valueTaken(w)}
}

func frameTaken(w *taker) impl.Frame {
	return impl.Frame{Func: w.number(), Pc: w.number(), Locals: listTaken(w, valueTaken), Stack: listTaken(w, valueTaken)}
}

func recTaken(w *taker) impl.Rec { return impl.Rec{Fields: listTaken(w, valueTaken)} }

func vmTaken(w *taker) impl.Vm {
	return impl.Vm{
		Frames: listTaken(w, frameTaken), Heap: listTaken(w, recTaken), Made: w.number(), Out: listTaken(w, textTaken),
		Status: w.number(), Trap: w.number(), Value: valueTaken(w), Steps: w.number(),
	}
}

func opTaken(w *taker) impl.FOp {
	return impl.FOp{
		Op: w.number(), D: w.number(), A: w.number(), B: w.number(), X: w.number(), F: w.number(), P: w.number(), V: valueTaken(w),
	}
}

func exFrameTaken(w *taker) impl.ExFrame {
	return impl.ExFrame{Func: w.number(), Pc: w.number(), Locals: listTaken(w, srcTaken), Stack: listTaken(w, srcTaken)}
}

func exRecTaken(w *taker) impl.ExRec { return impl.ExRec{Fields: listTaken(w, srcTaken)} }

func specTaken(w *taker) impl.Spec {
	return impl.Spec{Func: w.number(), Pc: w.number(), Kind: w.number(), Target: w.number()}
}

func exitTaken(w *taker) impl.Exit {
	return impl.Exit{Kind: w.number(), Spec: specTaken(w), Frames: listTaken(w, exFrameTaken), Recs: listTaken(w, exRecTaken)}
}

func fastTaken(w *taker) impl.Fast {
	return impl.Fast{
		Func: w.number(), Entry: w.number(), Vals: w.number(), Nums: w.number(), Ops: listTaken(w, opTaken), Exits: listTaken(w, exitTaken),
	}
}

// snapshotKind is a kind of thing that is written as numbers: how the program does it, and how the document has it.
type snapshotKind[T any] struct {
	write func(m impl.Module, x T) []int
	read  func(m impl.Module, list []int) (T, bool)
	ok    func(m impl.Module, x T) bool
	told  func(x T) []int
	taken func(w *taker) T
	same  func(a T, b T) bool
}

func vms() snapshotKind[impl.Vm] {
	return snapshotKind[impl.Vm]{impl.WriteVm, impl.ReadVm, vmOkByLaw, vmTold, vmTaken, sameVm}
}

func codes() snapshotKind[impl.Fast] {
	return snapshotKind[impl.Fast]{impl.WriteFast, impl.ReadFast, fastOkByLaw, fastTold, fastTaken, sameFast}
}

// byLaw is what a list is read as by the document's words.
func (k snapshotKind[T]) byLaw(m impl.Module, list []int) (T, bool) {
	w := taker{left: list}
	x := k.taken(&w)
	if w.bad || len(w.left) > 0 || !k.ok(m, x) {
		return *new(T), false
	}
	return x, true
}

// check holds what a thing is written as, and what its numbers are read as, against the law. It tells whether it is
// written.
func (k snapshotKind[T]) check(t *testing.T, m impl.Module, x T) bool {
	t.Helper()
	ok := k.ok(m, x)
	k.checkBothWays(t, m, x, ok)
	return ok
}

// checkBothWays asks promise 34 of a thing that is ok, and of others that nothing is written of them, nor read of the
// numbers that would be theirs.
func (k snapshotKind[T]) checkBothWays(t *testing.T, m impl.Module, x T, ok bool) {
	t.Helper()
	told := k.told(x)
	var list []int
	var again T
	if ok {
		list, again = told, x
	}
	if got := k.write(m, x); !slices.Equal(got, list) {
		t.Fatalf("%v: %+v\nis written as\n%v, not\n%v", m, x, got, list)
	}
	if got, read := k.read(m, told); read != ok || !k.same(got, again) {
		t.Fatalf("%v: %v\nis read as\n%+v, %v, not\n%+v, %v", m, told, got, read, again, ok)
	}
}

// checkList holds what a list is read as against the law, and asks that what is read is written so. It tells whether it
// is read.
func (k snapshotKind[T]) checkList(t *testing.T, m impl.Module, list []int) bool {
	t.Helper()
	want, wantOk := k.byLaw(m, list)
	got, ok := k.read(m, list)
	if ok != wantOk || !k.same(got, want) {
		t.Fatalf("%v: %v\nis read as\n%+v, %v, not\n%+v, %v", m, list, got, ok, want, wantOk)
	}
	if again := k.write(m, got); ok && !slices.Equal(again, list) {
		t.Fatalf("%v: %v\nis written again as\n%v", m, list, again)
	}
	return ok
}

// mustBe asks that a thing is written as this list, and this list read as it.
func (k snapshotKind[T]) mustBe(t *testing.T, name string, m impl.Module, x T, list ...int) {
	t.Helper()
	if !k.check(t, m, x) || !k.checkList(t, m, list) {
		t.Errorf("%s: %+v is not written, or %v not read", name, x, list)
	}
	if got := k.write(m, x); !slices.Equal(got, list) {
		t.Errorf("%s: %+v\nis written as\n%v, not\n%v", name, x, got, list)
	}
	if got, ok := k.read(m, list); !ok || !k.same(got, x) {
		t.Errorf("%s: %v\nis read as\n%+v, %v, not\n%+v", name, list, got, ok, x)
	}
}

// mustNotBeWritten asks that nothing is written of a thing, nor read of the numbers that would be its.
func (k snapshotKind[T]) mustNotBeWritten(t *testing.T, name string, m impl.Module, x T) {
	t.Helper()
	if got := k.write(m, x); len(got) > 0 || k.check(t, m, x) {
		t.Errorf("%s: %+v is written as %v", name, x, got)
	}
	k.mustNotBeRead(t, name, m, k.told(x))
}

// mustNotBeRead asks that a list is refused, and that nothing is told of it.
func (k snapshotKind[T]) mustNotBeRead(t *testing.T, name string, m impl.Module, list []int) {
	t.Helper()
	if got, ok := k.read(m, list); ok || !k.same(got, *new(T)) || k.checkList(t, m, list) {
		t.Errorf("%s: %v is read as %+v, %v", name, list, got, ok)
	}
}
