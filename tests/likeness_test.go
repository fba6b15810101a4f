package tests

import (
	"math/rand"
	"slices"
	"strconv"
	"testing"

	"loop.example/g00094/impl"
)

// alikeModule has of each function another one with the same code, and places that differ in Pc alone: function
// 0 waits at 4 and at 6 with three values, function 1 stands at 2 and at 3 with two.
func alikeModule() impl.Module {
	waits := "func 0 3; nil; nil; nil; invoke 1; drop; invoke 1; drop; drop; drop; drop; nil; return; "
	stands := "func 0 2; nil; nil; not; drop; return"
	return mod(waits + stands + "; " + stands + "; " + waits + stands)
}

// laidOut is a state of alikeModule with these records and these ten values: three locals and three on the stack
// of the first frame, two and two of the second one.
func laidOut(values []impl.Value, heap ...impl.Rec) impl.Vm {
	all := append(slices.Clone(values), make([]impl.Value, 10-len(values))...)
	return impl.Vm{
		Frames: frames(frame(0, 4, all[:3:3], all[3:6:6]), frame(1, 2, all[6:8:8], all[8:])),
		Heap:   heap, Made: len(heap),
	}
}

// answered is a state that is done, with these records.
func answered(v impl.Value, heap ...impl.Rec) impl.Vm {
	return impl.Vm{Status: impl.StDone, Value: v, Heap: heap, Made: len(heap)}
}

// numbered is a record that its field tells apart from others, and more fields.
func numbered(n int, more ...impl.Value) impl.Rec {
	return record(append(vals(num(n)), more...)...)
}

// canonical is a state, and its Canon written out.
type canonical struct {
	name string
	vm   impl.Vm
	want impl.Vm
}

// checkCanonical gives the Canon as many made records as the state has.
func checkCanonical(t *testing.T, list []canonical) {
	t.Helper()
	for _, x := range list {
		x.want.Made = x.vm.Made
		if !impl.VmOk(alikeModule(), x.vm) {
			t.Errorf("%s: not ok: %+v", x.name, x.vm)
		}
		checkVm(t, x.name, impl.Canon(alikeModule(), x.vm), x.want)
		checkCanon(t, alikeModule(), x.vm)
		checkAlike(t, x.name, alikeModule(), x.vm, x.want, true)
	}
}

// Which values lead to records.
func TestWhereRecordsAreReachedFrom(t *testing.T) {
	var list []canonical
	for i := range 10 {
		for n := range 3 {
			values, want := make([]impl.Value, 10), make([]impl.Value, 10)
			values[i], want[i] = rec(n), rec(0)
			list = append(list, canonical{"value " + strconv.Itoa(i),
				laidOut(values, numbered(0), numbered(1), numbered(2)), laidOut(want, numbered(n))})
		}
	}
	for n := range 3 {
		list = append(list, canonical{"Value", answered(rec(n), numbered(0), numbered(1), numbered(2)), answered(rec(0), numbered(n))})
	}
	for field := range impl.MaxFields {
		fields, want := make([]impl.Value, impl.MaxFields), make([]impl.Value, impl.MaxFields)
		fields[field], want[field] = rec(0), rec(1)
		list = append(list,
			canonical{"a field", laidOut(vals(rec(1)), numbered(5), record(fields...)), laidOut(vals(rec(0)), record(want...), numbered(5))},
			canonical{"a field of Value", answered(rec(1), numbered(5), record(fields...)), answered(rec(0), record(want...), numbered(5))})
	}
	checkCanonical(t, append(list,
		canonical{"a local, a stack and a field at once",
			laidOut(vals(impl.Value{}, rec(1), impl.Value{}, rec(2), impl.Value{}, rec(1)), numbered(0), numbered(1, rec(2)), numbered(2, rec(1))),
			laidOut(vals(impl.Value{}, rec(0), impl.Value{}, rec(1), impl.Value{}, rec(0)), numbered(1, rec(1)), numbered(2, rec(0)))},
		canonical{"both frames",
			laidOut(vals(rec(1), impl.Value{}, impl.Value{}, rec(1), impl.Value{}, impl.Value{}, rec(1), impl.Value{}, rec(1)), numbered(0), numbered(1)),
			laidOut(vals(rec(0), impl.Value{}, impl.Value{}, rec(0), impl.Value{}, impl.Value{}, rec(0), impl.Value{}, rec(0)), numbered(1))},
		canonical{"Value and a field of it", answered(rec(1), numbered(0), numbered(1, rec(1))), answered(rec(0), numbered(1, rec(0)))},
	))
}

// A number, a truth or a function is no record, whatever N it has.
func TestWhatNamesNoRecord(t *testing.T) {
	values := vals(num(1), truth(1), fun(1), text("1"), impl.Value{})
	checkCanonical(t, []canonical{
		{"values", laidOut(values, numbered(0), numbered(1)), laidOut(values)},
		{"fields", laidOut(vals(rec(1)), numbered(0), record(values...)), laidOut(vals(rec(0)), record(values...))},
		{"Value", answered(num(1), numbered(0), numbered(1)), answered(num(1))},
		{"a truth", answered(truth(1), numbered(0), numbered(1)), answered(truth(1))},
		{"a function", answered(fun(1), numbered(0), numbered(1)), answered(fun(1))},
	})
}

func TestTheOrderOfFramesLocalsAndStacks(t *testing.T) {
	var falling, rising []impl.Value
	var heap, turned []impl.Rec
	for n := range 10 {
		falling, rising = append(falling, rec(9-n)), append(rising, rec(n))
		heap, turned = append(heap, numbered(n)), append(turned, numbered(9-n))
	}
	checkCanonical(t, []canonical{
		{"falling", laidOut(falling, heap...), laidOut(rising, turned...)},
		{"rising", laidOut(rising, heap...), laidOut(rising, heap...)},
	})
	// Each two places by themselves: the one that is met first comes first.
	for i := range 10 {
		for j := i + 1; j < 10; j++ {
			values, want := make([]impl.Value, 10), make([]impl.Value, 10)
			values[i], values[j], want[i], want[j] = rec(1), rec(0), rec(0), rec(1)
			checkCanonical(t, []canonical{{strconv.Itoa(i) + " ahead of " + strconv.Itoa(j),
				laidOut(values, numbered(0), numbered(1)), laidOut(want, numbered(1), numbered(0))}})
		}
	}
}

func TestTheOrderOfFields(t *testing.T) {
	checkCanonical(t, []canonical{
		{"fields of one record", laidOut(vals(rec(0)), record(rec(3), rec(1), rec(2)), numbered(1), numbered(2), numbered(3)),
			laidOut(vals(rec(0)), record(rec(1), rec(2), rec(3)), numbered(3), numbered(1), numbered(2))},
		{"behind all frames", laidOut(vals(rec(0), impl.Value{}, impl.Value{}, impl.Value{}, impl.Value{}, impl.Value{}, impl.Value{}, impl.Value{}, impl.Value{}, rec(2)),
			record(rec(1)), numbered(1), numbered(2)),
			laidOut(vals(rec(0), impl.Value{}, impl.Value{}, impl.Value{}, impl.Value{}, impl.Value{}, impl.Value{}, impl.Value{}, impl.Value{}, rec(1)),
				record(rec(2)), numbered(2), numbered(1))},
		{"met in a field and in a later frame", laidOut(vals(rec(0), impl.Value{}, impl.Value{}, rec(1), impl.Value{}, impl.Value{}, rec(2)),
			record(rec(2)), numbered(1), numbered(2)),
			laidOut(vals(rec(0), impl.Value{}, impl.Value{}, rec(1), impl.Value{}, impl.Value{}, rec(2)),
				record(rec(2)), numbered(1), numbered(2))},
		{"a field of one with a later place in Heap", laidOut(vals(rec(2), rec(0)), numbered(0, rec(3)), numbered(1), numbered(2, rec(1)), numbered(3)),
			laidOut(vals(rec(0), rec(1)), numbered(2, rec(2)), numbered(0, rec(3)), numbered(1), numbered(3))},
		{"all fields of a record ahead of those of the next", laidOut(vals(rec(0)), record(rec(1), rec(2)), record(rec(3)), record(rec(4)), numbered(3), numbered(4)),
			laidOut(vals(rec(0)), record(rec(1), rec(2)), record(rec(3)), record(rec(4)), numbered(3), numbered(4))},
		{"the same at other places", laidOut(vals(rec(4)), numbered(4), numbered(3), record(rec(0)), record(rec(1)), record(rec(3), rec(2))),
			laidOut(vals(rec(0)), record(rec(1), rec(2)), record(rec(3)), record(rec(4)), numbered(3), numbered(4))},
		{"of Value", answered(rec(2), numbered(0), record(rec(0)), record(rec(1), rec(3)), record(rec(4), rec(0)), numbered(4)),
			answered(rec(0), record(rec(1), rec(2)), record(rec(3)), record(rec(4), rec(3)), numbered(0), numbered(4))},
		{"a record that is known is not met again", laidOut(vals(rec(2)), numbered(0), record(rec(2), rec(0)), record(rec(1), rec(1))),
			laidOut(vals(rec(0)), record(rec(1), rec(1)), record(rec(0), rec(2)), numbered(0))},
	})
}

func TestRecordsThatNobodyReaches(t *testing.T) {
	want := laidOut(vals(rec(0)), numbered(1, rec(1)), numbered(2))
	checkCanonical(t, []canonical{
		{"at the beginning", laidOut(vals(rec(1)), numbered(0), numbered(1, rec(2)), numbered(2)), want},
		{"in the midst", laidOut(vals(rec(0)), numbered(1, rec(2)), numbered(0), numbered(2)), want},
		{"at the end", laidOut(vals(rec(0)), numbered(1, rec(1)), numbered(2), numbered(0)), want},
		{"everywhere", laidOut(vals(rec(2)), numbered(0), numbered(0), numbered(1, rec(4)), numbered(0), numbered(2), numbered(0)), want},
		{"that name others", laidOut(vals(rec(2)), numbered(0, rec(2), rec(3)), numbered(0, rec(0)), numbered(1, rec(3)), numbered(2)), want},
		{"in a ring", laidOut(vals(rec(2)), numbered(0, rec(1)), numbered(0, rec(0)), numbered(1, rec(3)), numbered(2)), want},
		{"that name themselves", laidOut(vals(rec(1)), numbered(0, rec(0)), numbered(1, rec(2)), numbered(2), numbered(0, rec(3))), want},
		{"all of them", laidOut(nil, numbered(0, rec(1)), numbered(1)), laidOut(nil)},
		{"all of them, done", answered(num(0), numbered(0, rec(1)), numbered(1)), answered(num(0))},
	})
}

func TestRecordsThatNameEachOther(t *testing.T) {
	checkCanonical(t, []canonical{
		{"itself", laidOut(vals(rec(1)), record(), record(rec(1))), laidOut(vals(rec(0)), record(rec(0)))},
		{"itself in all fields", answered(rec(1), record(), record(slices.Repeat(vals(rec(1)), 6)...)), answered(rec(0), record(slices.Repeat(vals(rec(0)), 6)...))},
		{"a ring of two", laidOut(vals(rec(2)), numbered(0, rec(2)), record(), numbered(2, rec(0))), laidOut(vals(rec(0)), numbered(2, rec(1)), numbered(0, rec(0)))},
		{"a ring of two from the other one", laidOut(vals(rec(0)), numbered(0, rec(2)), record(), numbered(2, rec(0))), laidOut(vals(rec(0)), numbered(0, rec(1)), numbered(2, rec(0)))},
		{"a ring of three", answered(rec(1), numbered(0, rec(1)), numbered(1, rec(2)), numbered(2, rec(0))), answered(rec(0), numbered(1, rec(1)), numbered(2, rec(2)), numbered(0, rec(0)))},
		{"both ways", laidOut(vals(rec(1)), numbered(0, rec(1)), numbered(1, rec(0), rec(2)), numbered(2, rec(1))),
			laidOut(vals(rec(0)), numbered(1, rec(1), rec(2)), numbered(0, rec(0)), numbered(2, rec(0)))},
	})
}

// chain is n records, each naming the one behind it; turned about, the one ahead of it.
func chain(n int, turned bool) []impl.Rec {
	heap := make([]impl.Rec, n)
	for i := range heap {
		heap[i] = numbered(i, rec((i+1)%n))
		if turned {
			heap[i] = numbered(n-1-i, rec((i+n-1)%n))
		}
	}
	return heap
}

func TestEdgesOfCanon(t *testing.T) {
	full := make([]impl.Rec, impl.MaxMade)
	six := record(rec(0), rec(1), num(1), text("a"), truth(1), fun(4))
	checkCanonical(t, []canonical{
		{"an empty heap", laidOut(nil), laidOut(nil)},
		{"an empty heap of what is done", answered(text("a")), answered(text("a"))},
		{"MaxMade records, all reached", laidOut(vals(rec(0)), chain(impl.MaxMade, false)...), laidOut(vals(rec(0)), chain(impl.MaxMade, false)...)},
		{"MaxMade records, the last one first", laidOut(vals(rec(119)), chain(impl.MaxMade, true)...), laidOut(vals(rec(0)), chain(impl.MaxMade, false)...)},
		{"MaxMade records, none reached", laidOut(nil, chain(impl.MaxMade, false)...), laidOut(nil)},
		{"MaxMade records, the first one reached", laidOut(vals(rec(0)), full...), laidOut(vals(rec(0)), record())},
		{"MaxMade records, the last one reached", laidOut(vals(rec(119)), full...), laidOut(vals(rec(0)), record())},
		{"MaxMade records of what is done", answered(rec(119), chain(impl.MaxMade, true)...), answered(rec(0), chain(impl.MaxMade, false)...)},
		{"MaxMade records of what is done, none reached", answered(num(119), full...), answered(num(119))},
		{"no field", laidOut(vals(rec(1)), numbered(0), record()), laidOut(vals(rec(0)), record())},
		{"MaxFields", laidOut(vals(rec(1)), record(), six), laidOut(vals(rec(0)), record(rec(1), rec(0), num(1), text("a"), truth(1), fun(4)), record())},
	})
	for _, made := range []int{1, 2, 5, impl.MaxMade} {
		vm := laidOut(vals(rec(0)), numbered(7))
		vm.Made = made
		checkCanonical(t, []canonical{{"made " + strconv.Itoa(made), vm, vm}})
	}
	for _, steps := range []int{0, 1, 9, impl.MaxSteps} {
		vm := laidOut(vals(rec(1)), numbered(0), numbered(1))
		for _, x := range []impl.Vm{vm, doneWith(vm, rec(1)), trappedIn(vm)} {
			want := impl.Canon(alikeModule(), x)
			x.Steps = steps
			if want.Steps != 0 || want.Status != x.Status || want.Trap != x.Trap || len(want.Heap) != 1 {
				t.Errorf("Canon of %+v: %+v", x, want)
			}
			checkCanonical(t, []canonical{{strconv.Itoa(steps) + " steps", x, want}})
		}
	}
}

// manyFrames are MaxFrames frames, each of which names two records, the one of them twice.
func manyFrames(first func(n int) int, second func(n int) int) []impl.Frame {
	var out []impl.Frame
	for n := range impl.MaxFrames {
		out = append(out, frame(3, 6, vals(text("a"), rec(first(n)), num(n)), vals(rec(second(n)), fun(2), rec(first(n)))))
	}
	out[impl.MaxFrames-1].Pc = 3
	return out
}

func TestCanonOfManyFrames(t *testing.T) {
	vm := impl.Vm{Frames: manyFrames(func(n int) int { return 23 - n }, func(n int) int { return 47 - n }), Made: impl.MaxMade}
	want := impl.Vm{Frames: manyFrames(func(n int) int { return 2 * n }, func(n int) int { return 2*n + 1 })}
	for n := range 50 {
		vm.Heap = append(vm.Heap, numbered(n))
	}
	for n := range impl.MaxFrames {
		want.Heap = append(want.Heap, numbered(23-n), numbered(47-n))
	}
	vm.Out, want.Out = []string{"x", "", xs(60)}, []string{"x", "", xs(60)}
	checkCanonical(t, []canonical{{"MaxFrames", vm, want}})
}

// rich has records that are reached in many ways, and two that are not (1 and 6).
func rich() impl.Vm {
	return impl.Vm{
		Frames: frames(
			frame(0, 4, vals(rec(2), num(4), rec(0)), vals(text("a"), rec(2), fun(1))),
			frame(1, 2, vals(truth(1), rec(3)), vals(rec(4), impl.Value{})),
		),
		Heap: []impl.Rec{
			record(rec(3), num(7)), record(rec(0)), record(), record(text("b"), rec(3), rec(0), impl.Value{}, truth(0), fun(0)),
			record(rec(5)), record(rec(4)), record(),
		},
		Made:  9,
		Out:   []string{"x", "", "y"},
		Steps: 9,
	}
}

func richTrapped() impl.Vm { return trappedIn(rich()) }

func richDone() impl.Vm { return doneWith(rich(), rec(3)) }

// checkChanged asks of each change by itself whether the state is alike what it was, also where the records of
// one of the two were moved.
func checkChanged(t *testing.T, base func() impl.Vm, list []change, want bool) {
	t.Helper()
	r := rand.New(rand.NewSource(12))
	for _, x := range list {
		vm := base()
		x.do(&vm)
		if !impl.VmOk(alikeModule(), vm) {
			t.Fatalf("%s: not ok: %+v", x.name, vm)
		}
		checkAlike(t, x.name, alikeModule(), base(), vm, want)
		for range 3 {
			checkAlike(t, x.name+", moved", alikeModule(), base(), moved(r, alikeModule(), vm), want)
			checkAlike(t, x.name+", moved there", alikeModule(), moved(r, alikeModule(), base()), vm, want)
		}
		checkCanon(t, alikeModule(), vm)
	}
}

func TestWhatMayDiffer(t *testing.T) {
	for _, base := range []func() impl.Vm{rich, richTrapped, richDone} {
		checkChanged(t, base, []change{
			{"nothing", func(vm *impl.Vm) {}},
			{"no step", func(vm *impl.Vm) { vm.Steps = 0 }},
			{"MaxSteps", func(vm *impl.Vm) { vm.Steps = impl.MaxSteps }},
			{"a field that nobody reaches", func(vm *impl.Vm) { vm.Heap[1].Fields[0] = rec(6) }},
			{"more fields that nobody reaches", func(vm *impl.Vm) { vm.Heap[6].Fields = vals(num(1), rec(1), text("c")) }},
			{"fewer", func(vm *impl.Vm) { vm.Heap[1].Fields = nil }},
			{"a record less that nobody reaches", func(vm *impl.Vm) { vm.Heap = vm.Heap[:6] }},
			{"a record more", func(vm *impl.Vm) { vm.Heap = append(vm.Heap, record(rec(2))) }},
			{"as many records as were made", func(vm *impl.Vm) { vm.Heap = append(vm.Heap, record(rec(2)), record(rec(8))) }},
			{"two places changed about", func(vm *impl.Vm) {
				*vm = renamed(*vm, func(n int) int { return []int{6, 1, 2, 3, 4, 5, 0}[n] })
				vm.Heap[0], vm.Heap[6] = vm.Heap[6], vm.Heap[0]
			}},
		}, true)
	}
	// A record in place of one with the same fields, if nobody else names it.
	checkChanged(t, rich, []change{{"another ring", func(vm *impl.Vm) {
		vm.Heap = append(vm.Heap, record(rec(5)))
		vm.Heap[5].Fields[0], vm.Frames[1].Stack[0] = rec(7), rec(7)
	}}}, true)
}

func TestWhatMayNotDiffer(t *testing.T) {
	both := []change{
		{"Made", func(vm *impl.Vm) { vm.Made = 8 }},
		{"MaxMade", func(vm *impl.Vm) { vm.Made = impl.MaxMade }},
		{"the first text", func(vm *impl.Vm) { vm.Out[0] = "z" }},
		{"an empty text", func(vm *impl.Vm) { vm.Out[1] = " " }},
		{"the last text", func(vm *impl.Vm) { vm.Out[2] = "" }},
		{"a text less", func(vm *impl.Vm) { vm.Out = vm.Out[:2] }},
		{"an empty text more", func(vm *impl.Vm) { vm.Out = append(vm.Out, "") }},
		{"texts in another order", func(vm *impl.Vm) { slices.Reverse(vm.Out) }},
		{"no text", func(vm *impl.Vm) { vm.Out = nil }},
		{"a field", func(vm *impl.Vm) { vm.Heap[0].Fields[1] = num(8) }},
		{"a text in a field", func(vm *impl.Vm) { vm.Heap[3].Fields[0] = text("c") }},
		{"a field that was nil", func(vm *impl.Vm) { vm.Heap[3].Fields[3] = num(0) }},
		{"the last field", func(vm *impl.Vm) { vm.Heap[3].Fields[5] = fun(1) }},
		{"a field that names another record", func(vm *impl.Vm) { vm.Heap[3].Fields[1] = rec(0) }},
		{"a field less", func(vm *impl.Vm) { vm.Heap[3].Fields = vm.Heap[3].Fields[:5] }},
		{"a field more", func(vm *impl.Vm) { vm.Heap[0].Fields = append(vm.Heap[0].Fields, impl.Value{}) }},
		{"no field", func(vm *impl.Vm) { vm.Heap[0].Fields = nil }},
		{"fields in another order", func(vm *impl.Vm) { slices.Reverse(vm.Heap[0].Fields) }},
	}
	for _, base := range []func() impl.Vm{rich, richTrapped, richDone} {
		checkChanged(t, base, both, false)
	}
	for _, base := range []func() impl.Vm{rich, richTrapped} {
		checkChanged(t, base, []change{
			{"Func of the first frame", func(vm *impl.Vm) { vm.Frames[0].Func = 3 }},
			{"Func of the last frame", func(vm *impl.Vm) { vm.Frames[1].Func = 2 }},
			{"Pc of the first frame", func(vm *impl.Vm) { vm.Frames[0].Pc = 6 }},
			{"Pc of the last frame", func(vm *impl.Vm) { vm.Frames[1].Pc = 3 }},
			{"a frame less", func(vm *impl.Vm) { vm.Frames = vm.Frames[1:] }},
			{"a frame more", func(vm *impl.Vm) { vm.Frames = append(vm.Frames[:1:1], vm.Frames...) }},
			{"locals in another order", func(vm *impl.Vm) { slices.Reverse(vm.Frames[0].Locals) }},
			{"a stack in another order", func(vm *impl.Vm) { slices.Reverse(vm.Frames[1].Stack) }},
			{"a local and a stack changed about", func(vm *impl.Vm) {
				vm.Frames[1].Locals, vm.Frames[1].Stack = vm.Frames[1].Stack, vm.Frames[1].Locals
			}},
			{"a record with the same fields, in a local alone", func(vm *impl.Vm) { vm.Frames[0].Locals[0] = rec(6) }},
			{"a record with the same fields, on a stack alone", func(vm *impl.Vm) { vm.Frames[0].Stack[1] = rec(6) }},
			{"a field of one that is met through a field alone", func(vm *impl.Vm) { vm.Heap[5].Fields[0] = rec(5) }},
			{"a field more of such a one", func(vm *impl.Vm) { vm.Heap[5].Fields = vals(rec(4), impl.Value{}) }},
		}, false)
	}
	checkChanged(t, rich, []change{{"Status", func(vm *impl.Vm) { vm.Status, vm.Trap = impl.StTrap, 1 }},
		{"done", func(vm *impl.Vm) { vm.Status, vm.Frames = impl.StDone, nil }}}, false)
	for trap := 2; trap <= 8; trap++ {
		checkChanged(t, richTrapped, []change{{"Trap", func(vm *impl.Vm) { vm.Trap = trap }}}, false)
	}
	for _, v := range vals(impl.Value{}, rec(0), rec(1), rec(2), rec(4), num(3), fun(3), text("3"), truth(0)) {
		checkChanged(t, richDone, []change{{"Value", func(vm *impl.Vm) { vm.Value = v }}}, false)
	}
}

// Each value of each kind, where it stands alone, is alike itself and nothing else.
func TestEachTwoValuesOfStates(t *testing.T) {
	values := vals(impl.Value{}, num(0), num(1), num(-1), num(impl.MaxNum), truth(0), truth(1), text(""), text("a"), text("b"), rec(0), rec(1), fun(0), fun(1))
	for i := range 10 {
		for _, v := range values {
			for _, w := range values {
				state := func(x impl.Value) impl.Vm {
					list := make([]impl.Value, 10)
					list[i] = x
					return laidOut(list, numbered(0), numbered(1))
				}
				field := func(x impl.Value) impl.Vm { return laidOut(vals(rec(2)), numbered(0), numbered(1), record(num(i), x)) }
				checkAlike(t, "a value", alikeModule(), state(v), state(w), v == w)
				checkAlike(t, "a field", alikeModule(), field(v), field(w), v == w)
				checkAlike(t, "Value", alikeModule(), answered(v, numbered(0), numbered(1)), answered(w, numbered(0), numbered(1)), v == w)
			}
		}
	}
}

// sharing are states of which no two share their records in the same way, though all of these have the same fields.
func sharing() map[string][]impl.Vm {
	nilRec := func() impl.Rec { return record(impl.Value{}) }
	return map[string][]impl.Vm{
		"two locals": {
			laidOut(vals(rec(0), rec(0)), nilRec(), nilRec()),
			laidOut(vals(rec(0), rec(1)), nilRec(), nilRec()),
		},
		"three values": {
			laidOut(vals(rec(0), rec(0), impl.Value{}, rec(0)), nilRec(), nilRec(), nilRec()),
			laidOut(vals(rec(0), rec(0), impl.Value{}, rec(1)), nilRec(), nilRec(), nilRec()),
			laidOut(vals(rec(0), rec(1), impl.Value{}, rec(0)), nilRec(), nilRec(), nilRec()),
			laidOut(vals(rec(1), rec(0), impl.Value{}, rec(0)), nilRec(), nilRec(), nilRec()),
			laidOut(vals(rec(0), rec(1), impl.Value{}, rec(2)), nilRec(), nilRec(), nilRec()),
		},
		"two frames": {
			laidOut(vals(rec(0), impl.Value{}, impl.Value{}, impl.Value{}, impl.Value{}, impl.Value{}, rec(0)), nilRec(), nilRec()),
			laidOut(vals(rec(0), impl.Value{}, impl.Value{}, impl.Value{}, impl.Value{}, impl.Value{}, rec(1)), nilRec(), nilRec()),
		},
		"two fields": {
			answered(rec(2), nilRec(), nilRec(), record(rec(0), rec(0))),
			answered(rec(2), nilRec(), nilRec(), record(rec(0), rec(1))),
		},
		"a field and a local": {
			laidOut(vals(rec(1), rec(2)), nilRec(), nilRec(), record(rec(0))),
			laidOut(vals(rec(1), rec(2)), nilRec(), nilRec(), record(rec(1))),
		},
		"rings": {
			laidOut(vals(rec(0)), record(rec(0)), record(rec(1)), record(rec(2))),
			laidOut(vals(rec(0)), record(rec(1)), record(rec(0)), record(rec(2))),
			laidOut(vals(rec(0)), record(rec(1)), record(rec(1)), record(rec(2))),
			laidOut(vals(rec(0)), record(rec(1)), record(rec(2)), record(rec(0))),
			laidOut(vals(rec(0)), record(rec(1)), record(rec(2)), record(rec(1))),
			laidOut(vals(rec(0)), record(rec(1)), record(rec(2)), record(rec(2))),
		},
		"two rings": {
			laidOut(vals(rec(0), rec(1)), record(rec(0)), record(rec(1))),
			laidOut(vals(rec(0), rec(1)), record(rec(1)), record(rec(0))),
			laidOut(vals(rec(0), rec(1)), record(rec(0)), record(rec(0))),
			laidOut(vals(rec(0), rec(1)), record(rec(1)), record(rec(1))),
			laidOut(vals(rec(0), rec(0)), record(rec(0)), record(rec(0))),
			laidOut(vals(rec(0), rec(0)), record(rec(1)), record(rec(0))),
			laidOut(vals(rec(0), rec(0)), record(rec(1)), record(rec(1))),
		},
	}
}

func TestRecordsThatAreSharedInAnotherWay(t *testing.T) {
	r := rand.New(rand.NewSource(13))
	for name, states := range sharing() {
		for i, a := range states {
			for j, b := range states {
				checkAlike(t, name, alikeModule(), a, b, i == j)
				checkAlike(t, name+", moved", alikeModule(), moved(r, alikeModule(), a), moved(r, alikeModule(), b), i == j)
			}
		}
	}
}

// notOk are states of alikeModule that are not ok.
func notOk() map[string]impl.Vm {
	out := map[string]impl.Vm{"the zero state": {}}
	for name, do := range map[string]func(vm *impl.Vm){
		"a record that is none":               func(vm *impl.Vm) { vm.Frames[0].Locals[0] = rec(7) },
		"one below":                           func(vm *impl.Vm) { vm.Frames[1].Stack[0] = rec(-1) },
		"a record in a field that is none":    func(vm *impl.Vm) { vm.Heap[0].Fields[0] = rec(7) },
		"in a field that nobody reaches":      func(vm *impl.Vm) { vm.Heap[1].Fields[0] = rec(7) },
		"fewer made than there are":           func(vm *impl.Vm) { vm.Made = 6 },
		"more than MaxMade made":              func(vm *impl.Vm) { vm.Made = impl.MaxMade + 1 },
		"too many fields":                     func(vm *impl.Vm) { vm.Heap[2].Fields = make([]impl.Value, impl.MaxFields+1) },
		"too many fields that nobody reaches": func(vm *impl.Vm) { vm.Heap[6].Fields = make([]impl.Value, impl.MaxFields+1) },
		"more than MaxMade records":           func(vm *impl.Vm) { vm.Made, vm.Heap = 120, append(vm.Heap, make([]impl.Rec, 114)...) },
		"more than MaxSteps":                  func(vm *impl.Vm) { vm.Steps = impl.MaxSteps + 1 },
		"fewer steps than none":               func(vm *impl.Vm) { vm.Steps = -1 },
		"a wrong text":                        func(vm *impl.Vm) { vm.Out[0] = "\n" },
		"a Status that is none":               func(vm *impl.Vm) { vm.Status = 3 },
		"done with frames":                    func(vm *impl.Vm) { vm.Status = impl.StDone },
		"a trap that runs":                    func(vm *impl.Vm) { vm.Trap = 1 },
		"trapped without a trap":              func(vm *impl.Vm) { vm.Status = impl.StTrap },
		"a Value that runs":                   func(vm *impl.Vm) { vm.Value = rec(0) },
		"a stack that is too low":             func(vm *impl.Vm) { vm.Frames[1].Stack = vm.Frames[1].Stack[:1] },
		"a local too many":                    func(vm *impl.Vm) { vm.Frames[0].Locals = append(vm.Frames[0].Locals, rec(0)) },
		"no frame":                            func(vm *impl.Vm) { vm.Frames = nil },
		"a record with a text":                func(vm *impl.Vm) { vm.Frames[0].Locals[0].S = "a" },
		"a nil with a number":                 func(vm *impl.Vm) { vm.Frames[1].Stack[1].N = 1 },
		"a Kind that is none":                 func(vm *impl.Vm) { vm.Heap[0].Fields[1].Kind = 6 },
		"an answer that names no record":      func(vm *impl.Vm) { vm.Frames, vm.Status, vm.Value = nil, impl.StDone, rec(7) },
	} {
		vm := rich()
		do(&vm)
		out[name] = vm
	}
	return out
}

func TestLikenessOfStatesThatAreNotOk(t *testing.T) {
	for name, vm := range notOk() {
		checkVm(t, name, impl.Canon(alikeModule(), vm), impl.Vm{})
		checkAlike(t, name+" and itself", alikeModule(), vm, vm, false)
		checkAlike(t, name+" and a copy", alikeModule(), vm, cloneVm(vm), false)
		for _, other := range []impl.Vm{rich(), richDone(), richTrapped(), {}, laidOut(nil)} {
			checkAlike(t, name+" and another one", alikeModule(), vm, other, false)
		}
		checkCanon(t, alikeModule(), vm)
	}
}

func TestLikenessOfModulesThatAreNotGood(t *testing.T) {
	for name, m := range notGood() {
		for _, vm := range []impl.Vm{at(0, nil, nil, 0), {Status: impl.StDone}, answered(rec(0), record()), {}} {
			checkVm(t, name, impl.Canon(m, vm), impl.Vm{})
			checkAlike(t, name, m, vm, vm, false)
		}
	}
	good := one(nilIns, returnIns)
	checkAlike(t, "a good one", good, at(0, nil, nil, 0), at(0, nil, nil, 7), true)
	checkAlike(t, "a good one", good, answered(rec(0), record()), answered(rec(0), record()), true)
	// A state that is one of another module.
	checkVm(t, "another module", impl.Canon(good, rich()), impl.Vm{})
	checkAlike(t, "another module", good, rich(), rich(), false)
}
