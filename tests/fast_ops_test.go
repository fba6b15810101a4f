package tests

import (
	"fmt"
	"slices"
	"strings"
	"testing"

	"loop.example/g00094/impl"
)

// bedModule has a function of 12 locals, whose stack is six high at instruction 6, so that a single frame tells 18
// registers. It invokes itself at 8. Functions 1 and 2 are there to be named.
func bedModule() impl.Module {
	return mod("func 0 12; nil; nil; nil; nil; nil; nil; drop; drop; invoke 0; drop; drop; drop; drop; drop; nil; return; " +
		"func 1 1; load 0; return; func 1 1; load 0; return")
}

// bed is what an op works on: 12 registers for values, 6 bare ones, and a state.
type bed struct {
	vals [12]impl.Value
	nums [6]int
	heap []impl.Rec
	made int
	out  []string
}

func sameBed(a bed, b bed) bool {
	return a.vals == b.vals && a.nums == b.nums && slices.EqualFunc(a.heap, b.heap, sameRec) && a.made == b.made && slices.Equal(a.out, b.out)
}

// someBed has a value of each kind in registers 0 to 5 (nil, a number, a truth, a text, a record, a function), two
// records, of which one more was made, and something printed.
func someBed() bed {
	return bed{
		vals: [12]impl.Value{{}, num(5), truth(1), text("ab"), rec(1), fun(2), rec(0), num(-7), truth(0), text(""), fun(1), num(1000000000)},
		nums: [6]int{0, 3, -4, 1000000000, -1000000000, 77},
		heap: []impl.Rec{record(), record(num(1), text("f"), rec(0))},
		made: 3,
		out:  []string{"first"},
	}
}

// bedExit tells all registers of a bed: those for values in the locals, the bare ones on the stack.
func bedExit(kind int) impl.Exit {
	f := exFrame(0, 6, nil, nil)
	for n := range 12 {
		f.Locals = append(f.Locals, valSrc(n))
	}
	for n := range 6 {
		f.Stack = append(f.Stack, numSrc(n))
	}
	return impl.Exit{Kind: kind, Frames: exFrames(f)}
}

// takenExit is the exit of the op that is asked for; the code behind it leaves by another one.
const takenExit, endExit = 1, 0

// bedOps is code that fills the bare registers, does these ops, and leaves.
func bedOps(b bed, ops ...impl.FOp) impl.Fast {
	c := impl.Fast{Vals: 12, Nums: 6, Exits: []impl.Exit{bedExit(impl.ExPause), bedExit(impl.ExTrap)}}
	for n, number := range b.nums {
		c.Ops = append(c.Ops, impl.FOp{Op: impl.FNum, D: n, V: num(number)})
	}
	c.Ops = append(c.Ops, ops...)
	c.Ops = append(c.Ops, impl.FOp{Op: impl.FExit, X: endExit})
	return c
}

// bedState is the state that a bed is entered from, with so many frames below.
func bedState(b bed, below int) impl.Vm {
	waits := frame(0, 9, make([]impl.Value, 12), make([]impl.Value, 4))
	list := append(slices.Repeat(frames(waits), below), frame(0, 0, slices.Clone(b.vals[:]), nil))
	return impl.Vm{Frames: list, Heap: cloneHeap(b.heap), Made: b.made, Out: slices.Clone(b.out)}
}

// bedOf is the bed that a state tells which came of an exit.
func bedOf(vm impl.Vm) bed {
	b := bed{heap: vm.Heap, made: vm.Made, out: vm.Out}
	last := vm.Frames[len(vm.Frames)-1]
	copy(b.vals[:], last.Locals)
	for i, v := range last.Stack {
		b.nums[i] = v.N
	}
	return b
}

// opFacts are facts of one op on someBed, changed by on: what the bed is then by to, or, where that is nil, that its
// exit is taken, and all is as it was.
type opFacts struct {
	name string
	x    impl.FOp
	on   func(b *bed)
	to   func(b *bed)
}

func checkOps(t *testing.T, list []opFacts) {
	t.Helper()
	for _, x := range list {
		b := someBed()
		if x.on != nil {
			x.on(&b)
		}
		checkOpOn(t, x.name, x.x, b, x.to)
	}
}

// checkOpOn does one op on a bed.
func checkOpOn(t *testing.T, name string, x impl.FOp, b bed, to func(b *bed)) {
	t.Helper()
	e := entering{bedModule(), bedOps(b, x), bedState(b, 0), 1000}
	got, told := checkFast(t, e)
	want := impl.Left{Kind: impl.ExTrap, Exit: takenExit, Steps: 7}
	after := bedOf(bedState(b, 0))
	after.nums = b.nums
	if to != nil {
		want = impl.Left{Kind: impl.ExPause, Exit: endExit, Steps: 8}
		to(&after)
	}
	if told != want {
		t.Errorf("%s: %+v on %+v leaves by %+v, not %+v", name, x, b, told, want)
		return
	}
	if !sameBed(bedOf(got), after) {
		t.Errorf("%s: %+v on %+v leaves %+v, not %+v", name, x, b, bedOf(got), after)
	}
}

// op is an op that leaves, where it can, by takenExit.
func op(number int, d int, a int, b int) impl.FOp {
	x := impl.FOp{Op: number, D: d, A: a, B: b}
	if namedAs(number, "X") != "" {
		x.X = takenExit
	}
	return x
}

// setVal gives a register for values a value, as what an op does.
func setVal(d int, v impl.Value) func(b *bed) { return func(b *bed) { b.vals[d] = v } }

func setNum(d int, n int) func(b *bed) { return func(b *bed) { b.nums[d] = n } }

// setTwo gives the first two registers for values what an op works on.
func setTwo(a impl.Value, b impl.Value) func(b *bed) {
	return func(x *bed) { x.vals[0], x.vals[1] = a, b }
}

func setTwoNumbers(a int, b int) func(b *bed) {
	return func(x *bed) { x.nums[0], x.nums[1] = a, b }
}

func TestOpsThatMove(t *testing.T) {
	list := []opFacts{
		{"a number is boxed", op(impl.FBox, 9, 2, 0), nil, setVal(9, num(-4))},
		{"the greatest", op(impl.FBox, 0, 3, 0), nil, setVal(0, num(1000000000))},
		{"the least", op(impl.FBox, 11, 4, 0), nil, setVal(11, num(-1000000000))},
		{"a nought", op(impl.FBox, 3, 0, 0), nil, setVal(3, num(0))},
		{"a bare number is moved", op(impl.FMoveNum, 0, 5, 0), nil, setNum(0, 77)},
		{"to itself", op(impl.FMoveNum, 4, 4, 0), nil, setNum(4, -1000000000)},
		{"the last register", op(impl.FMoveNum, 5, 3, 0), nil, setNum(5, 1000000000)},
	}
	for _, v := range constants() {
		list = append(list, opFacts{"a constant", withV(op(impl.FConst, 7, 0, 0), v), nil, setVal(7, v)})
	}
	for _, n := range []int{0, 1, -1, 1000000000, -1000000000} {
		list = append(list, opFacts{"a bare constant", withV(op(impl.FNum, 2, 0, 0), num(n)), nil, setNum(2, n)})
	}
	for a := range 12 {
		for _, d := range []int{0, a, 11} {
			list = append(list, opFacts{fmt.Sprint("from ", a), op(impl.FMove, d, a, 0), nil, setVal(d, someBed().vals[a])})
		}
	}
	checkOps(t, list)
}

// A number is found in numbers alone.
func TestOpen(t *testing.T) {
	list := []opFacts{
		{"the least", op(impl.FOpen, 0, 0, 0), setVal(0, num(-1000000000)), setNum(0, -1000000000)},
		{"a nought", op(impl.FOpen, 5, 0, 0), setVal(0, num(0)), setNum(5, 0)},
	}
	for a, v := range someBed().vals {
		x := opFacts{fmt.Sprint("of ", v), op(impl.FOpen, 3, a, 0), nil, nil}
		if v.Kind == impl.VInt {
			x.to = setNum(3, v.N)
		}
		list = append(list, x)
	}
	checkOps(t, list)
}

func TestOpsOfTwoValuesAtTheirLimits(t *testing.T) {
	checkOps(t, []opFacts{
		{"a sum", op(impl.FAdd, 9, 0, 1), setTwo(num(2), num(3)), setVal(9, num(5))},
		{"a sum at the end", op(impl.FAdd, 9, 0, 1), setTwo(num(999999999), num(1)), setVal(9, num(1000000000))},
		{"past it", op(impl.FAdd, 9, 0, 1), setTwo(num(1000000000), num(1)), nil},
		{"a sum at the other end", op(impl.FAdd, 9, 0, 1), setTwo(num(-999999999), num(-1)), setVal(9, num(-1000000000))},
		{"past that", op(impl.FAdd, 9, 0, 1), setTwo(num(-1), num(-1000000000)), nil},
		{"two texts", op(impl.FAdd, 9, 0, 1), setTwo(text("ab"), text("c")), setVal(9, text("abc"))},
		{"of MaxText bytes", op(impl.FAdd, 9, 0, 1), setTwo(text(xs(59)), text("c")), setVal(9, text(xs(59)+"c"))},
		{"of one more", op(impl.FAdd, 9, 0, 1), setTwo(text(xs(60)), text("c")), nil},
		{"a difference", op(impl.FSub, 9, 0, 1), setTwo(num(2), num(3)), setVal(9, num(-1))},
		{"a difference at the end", op(impl.FSub, 9, 0, 1), setTwo(num(999999999), num(-1)), setVal(9, num(1000000000))},
		{"past it", op(impl.FSub, 9, 0, 1), setTwo(num(1000000000), num(-1)), nil},
		{"a difference at the other end", op(impl.FSub, 9, 0, 1), setTwo(num(-999999999), num(1)), setVal(9, num(-1000000000))},
		{"past that", op(impl.FSub, 9, 0, 1), setTwo(num(-1000000000), num(1)), nil},
		{"no difference of texts", op(impl.FSub, 9, 0, 1), setTwo(text("ab"), text("b")), nil},
		{"a product", op(impl.FMul, 9, 0, 1), setTwo(num(-7), num(6)), setVal(9, num(-42))},
		{"a product at the end", op(impl.FMul, 9, 0, 1), setTwo(num(-500000000), num(-2)), setVal(9, num(1000000000))},
		{"past it", op(impl.FMul, 9, 0, 1), setTwo(num(31623), num(31623)), nil},
		{"a product at the other end", op(impl.FMul, 9, 0, 1), setTwo(num(500000000), num(-2)), setVal(9, num(-1000000000))},
		{"past that", op(impl.FMul, 9, 0, 1), setTwo(num(500000001), num(-2)), nil},
		{"no product of texts", op(impl.FMul, 9, 0, 1), setTwo(text("ab"), text("b")), nil},
		{"less", op(impl.FLess, 9, 0, 1), setTwo(num(2), num(3)), setVal(9, truth(1))},
		{"not less", op(impl.FLess, 9, 0, 1), setTwo(num(3), num(3)), setVal(9, truth(0))},
		{"a text that is less", op(impl.FLess, 9, 0, 1), setTwo(text("a"), text("ab")), setVal(9, truth(1))},
		{"a text that is not", op(impl.FLess, 9, 0, 1), setTwo(text("b"), text("ab")), setVal(9, truth(0))},
		{"no order of a number and a text", op(impl.FLess, 9, 0, 1), setTwo(num(1), text("1")), nil},
		{"the same register twice", op(impl.FAdd, 1, 1, 1), setTwo(num(2), num(4)), setVal(1, num(8))},
		{"into the first of the two", op(impl.FSub, 0, 0, 1), setTwo(num(2), num(4)), setVal(0, num(-2))},
		{"into the second of the two", op(impl.FSub, 1, 0, 1), setTwo(num(2), num(4)), setVal(1, num(-2))},
	})
}

// valueOps are the ops of two values, with what the document says of them.
func valueOps() map[int]func(a impl.Value, b impl.Value) outcome {
	out := map[int]func(a impl.Value, b impl.Value) outcome{
		impl.FSame: func(a impl.Value, b impl.Value) outcome { return gives(bool01(a == b)) },
	}
	for i, x := range operations() {
		out[impl.FAdd+i] = x.law
	}
	return out
}

// Each pair of kinds comes to each of these ops.
func TestOpsOfTwoValuesOfEachKind(t *testing.T) {
	bed := someBed().vals
	for number, law := range valueOps() {
		for a, v := range bed {
			for b, w := range bed {
				x := opFacts{fmt.Sprintf("%v and %v", v, w), op(number, 8, a, b), nil, nil}
				if want := law(v, w); want.trap == 0 {
					x.to = setVal(8, want.v)
				}
				checkOps(t, []opFacts{x})
			}
		}
	}
}

func TestSameOfRecordsAndTexts(t *testing.T) {
	checkOps(t, []opFacts{
		{"one record", op(impl.FSame, 9, 4, 4), nil, setVal(9, truth(1))},
		{"two records", op(impl.FSame, 9, 4, 6), nil, setVal(9, truth(0))},
		{"two texts that are the same", op(impl.FSame, 9, 0, 1), setTwo(text("abc"), text(strings.Clone("abc"))), setVal(9, truth(1))},
		{"two nils", op(impl.FSame, 0, 0, 1), setTwo(impl.Value{}, impl.Value{}), setVal(0, truth(1))},
		{"a number and a truth", op(impl.FSame, 0, 0, 1), setTwo(num(1), truth(1)), setVal(0, truth(0))},
	})
}

func TestNot(t *testing.T) {
	list := []opFacts{
		{"of true", op(impl.FNot, 9, 2, 0), nil, setVal(9, truth(0))},
		{"of false", op(impl.FNot, 9, 8, 0), nil, setVal(9, truth(1))},
		{"into itself", op(impl.FNot, 2, 2, 0), nil, setVal(2, truth(0))},
	}
	for _, a := range []int{0, 1, 3, 4, 5} {
		list = append(list, opFacts{"of something else", op(impl.FNot, 9, a, 0), nil, nil})
	}
	checkOps(t, list)
}

func TestOpsOfBareNumbers(t *testing.T) {
	checkOps(t, []opFacts{
		{"a sum", op(impl.FAddN, 2, 0, 1), setTwoNumbers(2, 3), setNum(2, 5)},
		{"a sum at the end", op(impl.FAddN, 2, 0, 1), setTwoNumbers(999999999, 1), setNum(2, 1000000000)},
		{"past it", op(impl.FAddN, 2, 0, 1), setTwoNumbers(1000000000, 1), nil},
		{"far past it", op(impl.FAddN, 2, 0, 1), setTwoNumbers(1000000000, 1000000000), nil},
		{"a sum at the other end", op(impl.FAddN, 2, 0, 1), setTwoNumbers(-1, -999999999), setNum(2, -1000000000)},
		{"past that", op(impl.FAddN, 2, 0, 1), setTwoNumbers(-1000000000, -1), nil},
		{"a difference", op(impl.FSubN, 2, 0, 1), setTwoNumbers(2, 3), setNum(2, -1)},
		{"a difference at the end", op(impl.FSubN, 2, 0, 1), setTwoNumbers(0, -1000000000), setNum(2, 1000000000)},
		{"past it", op(impl.FSubN, 2, 0, 1), setTwoNumbers(1, -1000000000), nil},
		{"a difference at the other end", op(impl.FSubN, 2, 0, 1), setTwoNumbers(0, 1000000000), setNum(2, -1000000000)},
		{"past that", op(impl.FSubN, 2, 0, 1), setTwoNumbers(-1, 1000000000), nil},
		{"a product", op(impl.FMulN, 2, 0, 1), setTwoNumbers(-7, 6), setNum(2, -42)},
		{"a product at the end", op(impl.FMulN, 2, 0, 1), setTwoNumbers(-1000000000, -1), setNum(2, 1000000000)},
		{"past it", op(impl.FMulN, 2, 0, 1), setTwoNumbers(500000001, 2), nil},
		{"a product at the other end", op(impl.FMulN, 2, 0, 1), setTwoNumbers(1000000000, -1), setNum(2, -1000000000)},
		{"past that", op(impl.FMulN, 2, 0, 1), setTwoNumbers(-500000001, 2), nil},
		{"the greatest product", op(impl.FMulN, 2, 0, 1), setTwoNumbers(1000000000, 1000000000), nil},
		{"the least product", op(impl.FMulN, 2, 0, 1), setTwoNumbers(1000000000, -1000000000), nil},
		{"into the first of the two", op(impl.FSubN, 0, 0, 1), setTwoNumbers(2, 3), setNum(0, -1)},
		{"into the second of the two", op(impl.FSubN, 1, 0, 1), setTwoNumbers(2, 3), setNum(1, -1)},
		{"the same register twice", op(impl.FMulN, 1, 1, 1), setTwoNumbers(2, 3), setNum(1, 9)},
		{"less", op(impl.FLessN, 9, 0, 1), setTwoNumbers(2, 3), setVal(9, truth(1))},
		{"the same", op(impl.FLessN, 9, 0, 1), setTwoNumbers(3, 3), setVal(9, truth(0))},
		{"more", op(impl.FLessN, 9, 0, 1), setTwoNumbers(3, 2), setVal(9, truth(0))},
		{"from end to end", op(impl.FLessN, 9, 0, 1), setTwoNumbers(-1000000000, 1000000000), setVal(9, truth(1))},
		{"from the other end", op(impl.FLessN, 9, 0, 1), setTwoNumbers(1000000000, -1000000000), setVal(9, truth(0))},
	})
}

// made gives a bed another count of records.
func made(n int) func(b *bed) { return func(b *bed) { b.made = n } }

// grown adds a record of nils to a bed, names it, and counts so many more.
func grown(size int, counted int, d int) func(b *bed) {
	return func(b *bed) {
		b.heap = append(b.heap, record(make([]impl.Value, size)...))
		b.made += counted
		b.vals[d] = rec(len(b.heap) - 1)
	}
}

func TestOpsThatMakeRecords(t *testing.T) {
	list := []opFacts{
		{"new, one below MaxMade", op(impl.FNew, 9, 2, 0), made(119), grown(2, 1, 9)},
		{"new, at MaxMade", op(impl.FNew, 9, 2, 0), made(120), nil},
		{"new, and as many made as there are", op(impl.FNew, 9, 2, 0), made(2), grown(2, 1, 9)},
		{"new, the first of all", op(impl.FNew, 9, 2, 0), noRecords, grown(2, 1, 9)},
		{"made", op(impl.FMade, 0, 0, 0), nil, made(4)},
		{"made, one below MaxMade", op(impl.FMade, 0, 0, 0), made(119), made(120)},
		{"made, at MaxMade", op(impl.FMade, 0, 0, 0), made(120), nil},
		{"made, and as many made as there are", op(impl.FMade, 0, 0, 0), made(2), made(3)},
		{"make, with one counted", op(impl.FMake, 9, 2, 0), made(3), grown(2, 0, 9)},
		{"make, with many counted", op(impl.FMake, 9, 2, 0), made(120), grown(2, 0, 9)},
	}
	for size := 0; size <= impl.MaxFields; size++ {
		list = append(list, opFacts{"new", op(impl.FNew, 11, size, 0), nil, grown(size, 1, 11)})
		list = append(list, opFacts{"make", op(impl.FMake, 0, size, 0), nil, grown(size, 0, 0)})
	}
	checkOps(t, list)
}

// noRecords has nothing in the heap, and nobody names it.
func noRecords(b *bed) {
	b.heap, b.made = nil, 0
	for i, v := range b.vals {
		if v.Kind == impl.VRec {
			b.vals[i] = impl.Value{}
		}
	}
}

// An FMake of a record that nobody counted ends the run: nothing comes of it, whatever is behind.
func TestMakeOfARecordThatNobodyCounted(t *testing.T) {
	for _, n := range []int{0, 1, 2, 119, 120} {
		b := someBed()
		noRecords(&b)
		b.heap = slices.Repeat([]impl.Rec{record()}, n)
		for counted := range 3 {
			for makes := range 4 {
				b.made = n + counted
				ops := slices.Repeat([]impl.FOp{op(impl.FMake, 9, 2, 0)}, makes)
				e := entering{bedModule(), bedOps(b, append(ops, withV(op(impl.FConst, 9, 0, 0), impl.Value{}))...), bedState(b, 0), 1000}
				if !vmOkByLaw(e.m, e.vm) {
					continue
				}
				if _, told := checkFast(t, e); (told != impl.Left{}) != (makes <= counted) {
					t.Errorf("%d records, %d counted, %d made: %+v", n, b.made, makes, told)
				}
			}
		}
	}
	// Counting it afterwards does not help, counting it ahead does.
	b := someBed()
	b.made = 2
	count, create := op(impl.FMade, 0, 0, 0), op(impl.FMake, 9, 2, 0)
	for _, x := range []struct {
		ops  []impl.FOp
		want bool
	}{
		{[]impl.FOp{count, create}, true}, {[]impl.FOp{create, count}, false}, {[]impl.FOp{count, create, create}, false},
		{[]impl.FOp{count, count, create, create}, true}, {[]impl.FOp{op(impl.FNew, 8, 0, 0), create}, false},
		{[]impl.FOp{count, op(impl.FNew, 8, 0, 0), create}, true}, {[]impl.FOp{count, create, count, create}, true},
	} {
		if _, told := checkFast(t, entering{bedModule(), bedOps(b, x.ops...), bedState(b, 0), 1000}); (told != impl.Left{}) != x.want {
			t.Errorf("%+v: %+v", x.ops, told)
		}
	}
}

func TestFields(t *testing.T) {
	var list []opFacts
	for size := 0; size <= impl.MaxFields; size++ {
		wide := func(b *bed) {
			b.heap[1] = record(make([]impl.Value, size)...)
			for i := range size {
				b.heap[1].Fields[i] = num(100 + i)
			}
		}
		for field := range impl.MaxFields {
			get := opFacts{fmt.Sprintf("field %d of %d", field, size), op(impl.FGet, 9, 4, field), wide, nil}
			put := opFacts{fmt.Sprintf("into field %d of %d", field, size), op(impl.FPut, field, 4, 3), wide, nil}
			if field < size {
				get.to = setVal(9, num(100+field))
				put.to = func(b *bed) { b.heap[1].Fields[field] = text("ab") }
			}
			list = append(list, get, put)
		}
	}
	for a, v := range someBed().vals {
		if v.Kind != impl.VRec {
			list = append(list, opFacts{"a field of no record", op(impl.FGet, 9, a, 0), nil, nil}, opFacts{"into no record", op(impl.FPut, 0, a, 4), nil, nil})
		}
		list = append(list, opFacts{"a value of each kind is put", op(impl.FPut, 2, 4, a), nil, func(b *bed) { b.heap[1].Fields[2] = v }})
	}
	checkOps(t, append(list, []opFacts{
		{"of a record without fields", op(impl.FGet, 9, 6, 0), nil, nil},
		{"into a record without fields", op(impl.FPut, 0, 6, 1), nil, nil},
		{"into its own register", op(impl.FGet, 4, 4, 1), nil, setVal(4, text("f"))},
		{"a record", op(impl.FGet, 0, 4, 2), nil, setVal(0, rec(0))},
		{"itself", op(impl.FPut, 0, 4, 4), nil, func(b *bed) { b.heap[1].Fields[0] = rec(1) }},
	}...))
}

func TestIsFun(t *testing.T) {
	stays := func(b *bed) {}
	list := []opFacts{
		{"the function", op(impl.FIsFun, 0, 5, 2), nil, stays},
		{"another one", op(impl.FIsFun, 0, 5, 1), nil, nil},
		{"the first one", op(impl.FIsFun, 0, 5, 0), setVal(5, fun(0)), stays},
		{"not the first one", op(impl.FIsFun, 0, 5, 0), nil, nil},
	}
	for _, v := range vals(impl.Value{}, num(1), truth(1), text("fun1"), rec(1), num(0)) {
		list = append(list, opFacts{fmt.Sprint("no function: ", v), op(impl.FIsFun, 0, 5, v.N), setVal(5, v), nil})
	}
	checkOps(t, list)
}

// outs gives a bed so many printed texts.
func outs(n int) func(b *bed) {
	return func(b *bed) { b.out = slices.Repeat([]string{"o"}, n) }
}

func TestPrint(t *testing.T) {
	var list []opFacts
	for a, word := range []string{"nil", "5", "true", "ab", "{3}", "fun2", "{0}", "-7", "false", "", "fun1", "1000000000"} {
		list = append(list, opFacts{word, op(impl.FPrint, 0, a, 0), nil, func(b *bed) { b.out = append(b.out, word) }})
	}
	checkOps(t, append(list, []opFacts{
		{"the first text of all", op(impl.FPrint, 0, 1, 0), outs(0), func(b *bed) { b.out = []string{"5"} }},
		{"one below MaxOut", op(impl.FPrint, 0, 1, 0), outs(199), func(b *bed) { b.out = append(b.out, "5") }},
		{"at MaxOut", op(impl.FPrint, 0, 1, 0), outs(200), nil},
		{"a text of MaxText bytes", op(impl.FPrint, 0, 1, 0), setVal(1, text(xs(60))), func(b *bed) { b.out = append(b.out, xs(60)) }},
	}...))
	// The text tells how many fields the record has at that moment, also of one that was made just now.
	b := someBed()
	got, _ := checkFast(t, entering{bedModule(), bedOps(b, op(impl.FNew, 9, 6, 0), op(impl.FPrint, 0, 9, 0), op(impl.FMake, 9, 0, 0), op(impl.FPrint, 0, 9, 0), op(impl.FPrint, 0, 4, 0)), bedState(b, 0), 0})
	if !slices.Equal(got.Out, []string{"first", "{6}", "{0}", "{3}"}) {
		t.Error(got.Out)
	}
}

// FDeep asks for room for so many frames above those that there are.
func TestDeep(t *testing.T) {
	for below := range impl.MaxFrames {
		for more := 1; more <= 3; more++ {
			b := someBed()
			got, told := checkFast(t, entering{bedModule(), bedOps(b, op(impl.FDeep, 0, more, 0)), bedState(b, below), 0})
			want := impl.Left{Kind: impl.ExPause, Exit: endExit, Steps: 8}
			if below+1+more > impl.MaxFrames {
				want = impl.Left{Kind: impl.ExTrap, Exit: takenExit, Steps: 7}
			}
			if told != want || !sameBed(bedOf(got), b) || len(got.Frames) != below+1 {
				t.Errorf("%d frames more, on %d: %+v, %+v", more, below+1, told, got)
			}
		}
	}
}

// marked is code with an op, 6, whose way on is told by register 0: it is 1 where the code goes on at op 7, and 2 at
// op 9.
func marked(b bed, x impl.FOp) impl.Fast {
	next, far := withV(op(impl.FConst, 0, 0, 0), num(1)), withV(op(impl.FConst, 0, 0, 0), num(2))
	return bedOps(b, x, next, impl.FOp{Op: impl.FExit, X: endExit}, far)
}

func TestWhereCodeGoesOn(t *testing.T) {
	taken := impl.Left{Kind: impl.ExTrap, Exit: takenExit, Steps: 7}
	ended := impl.Left{Kind: impl.ExPause, Exit: endExit, Steps: 9}
	for name, x := range map[string]struct {
		x    impl.FOp
		told impl.Left
		mark impl.Value
	}{
		"a jump":           {op(impl.FJump, 0, 9, 0), ended, num(2)},
		"a jump to next":   {op(impl.FJump, 0, 7, 0), ended, num(1)},
		"if true":          {op(impl.FIf, 0, 2, 9), ended, num(2)},
		"if false":         {op(impl.FIf, 0, 8, 9), ended, num(1)},
		"if true, to next": {op(impl.FIf, 0, 2, 7), ended, num(1)},
		"if nil":           {op(impl.FIf, 0, 0, 9), taken, impl.Value{}},
		"if a number":      {op(impl.FIf, 0, 1, 9), taken, impl.Value{}},
		"if a text":        {op(impl.FIf, 0, 3, 9), taken, impl.Value{}},
		"if a record":      {op(impl.FIf, 0, 4, 9), taken, impl.Value{}},
		"if a function":    {op(impl.FIf, 0, 5, 9), taken, impl.Value{}},
		"an exit":          {op(impl.FExit, 0, 0, 0), taken, impl.Value{}},
	} {
		b := someBed()
		got, told := checkFast(t, entering{bedModule(), marked(b, x.x), bedState(b, 0), 0})
		b.vals[0] = x.mark
		if told != x.told || !sameBed(bedOf(got), b) {
			t.Errorf("%s: %+v, %+v", name, told, bedOf(got))
		}
	}
}

// A jump goes to its op, wherever that is.
func TestJumpsFarOn(t *testing.T) {
	b := someBed()
	for n := range 40 {
		var ops []impl.FOp
		ops = append(ops, op(impl.FJump, 0, 7+n, 0))
		for i := range 40 {
			ops = append(ops, withV(op(impl.FConst, 0, 0, 0), num(i)), impl.FOp{Op: impl.FExit, X: endExit})
		}
		got, told := checkFast(t, entering{bedModule(), bedOps(b, ops...), bedState(b, 0), 0})
		want, steps := num(n/2), 9
		if n%2 == 1 {
			want, steps = impl.Value{}, 8
		}
		if told.Steps != steps || bedOf(got).vals[0] != want {
			t.Errorf("to %d: %+v, %+v", n, told, bedOf(got))
		}
	}
}
