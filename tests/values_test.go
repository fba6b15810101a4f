package tests

import (
	"bytes"
	"math"
	"math/big"
	"math/rand"
	"slices"
	"strconv"
	"strings"
	"testing"

	"loop.example/g00094/impl"
)

func num(n int) impl.Value     { return impl.Value{Kind: impl.VInt, N: n} }
func truth(n int) impl.Value   { return impl.Value{Kind: impl.VBool, N: n} }
func text(s string) impl.Value { return impl.Value{Kind: impl.VText, S: s} }
func rec(n int) impl.Value     { return impl.Value{Kind: impl.VRec, N: n} }
func fun(n int) impl.Value     { return impl.Value{Kind: impl.VFun, N: n} }

func xs(n int) string { return strings.Repeat("x", n) }

func TestNumbersOfValues(t *testing.T) {
	kinds := []int{impl.VNil, impl.VInt, impl.VBool, impl.VText, impl.VRec, impl.VFun}
	if !slices.Equal(kinds, []int{0, 1, 2, 3, 4, 5}) {
		t.Error(kinds)
	}
	traps := []int{impl.TrType, impl.TrOver, impl.TrText}
	if !slices.Equal(traps, []int{1, 2, 3}) {
		t.Error(traps)
	}
}

// someNumbers lie at, beside and far behind the ends of the range, and in it.
func someNumbers() []int {
	return []int{
		0, 1, -1, 2, -2, 3, 7, -7, 1000, 31622, 31623, -31623, 999999999, -999999999, 500000000, -500000000, 500000001,
		1000000000, -1000000000, 1000000001, -1000000001, 2000000000, -2000000000,
		1 << 31, 1 << 32, -1 << 32, 1 << 62, -1 << 62, math.MaxInt - 1, math.MaxInt, math.MinInt, math.MinInt + 1,
	}
}

// someTexts begin each other, part in the first, a middle or the last byte, or are about MaxText bytes long.
func someTexts() []string {
	return []string{
		"", "a", "b", "ab", "abc", "abd", "bbc", "aBc", "A", " ", "~", "0", "1", "10", "9", "nil", "true",
		xs(29), xs(30), xs(31), xs(59), xs(60), xs(61), xs(59) + "y", "y" + xs(59), xs(1000),
		"\x00", "\n", "\"", "\x7f", "é", "\xff", "a\x00",
	}
}

// someValues are of every kind and of kinds that are none, most of them ok somewhere, others nowhere.
func someValues() []impl.Value {
	out := []impl.Value{{}}
	for _, n := range someNumbers() {
		out = append(out, num(n))
	}
	for _, s := range someTexts() {
		out = append(out, text(s))
	}
	for _, n := range []int{0, 1, 2, -1, 5, 11, 12, math.MaxInt, math.MinInt} {
		out = append(out, truth(n), rec(n), fun(n))
	}
	for _, kind := range []int{-1, 6, 7, 257, math.MinInt, math.MaxInt} {
		out = append(out, impl.Value{Kind: kind}, impl.Value{Kind: kind, N: 1, S: "a"})
	}
	return append(out, overfull()...)
}

// overfull have something in a field that the table does not name for their kind.
func overfull() []impl.Value {
	return []impl.Value{
		{N: 1}, {N: -1}, {S: "a"}, {N: 1, S: "a"},
		{Kind: impl.VInt, S: "a"}, {Kind: impl.VInt, N: 3, S: "a"}, {Kind: impl.VInt, N: 1000000001, S: "a"},
		{Kind: impl.VBool, S: "a"}, {Kind: impl.VBool, N: 1, S: "a"},
		{Kind: impl.VText, N: 1}, {Kind: impl.VText, N: 1, S: "ab"}, {Kind: impl.VText, N: -1, S: xs(60)},
		{Kind: impl.VRec, S: "a"}, {Kind: impl.VRec, N: 1, S: "a"},
		{Kind: impl.VFun, S: "a"}, {Kind: impl.VFun, N: 1, S: "a"},
	}
}

// outcome is what a call answers.
type outcome struct {
	v    impl.Value
	trap int
}

func gives(v impl.Value) outcome { return outcome{v, 0} }
func traps(trap int) outcome     { return outcome{trap: trap} }

func bool01(b bool) impl.Value {
	return truth(map[bool]int{true: 1}[b])
}

// operation is a function of two Values, and what the document says of it.
type operation struct {
	name string
	do   func(impl.Value, impl.Value) (impl.Value, int)
	law  func(impl.Value, impl.Value) outcome
}

func operations() []operation {
	return []operation{
		{"AddOf", impl.AddOf, addByLaw},
		{"SubOf", impl.SubOf, func(a impl.Value, b impl.Value) outcome { return reckon(a, b, (*big.Int).Sub) }},
		{"MulOf", impl.MulOf, func(a impl.Value, b impl.Value) outcome { return reckon(a, b, (*big.Int).Mul) }},
		{"LessOf", impl.LessOf, lessByLaw},
	}
}

func inRange(n *big.Int) bool {
	return n.CmpAbs(big.NewInt(1000000000)) <= 0
}

// reckon works with numbers of any length, so that nothing wraps round.
func reckon(a impl.Value, b impl.Value, do func(z *big.Int, x *big.Int, y *big.Int) *big.Int) outcome {
	if a.Kind != 1 || b.Kind != 1 {
		return traps(1)
	}
	x, y := big.NewInt(int64(a.N)), big.NewInt(int64(b.N))
	z := do(new(big.Int), x, y)
	if !inRange(x) || !inRange(y) || !inRange(z) {
		return traps(2)
	}
	return gives(num(int(z.Int64())))
}

func addByLaw(a impl.Value, b impl.Value) outcome {
	if a.Kind == 3 && b.Kind == 3 {
		both := slices.Concat([]byte(a.S), []byte(b.S))
		if len(both) > 60 {
			return traps(3)
		}
		return gives(text(string(both)))
	}
	return reckon(a, b, (*big.Int).Add)
}

func lessByLaw(a impl.Value, b impl.Value) outcome {
	switch {
	case a.Kind == 1 && b.Kind == 1:
		return gives(bool01(big.NewInt(int64(a.N)).Cmp(big.NewInt(int64(b.N))) < 0))
	case a.Kind == 3 && b.Kind == 3:
		return gives(bool01(bytes.Compare([]byte(a.S), []byte(b.S)) < 0))
	}
	return traps(1)
}

func notByLaw(a impl.Value) outcome {
	if a.Kind != 2 {
		return traps(1)
	}
	return gives(bool01(a.N != 1))
}

func textByLaw(v impl.Value, heap []impl.Rec) string {
	switch v.Kind {
	case 0:
		return "nil"
	case 1:
		return big.NewInt(int64(v.N)).String()
	case 2:
		return map[int]string{1: "true"}[v.N] + map[bool]string{true: "false"}[v.N != 1]
	case 3:
		return v.S
	case 5:
		return "fun" + big.NewInt(int64(v.N)).String()
	}
	for i, x := range heap {
		if v.Kind == 4 && v.N == i {
			return "{" + strconv.Itoa(len(x.Fields)) + "}"
		}
	}
	return ""
}

// okByLaw asks of a Value of a module that is ok.
func okByLaw(m impl.Module, v impl.Value, recs int) bool {
	switch v {
	case impl.Value{}, truth(0), truth(1):
		return true
	case num(v.N):
		return v.N >= -1000000000 && v.N <= 1000000000
	case rec(v.N):
		return v.N >= 0 && v.N < recs
	case fun(v.N):
		return v.N >= 0 && v.N < len(m.Funcs)
	case text(v.S):
		bad := func(c rune) bool { return c < 32 || c > 126 || c == '"' }
		return len(v.S) <= 60 && !strings.ContainsFunc(v.S, bad)
	}
	return false
}

// checkOperations holds all that is answered of two Values against the law.
func checkOperations(t *testing.T, a impl.Value, b impl.Value) {
	t.Helper()
	for _, x := range operations() {
		v, trap := x.do(a, b)
		if got := (outcome{v, trap}); got != x.law(a, b) {
			t.Errorf("%s of %v and %v: %v, not %v", x.name, a, b, got, x.law(a, b))
		}
	}
	same := a.Kind == b.Kind && a.N == b.N && a.S == b.S
	if got := impl.SameOf(a, b); got != bool01(same) {
		t.Errorf("SameOf %v and %v: %v", a, b, got)
	}
	v, trap := impl.NotOf(a)
	if got := (outcome{v, trap}); got != notByLaw(a) {
		t.Errorf("NotOf %v: %v", a, got)
	}
}

func TestEveryTwoValues(t *testing.T) {
	values := someValues()
	for _, a := range values {
		for _, b := range values {
			checkOperations(t, a, b)
			checkPromiseOfValues(t, a, b)
		}
	}
}

// checkPromiseOfValues asks what promise 4 says, of the calls alone.
func checkPromiseOfValues(t *testing.T, a impl.Value, b impl.Value) {
	t.Helper()
	for _, x := range operations() {
		if v, trap := x.do(a, b); trap != 0 && v != (impl.Value{}) {
			t.Errorf("%s of %v and %v traps, and has the value %v", x.name, a, b, v)
		}
	}
	if a.Kind == impl.VInt && b.Kind == impl.VInt {
		checkNumbersBothWays(t, a, b)
	}
	if a.Kind == b.Kind && (a.Kind == impl.VInt || a.Kind == impl.VText) {
		checkOneOfThree(t, a, b)
	}
}

func checkNumbersBothWays(t *testing.T, a impl.Value, b impl.Value) {
	t.Helper()
	a.S, b.S = "", ""
	for _, do := range []func(impl.Value, impl.Value) (impl.Value, int){impl.AddOf, impl.MulOf} {
		there, trapThere := do(a, b)
		back, trapBack := do(b, a)
		if there != back || trapThere != trapBack {
			t.Errorf("%v and %v give %v, %d, and the other way %v, %d", a, b, there, trapThere, back, trapBack)
		}
	}
	if sum, trap := impl.AddOf(a, b); trap == 0 {
		if v, trap := impl.SubOf(sum, b); v != a || trap != 0 {
			t.Errorf("%v and %v: the sum less one is %v, %d", a, b, v, trap)
		}
	}
	if left, trap := impl.SubOf(a, b); trap == 0 {
		if v, trap := impl.AddOf(left, b); v != a || trap != 0 {
			t.Errorf("%v and %v: the difference and the one give %v, %d", a, b, v, trap)
		}
	}
}

// checkOneOfThree takes the fields that are not named away, as these make numbers unlike that are not less.
func checkOneOfThree(t *testing.T, a impl.Value, b impl.Value) {
	t.Helper()
	if a.Kind == impl.VInt {
		a.S, b.S = "", ""
	} else {
		a.N, b.N = 0, 0
	}
	less, trap := impl.LessOf(a, b)
	more, trapBack := impl.LessOf(b, a)
	if less.N+more.N+impl.SameOf(a, b).N != 1 || trap != 0 || trapBack != 0 {
		t.Errorf("%v and %v: less %v, more %v, same %v", a, b, less, more, impl.SameOf(a, b))
	}
}

// written is a call with two Values, and what it answers.
type written struct {
	a    impl.Value
	b    impl.Value
	want outcome
}

func checkWritten(t *testing.T, name string, do func(impl.Value, impl.Value) (impl.Value, int), list []written) {
	t.Helper()
	for _, x := range list {
		v, trap := do(x.a, x.b)
		if got := (outcome{v, trap}); got != x.want {
			t.Errorf("%s of %v and %v: %v, not %v", name, x.a, x.b, got, x.want)
		}
	}
}

func TestSums(t *testing.T) {
	checkWritten(t, "AddOf", impl.AddOf, []written{
		{num(2), num(3), gives(num(5))},
		{num(2), num(-3), gives(num(-1))},
		{num(0), num(0), gives(num(0))},
		{num(999999999), num(1), gives(num(1000000000))},
		{num(1000000000), num(0), gives(num(1000000000))},
		{num(1000000000), num(-1000000000), gives(num(0))},
		{num(500000000), num(500000000), gives(num(1000000000))},
		{num(500000000), num(500000001), traps(2)},
		{num(1000000000), num(1), traps(2)},
		{num(1000000000), num(1000000000), traps(2)},
		{num(-999999999), num(-1), gives(num(-1000000000))},
		{num(-1000000000), num(-1), traps(2)},
		{num(1000000001), num(-1), traps(2)},
		{num(-1), num(1000000001), traps(2)},
		{num(-1000000001), num(1), traps(2)},
		{num(1), num(-1000000001), traps(2)},
		{num(math.MaxInt), num(math.MinInt), traps(2)},
		{num(math.MinInt), num(math.MinInt), traps(2)},
		{num(1 << 62), num(1 << 62), traps(2)},
		{num(math.MaxInt), num(-math.MaxInt), traps(2)},
	})
}

func TestDifferences(t *testing.T) {
	checkWritten(t, "SubOf", impl.SubOf, []written{
		{num(2), num(3), gives(num(-1))},
		{num(3), num(2), gives(num(1))},
		{num(-999999999), num(1), gives(num(-1000000000))},
		{num(-1000000000), num(1), traps(2)},
		{num(0), num(1000000000), gives(num(-1000000000))},
		{num(0), num(-1000000000), gives(num(1000000000))},
		{num(-1), num(1000000000), traps(2)},
		{num(1), num(-1000000000), traps(2)},
		{num(999999999), num(-1), gives(num(1000000000))},
		{num(1000000000), num(-1), traps(2)},
		{num(1000000000), num(1000000000), gives(num(0))},
		{num(1000000001), num(1000000001), traps(2)},
		{num(1000000001), num(1), traps(2)},
		{num(-1), num(-1000000001), traps(2)},
		{num(math.MinInt), num(math.MinInt), traps(2)},
		{num(math.MaxInt), num(math.MinInt), traps(2)},
		{num(0), num(math.MinInt), traps(2)},
		{text("a"), text("a"), traps(1)},
		{text("a"), text(""), traps(1)},
	})
}

func TestProducts(t *testing.T) {
	checkWritten(t, "MulOf", impl.MulOf, []written{
		{num(2), num(3), gives(num(6))},
		{num(-2), num(3), gives(num(-6))},
		{num(-2), num(-3), gives(num(6))},
		{num(1000000), num(1000), gives(num(1000000000))},
		{num(1000000), num(-1000), gives(num(-1000000000))},
		{num(-1000000000), num(-1), gives(num(1000000000))},
		{num(1000000000), num(-1), gives(num(-1000000000))},
		// 7 * 142857143 is one past MaxNum.
		{num(7), num(142857143), traps(2)},
		{num(-7), num(142857143), traps(2)},
		{num(1000000000), num(2), traps(2)},
		{num(1000000000), num(1000000000), traps(2)},
		{num(-1000000000), num(1000000000), traps(2)},
		{num(1000000000), num(0), gives(num(0))},
		{num(1000000001), num(0), traps(2)},
		{num(0), num(-1000000001), traps(2)},
		{num(1 << 32), num(1 << 32), traps(2)},
		{num(1 << 62), num(4), traps(2)},
		{num(math.MinInt), num(-1), traps(2)},
		{num(math.MaxInt), num(math.MaxInt), traps(2)},
		{text("a"), num(2), traps(1)},
		{text("a"), text("a"), traps(1)},
		{truth(1), truth(1), traps(1)},
	})
}

func TestTextsOneBehindTheOther(t *testing.T) {
	checkWritten(t, "AddOf", impl.AddOf, []written{
		{text("ab"), text("c"), gives(text("abc"))},
		{text("c"), text("ab"), gives(text("cab"))},
		{text(""), text(""), gives(text(""))},
		{text(""), text("a"), gives(text("a"))},
		{text("a"), text(""), gives(text("a"))},
		{text("1"), text("2"), gives(text("12"))},
		{text(xs(30)), text(xs(30)), gives(text(xs(60)))},
		{text(xs(30)), text(xs(31)), traps(3)},
		{text(xs(31)), text(xs(30)), traps(3)},
		{text(xs(60)), text(""), gives(text(xs(60)))},
		{text(""), text(xs(60)), gives(text(xs(60)))},
		{text(xs(60)), text("y"), traps(3)},
		{text("y"), text(xs(60)), traps(3)},
		{text(xs(61)), text(""), traps(3)},
		{text(""), text(xs(61)), traps(3)},
		{text("\n\""), text("\xff"), gives(text("\n\"\xff"))},
		{text(strings.Repeat("é", 30)), text(""), gives(text(strings.Repeat("é", 30)))},
		{text(strings.Repeat("é", 30)), text("e"), traps(3)},
		{text("2"), num(1), traps(1)},
		{num(1), text("2"), traps(1)},
	})
}

func TestWhichIsLess(t *testing.T) {
	yes, no := gives(truth(1)), gives(truth(0))
	checkWritten(t, "LessOf", impl.LessOf, []written{
		{num(1), num(2), yes}, {num(2), num(1), no}, {num(2), num(2), no}, {num(-1), num(0), yes}, {num(-2), num(-1), yes},
		{num(-1000000000), num(1000000000), yes}, {num(1000000000), num(1000000001), yes},
		{num(math.MinInt), num(math.MaxInt), yes}, {num(math.MaxInt), num(math.MinInt), no}, {num(math.MinInt), num(math.MinInt), no},
		{text(""), text("a"), yes}, {text("a"), text(""), no}, {text(""), text(""), no},
		{text("ab"), text("abc"), yes}, {text("abc"), text("ab"), no}, {text("abc"), text("abc"), no},
		{text("abc"), text("bbc"), yes}, {text("bbc"), text("abc"), no}, {text("abc"), text("abd"), yes}, {text("abd"), text("abc"), no},
		{text("b"), text("abc"), no}, {text("10"), text("9"), yes}, {text("B"), text("a"), yes}, {text("~"), text("\xff"), yes},
		{num(1), text("2"), traps(1)}, {text("1"), num(2), traps(1)}, {truth(0), truth(1), traps(1)}, {impl.Value{}, impl.Value{}, traps(1)},
		{rec(0), rec(1), traps(1)}, {fun(0), fun(1), traps(1)},
	})
}

// Fields that a kind does not name are not worked with, and are not there in what comes out.
func TestFieldsThatAreNotNamed(t *testing.T) {
	a, b := impl.Value{Kind: impl.VInt, N: 3, S: "zz"}, impl.Value{Kind: impl.VInt, N: 4, S: "aa"}
	checkWritten(t, "AddOf", impl.AddOf, []written{{a, b, gives(num(7))}})
	checkWritten(t, "SubOf", impl.SubOf, []written{{a, b, gives(num(-1))}})
	checkWritten(t, "MulOf", impl.MulOf, []written{{a, b, gives(num(12))}})
	checkWritten(t, "LessOf", impl.LessOf, []written{{a, b, gives(truth(1))}})
	a, b = impl.Value{Kind: impl.VText, N: 2000000000, S: "a"}, impl.Value{Kind: impl.VText, N: 1, S: "b"}
	checkWritten(t, "AddOf", impl.AddOf, []written{{a, b, gives(text("ab"))}})
	checkWritten(t, "LessOf", impl.LessOf, []written{{a, b, gives(truth(1))}})
	checkWritten(t, "SubOf", impl.SubOf, []written{{a, b, traps(1)}})
	if v, trap := impl.NotOf(impl.Value{Kind: impl.VBool, S: "a"}); v != truth(1) || trap != 0 {
		t.Error(v, trap)
	}
}

// TrType is told ahead of TrOver and of TrText, whichever of the two has the other fault.
func TestSeveralFaultsOfValues(t *testing.T) {
	far, long := num(math.MaxInt), text(xs(61))
	odd := impl.Value{Kind: 6, N: math.MaxInt, S: xs(61)}
	for _, x := range operations() {
		var list []written
		for _, other := range []impl.Value{{}, truth(1), truth(7), rec(0), rec(-1), fun(0), odd, {Kind: -1}} {
			list = append(list, written{far, other, traps(1)}, written{other, far, traps(1)},
				written{long, other, traps(1)}, written{other, long, traps(1)}, written{other, other, traps(1)})
		}
		list = append(list, written{far, long, traps(1)}, written{long, far, traps(1)})
		checkWritten(t, x.name, x.do, list)
	}
	for _, a := range []impl.Value{{}, {N: 1}, far, long, odd, num(1), rec(0), fun(1), text("true"), {Kind: -2, N: 1}} {
		if v, trap := impl.NotOf(a); v != (impl.Value{}) || trap != 1 {
			t.Errorf("NotOf %v: %v, %d", a, v, trap)
		}
	}
}

func TestOtherTruths(t *testing.T) {
	for n, want := range map[int]int{1: 0, 0: 1, 2: 1, -1: 1, 256: 1, math.MaxInt: 1, math.MinInt: 1} {
		if v, trap := impl.NotOf(truth(n)); v != truth(want) || trap != 0 {
			t.Errorf("NotOf %d: %v, %d", n, v, trap)
		}
	}
}

// Two Values are told apart by each field alone, named or not.
func TestSameInEachField(t *testing.T) {
	for _, a := range someValues() {
		others := []impl.Value{{Kind: a.Kind + 1, N: a.N, S: a.S}, {Kind: a.Kind, N: a.N + 1, S: a.S}, {Kind: a.Kind, N: a.N, S: a.S + "a"}}
		for _, b := range others {
			if impl.SameOf(a, b) != truth(0) || impl.SameOf(b, a) != truth(0) {
				t.Errorf("%v and %v are told to be the same", a, b)
			}
		}
		copied := impl.Value{Kind: a.Kind, N: a.N, S: string([]byte(a.S))}
		if impl.SameOf(a, a) != truth(1) || impl.SameOf(a, copied) != truth(1) {
			t.Errorf("%v is told to be another", a)
		}
	}
}

// someHeap has records of no field, of one, of MaxFields and of more.
func someHeap() []impl.Rec {
	return []impl.Rec{{}, {Fields: []impl.Value{num(1)}}, {Fields: make([]impl.Value, 6)}, {Fields: make([]impl.Value, 12)}, {Fields: []impl.Value{rec(0), rec(9)}}}
}

func TestTextsOfValues(t *testing.T) {
	heap := someHeap()
	for _, x := range []struct {
		v    impl.Value
		want string
	}{
		{impl.Value{}, "nil"}, {impl.Value{N: 4, S: "a"}, "nil"},
		{num(0), "0"}, {num(-7), "-7"}, {num(10), "10"}, {num(1000000000), "1000000000"}, {num(-1000000001), "-1000000001"},
		{num(math.MinInt), "-9223372036854775808"}, {num(math.MaxInt), "9223372036854775807"},
		{truth(1), "true"}, {truth(0), "false"}, {truth(2), "false"}, {truth(-1), "false"},
		{text(""), ""}, {text("ab c"), "ab c"}, {text("\n\""), "\n\""}, {text(xs(61)), xs(61)},
		{fun(0), "fun0"}, {fun(11), "fun11"}, {fun(12), "fun12"}, {fun(-1), "fun-1"},
		{rec(0), "{0}"}, {rec(1), "{1}"}, {rec(2), "{6}"}, {rec(3), "{12}"}, {rec(4), "{2}"},
		{rec(5), ""}, {rec(-1), ""}, {rec(math.MaxInt), ""}, {rec(math.MinInt), ""},
		{impl.Value{Kind: -1, N: 1, S: "a"}, ""}, {impl.Value{Kind: 6, N: 1, S: "a"}, ""},
	} {
		if got := impl.ValueText(x.v, heap); got != x.want {
			t.Errorf("ValueText of %v: %q, not %q", x.v, got, x.want)
		}
	}
	for _, v := range someValues() {
		for _, heap := range [][]impl.Rec{nil, {}, {{}}, someHeap()} {
			if got, want := impl.ValueText(v, heap), textByLaw(v, heap); got != want {
				t.Errorf("ValueText of %v, with %d records: %q, not %q", v, len(heap), got, want)
			}
		}
	}
}

func TestValuesThatAreOk(t *testing.T) {
	for _, m := range []impl.Module{one(nils(1)...), sample(), manyFuncs(impl.MaxFuncs), greatest()} {
		for _, recs := range []int{0, 1, 2, 5, 6, 120, math.MaxInt, -1, math.MinInt} {
			for _, v := range someValues() {
				if got, want := impl.ValueOk(m, v, recs), okByLaw(m, v, recs); got != want {
					t.Errorf("ValueOk of %v, with %d records, of %d functions: %v", v, recs, len(m.Funcs), got)
				}
			}
		}
	}
}

func TestEdgesOfValuesThatAreOk(t *testing.T) {
	m := manyFuncs(3)
	good := []impl.Value{{}, num(0), num(1000000000), num(-1000000000), truth(0), truth(1), text(""), text(" !#~"), text(xs(60)), rec(0), rec(6), fun(0), fun(2)}
	bad := []impl.Value{
		num(1000000001), num(-1000000001), num(math.MaxInt), num(math.MinInt), truth(2), truth(-1),
		text(xs(61)), text("\x1f"), text("\x7f"), text("a\""), text("é"), text("\x00"), text("\n"),
		rec(7), rec(-1), fun(3), fun(-1), {Kind: -1}, {Kind: 6}, {Kind: 6, N: 1}, {Kind: 257, N: 1},
	}
	for _, v := range good {
		if !impl.ValueOk(m, v, 7) {
			t.Errorf("%v is refused", v)
		}
	}
	for _, v := range append(bad, overfull()...) {
		if impl.ValueOk(m, v, 7) {
			t.Errorf("%v is taken", v)
		}
	}
	for recs := -2; recs <= 0; recs++ {
		if impl.ValueOk(m, rec(0), recs) || impl.ValueOk(m, rec(-1), recs) || impl.ValueOk(m, rec(recs-1), recs) {
			t.Errorf("a record is taken with %d records", recs)
		}
		if !impl.ValueOk(m, num(1), recs) || !impl.ValueOk(m, impl.Value{}, recs) || !impl.ValueOk(m, fun(2), recs) {
			t.Errorf("what is no record is refused with %d records", recs)
		}
	}
}

func TestNoValueIsOkWithoutAModule(t *testing.T) {
	wrong := wrongModules()
	for _, x := range limitsOfModules() {
		wrong["past "+x.name] = x.past
	}
	for name, m := range wrong {
		for _, v := range []impl.Value{{}, num(1), truth(1), text("a"), rec(0), fun(0)} {
			if impl.ValueOk(m, v, 5) {
				t.Errorf("%s: %v is taken", name, v)
			}
		}
	}
	for _, x := range limitsOfModules() {
		if !impl.ValueOk(x.at, num(1), 0) {
			t.Errorf("%s: met, and refused", x.name)
		}
	}
	// A module that is ok and not good has values as well: what ValueOk asks is form alone.
	if !impl.ValueOk(one(dropIns), num(1), 0) || !impl.ValueOk(one(nilIns), fun(0), 0) {
		t.Error("a value of a module that is not good is refused")
	}
}

// randomValue is of any kind, and lies near an end of what its kind may have more often than not.
func randomValue(r *rand.Rand) impl.Value {
	values := someValues()
	v := values[r.Intn(len(values))]
	switch r.Intn(4) {
	case 0:
		v.N = r.Intn(2000000001) - 1000000000
	case 1:
		v.N >>= r.Intn(40)
	case 2:
		v.S = v.S[:r.Intn(len(v.S)+1)]
	}
	return v
}

func TestManyValues(t *testing.T) {
	r := rand.New(rand.NewSource(4))
	for range 40000 {
		a, b := randomValue(r), randomValue(r)
		checkOperations(t, a, b)
		checkPromiseOfValues(t, a, b)
		b.Kind = a.Kind
		checkOperations(t, a, b)
		checkPromiseOfValues(t, a, b)
	}
}

func FuzzValues(f *testing.F) {
	for _, v := range someValues() {
		f.Add(v.Kind, v.N, v.S, v.Kind, 1, "a")
	}
	f.Fuzz(func(t *testing.T, kindA int, nA int, sA string, kindB int, nB int, sB string) {
		a, b := impl.Value{Kind: kindA, N: nA, S: sA}, impl.Value{Kind: kindB, N: nB, S: sB}
		checkOperations(t, a, b)
		checkPromiseOfValues(t, a, b)
		if got, want := impl.ValueText(a, someHeap()), textByLaw(a, someHeap()); got != want {
			t.Errorf("ValueText of %v: %q, not %q", a, got, want)
		}
		if got, want := impl.ValueOk(sample(), a, nB), okByLaw(sample(), a, nB); got != want {
			t.Errorf("ValueOk of %v with %d records: %v", a, nB, got)
		}
	})
}
