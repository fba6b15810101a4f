package tests

import (
	"math"
	"math/rand"
	"slices"
	"testing"

	"loop.example/g00094/impl"
)

func trouble(code int, f int, at int) impl.Trouble {
	return impl.Trouble{Code: code, Func: f, At: at}
}

func TestNumbersOfVerifying(t *testing.T) {
	numbers := []int{impl.MaxStack, impl.VfForm, impl.VfStack, impl.VfEnd, impl.VfJoin}
	if !slices.Equal(numbers, []int{16, 1, 2, 3, 4}) {
		t.Error(numbers)
	}
}

// usesByLaw has at each Op's number what it takes and lays; those of calls hang on A.
var usesByLaw = [27][2]int{
	1: {0, 1}, 2: {0, 1}, 3: {0, 1}, 4: {0, 1}, 5: {0, 1}, 6: {0, 1},
	7: {1, 0}, 8: {1, 2}, 9: {1, 0}, 10: {2, 2},
	11: {2, 1}, 12: {2, 1}, 13: {2, 1}, 14: {2, 1}, 15: {2, 1}, 16: {1, 1},
	17: {0, 0}, 18: {1, 0}, 19: {1, 0}, 20: {0, 1}, 21: {1, 1}, 22: {2, 0},
	25: {1, 0}, 26: {1, 0},
}

// usesOf is what an instruction takes and lays by the document's words.
func usesOf(m impl.Module, x impl.Ins) (int, int) {
	switch {
	case x.Op == impl.OpCall && x.A >= 0 && x.A <= 6:
		return x.A + 1, 1
	case x.Op == impl.OpInvoke && x.A >= 0 && x.A < len(m.Funcs):
		return m.Funcs[x.A].Params, 1
	case x.Op < 1 || x.Op > 26:
		return 0, 0
	}
	return usesByLaw[x.Op][0], usesByLaw[x.Op][1]
}

// checkUses asks that x takes and lays so many.
func checkUses(t *testing.T, m impl.Module, x impl.Ins, takes int, lays int) {
	t.Helper()
	if a, b := impl.UsesOf(m, x); a != takes || b != lays {
		t.Errorf("%v of %v: takes %d and lays %d, not %d and %d", x, m, a, b, takes, lays)
	}
}

// What an instruction other than a call takes and lays hangs neither on A nor on the module.
func TestUsesOfEachOp(t *testing.T) {
	for op := 1; op <= 26; op++ {
		if op == impl.OpCall || op == impl.OpInvoke {
			continue
		}
		for _, m := range append(someModules(), impl.Module{}) {
			for _, a := range []int{0, 1, -1, 7, 1000000001, math.MaxInt, math.MinInt} {
				checkUses(t, m, ins(op, a), usesByLaw[op][0], usesByLaw[op][1])
			}
		}
	}
}

func TestUsesOfCalls(t *testing.T) {
	for _, m := range []impl.Module{{}, sample()} {
		for a := range 7 {
			checkUses(t, m, ins(impl.OpCall, a), a+1, 1)
		}
		for _, a := range []int{-1, -2, impl.MaxParams + 1, impl.MaxParams + 2, math.MaxInt, math.MinInt} {
			checkUses(t, m, ins(impl.OpCall, a), 0, 0)
		}
	}
}

func TestUsesOfInvokes(t *testing.T) {
	m := manyFuncs(impl.MaxFuncs)
	for f := range m.Funcs {
		m.Funcs[f].Params = (f + 3) % 7
		m.Funcs[f].Locals = 12
	}
	for f := range m.Funcs {
		checkUses(t, m, ins(impl.OpInvoke, f), (f+3)%7, 1)
	}
	for _, a := range []int{-1, impl.MaxFuncs, impl.MaxFuncs + 1, math.MaxInt, math.MinInt} {
		checkUses(t, m, ins(impl.OpInvoke, a), 0, 0)
	}
	checkUses(t, sample(), ins(impl.OpInvoke, 0), 1, 1)
	checkUses(t, sample(), ins(impl.OpInvoke, 1), 0, 1)
	checkUses(t, sample(), ins(impl.OpInvoke, 2), 0, 0)
	checkUses(t, impl.Module{}, ins(impl.OpInvoke, 0), 0, 0)
}

func TestUsesOfNoOp(t *testing.T) {
	for _, op := range []int{0, -1, -26, 27, 28, 257, math.MinInt, math.MaxInt} {
		for _, a := range []int{0, 1, -1} {
			checkUses(t, sample(), ins(op, a), 0, 0)
		}
	}
}

// depthsByLaw goes through the instructions as the document says, without any care for how long that takes.
func depthsByLaw(m impl.Module, f int) []int {
	code := m.Funcs[f].Code
	out := slices.Repeat([]int{-1}, len(code))
	out[0] = 0
	for range len(code) + 1 {
		for at, x := range code {
			takes, lays := usesOf(m, x)
			if out[at] == -1 || takes > out[at] || out[at]-takes+lays > 16 {
				continue
			}
			give := func(next int) {
				if next < len(code) && out[next] == -1 {
					out[next] = out[at] - takes + lays
				}
			}
			if x.Op != impl.OpJump && x.Op != impl.OpReturn {
				give(at + 1)
			}
			if x.Op == impl.OpJump || x.Op == impl.OpIf || x.Op == impl.OpIfNot {
				give(x.A)
			}
		}
	}
	return out
}

// verifyByLaw lists all troubles of a module that is ok, in the order of the document, and gives the first.
func verifyByLaw(m impl.Module) impl.Trouble {
	var all []impl.Trouble
	for f, fn := range m.Funcs {
		depths := depthsByLaw(m, f)
		for at, x := range fn.Code {
			takes, lays := usesOf(m, x)
			left := depths[at] - takes + lays
			goesOn := x.Op != impl.OpJump && x.Op != impl.OpReturn
			jumps := x.Op == impl.OpJump || x.Op == impl.OpIf || x.Op == impl.OpIfNot
			if depths[at] == -1 {
				continue
			}
			if takes > depths[at] || left > 16 {
				all = append(all, trouble(2, f, at))
				continue
			}
			if goesOn && at+1 == len(fn.Code) {
				all = append(all, trouble(3, f, at))
			}
			if goesOn && at+1 < len(fn.Code) && depths[at+1] != left || jumps && depths[x.A] != left {
				all = append(all, trouble(4, f, at))
			}
		}
	}
	if len(all) == 0 {
		return impl.Trouble{}
	}
	return all[0]
}

// stand is where one may be within a function, and how high the stack is there.
type stand struct {
	at     int
	height int
}

// walk goes all ways through a function, whatever is told of heights. It gives where one comes to, and whether
// one always finds what is taken, leaves no more than MaxStack, and never comes behind the end.
func walk(m impl.Module, f int) (map[stand]bool, bool) {
	code := m.Funcs[f].Code
	seen := map[stand]bool{}
	safe := true
	work := []stand{{0, 0}}
	for len(work) > 0 {
		s := work[len(work)-1]
		work = work[:len(work)-1]
		if s.at == len(code) {
			safe = false
			continue
		}
		if seen[s] {
			continue
		}
		seen[s] = true
		x := code[s.at]
		takes, lays := usesOf(m, x)
		left := s.height - takes + lays
		if takes > s.height || left > 16 {
			safe = false
			continue
		}
		if x.Op == impl.OpJump || x.Op == impl.OpIf || x.Op == impl.OpIfNot {
			work = append(work, stand{x.A, left})
		}
		if x.Op != impl.OpJump && x.Op != impl.OpReturn {
			work = append(work, stand{s.at + 1, left})
		}
	}
	return seen, safe
}

// checkPromise asks that m is good just if every walk goes well and comes to each instruction with one height
// alone, and that the heights of a good module are those of the walks.
func checkPromise(t *testing.T, m impl.Module) {
	t.Helper()
	allSafe := true
	for f, fn := range m.Funcs {
		seen, safe := walk(m, f)
		depths := slices.Repeat([]int{-1}, len(fn.Code))
		for s := range seen {
			safe = safe && depths[s.at] == -1
			depths[s.at] = s.height
		}
		allSafe = allSafe && safe
		if got := impl.DepthsOf(m, f); safe && !slices.Equal(got, depths) {
			t.Fatalf("%v, function %d: heights %v, walked %v", m, f, got, depths)
		}
	}
	if got := impl.Verify(m); (got.Code == impl.OK) != allSafe {
		t.Fatalf("%v: told %v, walked well: %v", m, got, allSafe)
	}
}

// checkVerify holds all that is told of a module that is ok against the law, and against what it promises.
func checkVerify(t *testing.T, m impl.Module) {
	t.Helper()
	for f := range m.Funcs {
		if got, want := impl.DepthsOf(m, f), depthsByLaw(m, f); !slices.Equal(got, want) {
			t.Fatalf("%v, function %d: heights %v, not %v", m, f, got, want)
		}
	}
	if got, want := impl.Verify(m), verifyByLaw(m); got != want {
		t.Fatalf("%v: %v, not %v", m, got, want)
	}
	checkPromise(t, m)
}

// verified is a module, the heights of its function 0, and what Verify tells of it.
type verified struct {
	name   string
	m      impl.Module
	depths []int
	want   impl.Trouble
}

func checkVerified(t *testing.T, list []verified) {
	t.Helper()
	for _, x := range list {
		if got := impl.DepthsOf(x.m, 0); !slices.Equal(got, x.depths) {
			t.Errorf("%s: heights %v, not %v", x.name, got, x.depths)
		}
		if got := impl.Verify(x.m); got != x.want {
			t.Errorf("%s: %v, not %v", x.name, got, x.want)
		}
		checkVerify(t, x.m)
	}
}

var (
	nilIns    = ins(impl.OpNil, 0)
	dropIns   = ins(impl.OpDrop, 0)
	returnIns = ins(impl.OpReturn, 0)
	trueIns   = ins(impl.OpBool, 1)
)

func jump(a int) impl.Ins   { return ins(impl.OpJump, a) }
func ifTo(a int) impl.Ins   { return ins(impl.OpIf, a) }
func ifNot(a int) impl.Ins  { return ins(impl.OpIfNot, a) }
func invoke(a int) impl.Ins { return ins(impl.OpInvoke, a) }
func call(a int) impl.Ins   { return ins(impl.OpCall, a) }

func TestGoodModules(t *testing.T) {
	checkVerified(t, []verified{
		{"nil, return", one(nilIns, returnIns), []int{0, 1}, impl.Trouble{}},
		{"a jump to itself alone", one(jump(0)), []int{0}, impl.Trouble{}},
		{"a jump ahead", one(jump(2), nilIns, nilIns, returnIns), []int{0, -1, 0, 1}, impl.Trouble{}},
		{"a jump to the last", one(nilIns, jump(3), dropIns, returnIns), []int{0, 1, -1, 1}, impl.Trouble{}},
		{"a jump back to 0", one(nilIns, dropIns, jump(0)), []int{0, 1, 0}, impl.Trouble{}},
		{"a jump to its own place behind others", one(nilIns, nilIns, jump(2)), []int{0, 1, 2}, impl.Trouble{}},
		{"a branch to the next", one(trueIns, ifTo(2), nilIns, returnIns), []int{0, 1, 0, 1}, impl.Trouble{}},
		{"a branch back to 0", one(trueIns, ifNot(0), nilIns, returnIns), []int{0, 1, 0, 1}, impl.Trouble{}},
		{"branches that meet again", one(trueIns, ifNot(4), ins(impl.OpInt, 1), jump(5), nilIns, returnIns), []int{0, 1, 0, 1, 0, 1}, impl.Trouble{}},
		{"a return with more below", one(nilIns, nilIns, nilIns, returnIns), []int{0, 1, 2, 3}, impl.Trouble{}},
		{"returns at several heights", one(trueIns, ifTo(4), nilIns, returnIns, nilIns, nilIns, returnIns), []int{0, 1, 0, 1, 0, 1, 2}, impl.Trouble{}},
		{"what nobody comes to takes more than there is", one(nilIns, returnIns, dropIns, returnIns), []int{0, 1, -1, -1}, impl.Trouble{}},
		{"what nobody comes to joins wrongly", one(nilIns, returnIns, nilIns, jump(0)), []int{0, 1, -1, -1}, impl.Trouble{}},
		{"the last instruction nobody comes to", one(nilIns, returnIns, nilIns), []int{0, 1, -1}, impl.Trouble{}},
		{"a record", one(ins(impl.OpNew, 2), ins(impl.OpDup, 0), ins(impl.OpInt, 5), ins(impl.OpPut, 1), ins(impl.OpGet, 1), returnIns), []int{0, 1, 2, 3, 1, 1}, impl.Trouble{}},
		{"a call without values", one(ins(impl.OpFun, 0), call(0), returnIns), []int{0, 1, 1}, impl.Trouble{}},
		{"swap, print, same, not", one(nilIns, nilIns, ins(impl.OpSwap, 0), ins(impl.OpPrint, 0), nilIns, ins(impl.OpSame, 0), ins(impl.OpNot, 0), returnIns), []int{0, 1, 2, 2, 1, 2, 1, 1}, impl.Trouble{}},
	})
}

// counting counts up to its argument.
func counting() impl.Func {
	return impl.Func{Params: 1, Locals: 2, Code: []impl.Ins{
		ins(impl.OpInt, 0), ins(impl.OpStore, 1),
		ins(impl.OpLoad, 1), ins(impl.OpLoad, 0), ins(impl.OpLess, 0), ifNot(11),
		ins(impl.OpLoad, 1), ins(impl.OpInt, 1), ins(impl.OpAdd, 0), ins(impl.OpStore, 1), jump(2),
		ins(impl.OpLoad, 1), returnIns,
	}}
}

// several has functions that invoke each other: function 0 the last and the first, with two values and with none.
func several() impl.Module {
	return impl.Module{Texts: []string{"a"}, Funcs: []impl.Func{
		{Code: []impl.Ins{ins(impl.OpText, 0), ins(impl.OpInt, 3), invoke(2), ins(impl.OpPrint, 0), invoke(0), ins(impl.OpFun, 1), nilIns, call(1), ins(impl.OpSame, 0), returnIns}},
		counting(),
		{Params: 2, Locals: 2, Code: []impl.Ins{ins(impl.OpLoad, 1), invoke(1), returnIns}},
	}}
}

func TestGoodModulesOfSeveralFunctions(t *testing.T) {
	m := several()
	want := [][]int{{0, 1, 2, 1, 0, 1, 2, 3, 2, 1}, {0, 1, 0, 1, 2, 1, 0, 1, 2, 1, 0, 0, 1}, {0, 1, 1}}
	for f := range m.Funcs {
		if got := impl.DepthsOf(m, f); !slices.Equal(got, want[f]) {
			t.Errorf("function %d: %v", f, got)
		}
	}
	checkVerified(t, []verified{{"several functions", m, want[0], impl.Trouble{}}})
}

// Heights that only a later instruction gives take more than one round, and each of these steps back one more.
func TestHeightsFromLaterInstructions(t *testing.T) {
	checkVerified(t, []verified{
		{"one step back", one(jump(3), nilIns, returnIns, jump(1)), []int{0, 0, 1, 0}, impl.Trouble{}},
		{"three steps back", one(jump(7), nilIns, returnIns, jump(1), nilIns, jump(3), jump(3), jump(6)), []int{0, 0, 1, 0, -1, -1, 0, 0}, impl.Trouble{}},
		{"a fault in a later round", one(jump(3), dropIns, returnIns, jump(1)), []int{0, 0, -1, 0}, trouble(2, 0, 1)},
	})
	m := one(jump(impl.MaxCode - 1))
	m.Funcs[0].Code = append(m.Funcs[0].Code, nilIns, returnIns)
	for at := 3; at < impl.MaxCode; at++ {
		m.Funcs[0].Code = append(m.Funcs[0].Code, jump(at-1))
	}
	m.Funcs[0].Code[3] = jump(1)
	if got := impl.Verify(m); got != (impl.Trouble{}) {
		t.Errorf("MaxCode - 2 steps back: %v", got)
	}
	if got := impl.DepthsOf(m, 0); !slices.Equal(got, append([]int{0, 0, 1}, make([]int, impl.MaxCode-3)...)) {
		t.Errorf("MaxCode - 2 steps back: %v", got)
	}
	checkVerify(t, m)
}

// Where ways of unlike heights meet, the one that comes first in the order of going through gives the height.
func TestWhichHeightIsTold(t *testing.T) {
	checkVerified(t, []verified{
		{"the way with more steps, as it comes first in a round", one(trueIns, ifTo(4), nilIns, jump(6), jump(6), nilIns, nilIns, returnIns),
			[]int{0, 1, 0, 1, 0, -1, 1, 2}, trouble(4, 0, 4)},
		{"the way behind, as each round is whole", one(trueIns, ifTo(7), jump(6), nilIns, jump(9), nilIns, jump(3), jump(9), nilIns, nilIns, returnIns),
			[]int{0, 1, 0, 0, 1, -1, 0, 0, -1, 0, 1}, trouble(4, 0, 4)},
		{"a loop keeps the height that led into it", one(nilIns, nilIns, jump(1)), []int{0, 1, 2}, trouble(4, 0, 2)},
		{"0 keeps 0", one(nilIns, jump(0)), []int{0, 1}, trouble(4, 0, 1)},
		{"a branch ahead gives first, and the way on has another height", one(trueIns, ifTo(3), nilIns, nilIns, returnIns), []int{0, 1, 0, 0, 1}, trouble(4, 0, 2)},
	})
}

// atHeight is a function whose instruction x finds a stack of this height, and a return behind it.
func atHeight(height int, x impl.Ins) impl.Module {
	m := impl.Module{Texts: []string{"a"}, Funcs: []impl.Func{
		{Locals: 1, Code: append(append(nils(height), x), nilIns, returnIns)},
		{Params: impl.MaxParams, Locals: impl.MaxLocals, Code: []impl.Ins{nilIns, returnIns}},
		{Code: []impl.Ins{nilIns, returnIns}},
	}}
	return m
}

// eachOp has an instruction of each Op, with more As for calls; jumps go to the place behind themselves.
func eachOp(height int) []impl.Ins {
	list := []impl.Ins{call(1), call(3), call(impl.MaxParams), invoke(1), invoke(2)}
	for op := 1; op <= 26; op++ {
		x := ins(op, 0)
		if op == impl.OpJump || op == impl.OpIf || op == impl.OpIfNot {
			x.A = height + 1
		}
		list = append(list, x)
	}
	return list
}

func TestEachOpTakesWhatThereIsAndNoMore(t *testing.T) {
	for _, x := range eachOp(0) {
		takes, _ := usesOf(atHeight(0, x), x)
		for height := max(0, takes-1); height <= takes+1; height++ {
			y := x
			if x.Op == impl.OpJump || x.Op == impl.OpIf || x.Op == impl.OpIfNot {
				y.A = height + 1
			}
			m := atHeight(height, y)
			want := impl.Trouble{}
			if height < takes {
				want = trouble(2, 0, height)
			}
			if got := impl.Verify(m); got != want {
				t.Errorf("%v at a height of %d: %v", y, height, got)
			}
			checkVerify(t, m)
		}
	}
}

func TestEachOpLeavesMaxStackAndNoMore(t *testing.T) {
	for height := 9; height <= impl.MaxStack; height++ {
		for _, x := range eachOp(height) {
			m := atHeight(height, x)
			// The nil behind x would pass MaxStack too; a jump to its own place stands there instead.
			m.Funcs[0].Code[height+1] = jump(height + 1)
			takes, lays := usesOf(m, x)
			want := impl.Trouble{}
			if height-takes+lays > impl.MaxStack {
				want = trouble(2, 0, height)
			}
			if got := impl.Verify(m); got != want {
				t.Errorf("%v at a height of %d: %v", x, height, got)
			}
			if got := impl.DepthsOf(m, 0)[height+1]; (got == -1) != (want.Code != 0 || x.Op == impl.OpReturn) {
				t.Errorf("%v at a height of %d: the next one has %d", x, height, got)
			}
			checkVerify(t, m)
		}
	}
}

func TestAStackOfMaxStack(t *testing.T) {
	full := []int{0, 1, 2, 3, 4, 5, 6, 7, 8, 9, 10, 11, 12, 13, 14, 15, 16}
	checkVerified(t, []verified{
		{"just MaxStack", one(append(nils(16), returnIns)...), full, impl.Trouble{}},
		{"one more", one(append(nils(17), returnIns)...), append(slices.Clone(full), -1), trouble(2, 0, 16)},
		{"one more at the end", one(nils(17)...), full, trouble(2, 0, 16)},
		{"dup to MaxStack", one(append(nils(15), ins(impl.OpDup, 0), returnIns)...), full, impl.Trouble{}},
		{"dup past it", one(append(nils(16), ins(impl.OpDup, 0), returnIns)...), append(slices.Clone(full), -1), trouble(2, 0, 16)},
		{"swap at MaxStack", one(append(nils(16), ins(impl.OpSwap, 0), returnIns)...), append(slices.Clone(full), 16), impl.Trouble{}},
		{"a call at MaxStack", one(append(nils(16), call(0), returnIns)...), append(slices.Clone(full), 16), impl.Trouble{}},
		{"an invoke that lays one more", one(append(nils(16), invoke(0), returnIns)...), append(slices.Clone(full), -1), trouble(2, 0, 16)},
		{"an invoke to MaxStack", one(append(nils(15), invoke(0), returnIns)...), full, impl.Trouble{}},
	})
}

// A call's A that the table does not allow is a fault of form, wherever the call stands.
func TestCallsThatAreNone(t *testing.T) {
	for _, a := range []int{-1, impl.MaxParams + 1} {
		for _, m := range []impl.Module{one(call(a)), one(nilIns, returnIns, call(a))} {
			if got := impl.Verify(m); got != trouble(1, 0, 0) {
				t.Errorf("call %d: %v", a, got)
			}
			if got := impl.DepthsOf(m, 0); len(got) != 0 {
				t.Errorf("call %d: %v", a, got)
			}
		}
	}
}

// invoking is a module whose function 1 invokes function a with one value; the first takes two, the last none.
func invoking(a int) impl.Module {
	code := []impl.Ins{nilIns, returnIns}
	return impl.Module{Funcs: []impl.Func{
		{Params: 2, Locals: 2, Code: code},
		{Params: 1, Locals: 1, Code: []impl.Ins{nilIns, invoke(a), returnIns}},
		{Code: code},
	}}
}

func TestInvokesOfEachFunctionAndOfNone(t *testing.T) {
	want := map[int]impl.Trouble{-1: trouble(1, 0, 0), 0: trouble(2, 1, 1), 1: {}, 2: {}, 3: trouble(1, 0, 0)}
	for a, x := range want {
		if got := impl.Verify(invoking(a)); got != x {
			t.Errorf("invoke %d: %v", a, got)
		}
	}
	depths := map[int][]int{-1: nil, 0: {0, 1, -1}, 1: {0, 1, 1}, 2: {0, 1, 2}, 3: nil}
	for a, x := range depths {
		if got := impl.DepthsOf(invoking(a), 1); !slices.Equal(got, x) {
			t.Errorf("invoke %d: heights %v", a, got)
		}
	}
}

// endingIn is a function whose last instruction is x, and finds a stack of height 8.
func endingIn(x impl.Ins) impl.Module {
	m := atHeight(8, x)
	m.Funcs[0].Code = m.Funcs[0].Code[:9]
	return m
}

func TestEachOpAtTheEnd(t *testing.T) {
	for _, x := range eachOp(0) {
		want := trouble(3, 0, 8)
		if x.Op == impl.OpJump || x.Op == impl.OpReturn {
			want = impl.Trouble{}
		}
		if x.Op == impl.OpJump {
			x.A = 8
		}
		if x.Op == impl.OpIf || x.Op == impl.OpIfNot {
			x.A = 7
		}
		if got := impl.Verify(endingIn(x)); got != want {
			t.Errorf("%v at the end: %v", x, got)
		}
		checkVerify(t, endingIn(x))
		m := endingIn(x)
		m.Funcs[0].Code[7] = returnIns
		if got := impl.Verify(m); got != (impl.Trouble{}) {
			t.Errorf("%v at the end, where nobody comes to it: %v", x, got)
		}
		checkVerify(t, m)
	}
}

// Of one instruction VfStack is told ahead of VfEnd, and VfEnd ahead of VfJoin.
func TestSeveralFaultsAtOneInstruction(t *testing.T) {
	full := nils(16)
	checkVerified(t, []verified{
		{"takes more, at the end", one(dropIns), []int{0}, trouble(2, 0, 0)},
		{"takes more, with a join", one(nilIns, dropIns, ifTo(1)), []int{0, 1, 0}, trouble(2, 0, 2)},
		{"takes more, at the end, with a join", one(ifTo(0)), []int{0}, trouble(2, 0, 0)},
		{"leaves more, at the end", one(append(full, nilIns)...), []int{0, 1, 2, 3, 4, 5, 6, 7, 8, 9, 10, 11, 12, 13, 14, 15, 16}, trouble(2, 0, 16)},
		{"a branch at the end with a join", one(nilIns, nilIns, ifTo(0)), []int{0, 1, 2}, trouble(3, 0, 2)},
		{"a branch at the end to itself", one(nilIns, ifTo(1)), []int{0, 1}, trouble(3, 0, 1)},
		{"a branch at the end without a join", one(nilIns, ifNot(0)), []int{0, 1}, trouble(3, 0, 1)},
		{"a join by the branch alone", one(nilIns, nilIns, ifTo(0), returnIns), []int{0, 1, 2, 1}, trouble(4, 0, 2)},
		{"a join by the way on alone", one(trueIns, ifTo(4), trueIns, ifNot(5), nilIns, nilIns, returnIns), []int{0, 1, 0, 1, 0, 0, 1}, trouble(4, 0, 4)},
		{"a join by both", one(trueIns, ifTo(4), nilIns, trueIns, ifTo(4), nilIns, returnIns), []int{0, 1, 0, 1, 0, -1, -1}, trouble(4, 0, 3)},
	})
}

// Faults at several instructions: the first instruction of the first function that has one is told.
func TestSeveralFaultsAtSeveralInstructions(t *testing.T) {
	checkVerified(t, []verified{
		{"a join ahead of too little", one(trueIns, ifTo(3), nilIns, dropIns, returnIns), []int{0, 1, 0, 0, -1}, trouble(4, 0, 2)},
		{"too little ahead of a join", one(trueIns, ifTo(4), dropIns, returnIns, nilIns, nilIns, jump(4)), []int{0, 1, 0, -1, 0, 1, 2}, trouble(2, 0, 2)},
		{"a join ahead of an end", one(trueIns, ifTo(3), nilIns, nilIns), []int{0, 1, 0, 0}, trouble(4, 0, 2)},
		{"a join ahead of too much", one(append([]impl.Ins{trueIns, ifTo(3), nilIns}, nils(17)...)...), []int{0, 1, 0, 0, 1, 2, 3, 4, 5, 6, 7, 8, 9, 10, 11, 12, 13, 14, 15, 16}, trouble(4, 0, 2)},
		{"two of one kind", one(trueIns, ifTo(3), dropIns, dropIns, returnIns), []int{0, 1, 0, 0, -1}, trouble(2, 0, 2)},
		{"what follows a fault is not told", one(dropIns, dropIns, nilIns), []int{0, -1, -1}, trouble(2, 0, 0)},
	})
	bad := map[int][]impl.Ins{2: {nilIns, dropIns, dropIns, returnIns}, 3: {nilIns, nilIns}, 4: {nilIns, nilIns, nilIns, jump(1)}}
	at := map[int]int{2: 2, 3: 1, 4: 3}
	for first := 2; first <= 4; first++ {
		for second := 2; second <= 4; second++ {
			m := manyFuncs(4)
			m.Funcs[0].Code = []impl.Ins{nilIns, nilIns, nilIns, nilIns, returnIns}
			m.Funcs[1].Code = bad[first]
			m.Funcs[2].Code = []impl.Ins{nilIns, returnIns}
			m.Funcs[3].Code = bad[second]
			if got := impl.Verify(m); got != trouble(first, 1, at[first]) {
				t.Errorf("codes %d and %d: %v", first, second, got)
			}
			m.Funcs[1].Code = m.Funcs[2].Code
			if got := impl.Verify(m); got != trouble(second, 3, at[second]) {
				t.Errorf("code %d in the last: %v", second, got)
			}
			checkVerify(t, m)
		}
	}
}

// A fault of form is told ahead of all others, without a place.
func TestVerifyOfModulesThatAreNotOk(t *testing.T) {
	wrong := wrongModules()
	for _, x := range limitsOfModules() {
		wrong["past "+x.name] = x.past
	}
	later := one(dropIns)
	later.Funcs = append(later.Funcs, impl.Func{Code: []impl.Ins{nilIns, ins(impl.OpLoad, 0)}})
	wrong["a fault of form behind another one"] = later
	wrong["a fault of form where nobody comes to"] = one(nilIns, returnIns, jump(3))
	for name, m := range wrong {
		if got := impl.Verify(m); got != trouble(1, 0, 0) {
			t.Errorf("%s: %v", name, got)
		}
		for f := -1; f <= len(m.Funcs); f++ {
			if got := impl.DepthsOf(m, f); len(got) != 0 {
				t.Errorf("%s: function %d has heights %v", name, f, got)
			}
		}
	}
}

func TestDepthsOfNoFunction(t *testing.T) {
	for _, m := range append(someModules(), several()) {
		n := len(m.Funcs)
		for _, f := range []int{-1, n, n + 1, math.MinInt, math.MaxInt} {
			if got := impl.DepthsOf(m, f); len(got) != 0 {
				t.Errorf("function %d of %d has heights %v", f, n, got)
			}
		}
		if len(impl.DepthsOf(m, 0)) != len(m.Funcs[0].Code) || len(impl.DepthsOf(m, n-1)) != len(m.Funcs[n-1].Code) {
			t.Errorf("%v: the first or the last function has no heights", m)
		}
	}
}

func TestVerifyAtEachLimit(t *testing.T) {
	for _, x := range limitsOfModules() {
		if got := impl.Verify(x.at); got.Code == impl.VfForm {
			t.Errorf("%s: met, and refused", x.name)
		}
		checkVerify(t, x.at)
	}
	if got := impl.Verify(greatest()); got != trouble(2, 0, 16) {
		t.Error(got)
	}
}

// TestVerifyOfAllShortFunctions goes through all functions of up to four instructions of the kinds that matter.
func TestVerifyOfAllShortFunctions(t *testing.T) {
	for length := 1; length <= 4; length++ {
		var kinds []impl.Ins
		for _, op := range []int{impl.OpNil, impl.OpDrop, impl.OpDup, impl.OpAdd, impl.OpReturn} {
			kinds = append(kinds, ins(op, 0))
		}
		for a := range length {
			kinds = append(kinds, jump(a), ifTo(a))
		}
		m := one(nils(length)...)
		var fill func(int)
		fill = func(at int) {
			if at == length {
				checkVerify(t, m)
				return
			}
			for _, x := range kinds {
				m.Funcs[0].Code[at] = x
				fill(at + 1)
			}
		}
		fill(0)
	}
}

// livelyModule is ok, and most of its instructions fit what stands ahead of them, so that walks go far.
func livelyModule(r *rand.Rand) impl.Module {
	m := impl.Module{Texts: []string{"a"}}
	for range 1 + r.Intn(3) {
		m.Funcs = append(m.Funcs, impl.Func{Params: r.Intn(4), Locals: 4, Code: nils(2 + r.Intn(14))})
	}
	for f := range m.Funcs {
		code := m.Funcs[f].Code
		rows := tableOf(m, f)
		height := r.Intn(2) * r.Intn(16)
		for at := range code[:len(code)-1] {
			for range 6 {
				x := rows[r.Intn(len(rows))]
				code[at] = ins(x.op, x.least+r.Intn(x.most-x.least+1))
				takes, lays := usesOf(m, code[at])
				if left := height - takes + lays; takes <= height && left <= impl.MaxStack || r.Intn(30) == 0 {
					height = min(max(left, 0), impl.MaxStack)
					break
				}
				code[at] = nilIns
			}
		}
		code[len(code)-1] = []impl.Ins{returnIns, jump(r.Intn(len(code))), nilIns}[r.Intn(3)]
	}
	return m
}

func TestVerifyOfManyModules(t *testing.T) {
	modules := append(manyModules(), everyOp(), several())
	r := rand.New(rand.NewSource(3))
	for range 60000 {
		modules = append(modules, livelyModule(r))
	}
	codes := map[int]int{}
	for _, m := range modules {
		checkVerify(t, m)
		codes[impl.Verify(m).Code]++
	}
	for _, code := range []int{impl.OK, impl.VfStack, impl.VfEnd, impl.VfJoin} {
		if codes[code] < 500 {
			t.Errorf("code %d came %d times alone: the modules try too little", code, codes[code])
		}
	}
}

func FuzzVerify(f *testing.F) {
	for _, m := range append(someModules(), everyOp(), several(), greatest()) {
		f.Add(told(m))
	}
	f.Fuzz(func(t *testing.T, b []byte) {
		if m, ok := impl.Load(b); ok {
			checkVerify(t, m)
		}
	})
}
