package tests

import (
	"fmt"
	"math"
	"slices"
	"testing"

	"loop.example/g00094/impl"
)

// straightCode has n instructions, 2 at least, and one comes to all of them.
func straightCode(n int) []impl.Ins {
	code := rails(n/2 - 1)
	if n%2 == 1 {
		code = append([]impl.Ins{nilIns}, code...)
	}
	return code
}

func checkStraight(t *testing.T, name string, m impl.Module, want bool) {
	t.Helper()
	if got := impl.Straight(m, 0); got != want || !goodByLaw(m) {
		t.Errorf("%s: straight %v, good %v", name, got, goodByLaw(m))
	}
	checkFlow(t, m)
}

// Instructions count whether one comes to them or not, and jumps that nobody comes to are none.
func TestStraightOfEachLength(t *testing.T) {
	for _, n := range []int{2, 3, 10, 23, 24, 25, 26, 48, 119, 120} {
		for come := 2; come <= n; come++ {
			short := n <= 24
			name := fmt.Sprint(come, " of ", n, " are come to")
			checkStraight(t, name, one(append(straightCode(come), nils(n-come)...)...), short)
			for _, op := range leapOps {
				rest := slices.Repeat([]impl.Ins{ins(op, n-1)}, n-come)
				checkStraight(t, fmt.Sprint(name, ", the others are ", op), one(append(straightCode(come), rest...)...), short)
			}
		}
	}
}

// One that is come to is enough, wherever it stands and leads to.
func TestStraightWithOneLeap(t *testing.T) {
	for _, n := range []int{4, 6, 22, 24, 26} {
		for at := 0; at < n; at += 2 {
			for to := 0; to < n; to += 2 {
				m := one(straightCode(n)...)
				m.Funcs[0].Code[at] = jump(to)
				checkStraight(t, fmt.Sprint("jump at ", at, " of ", n, " to ", to), m, false)
				for _, op := range leapOps[1:] {
					if at == n-2 {
						continue
					}
					m.Funcs[0].Code[at], m.Funcs[0].Code[at+1] = trueIns, ins(op, to)
					checkStraight(t, fmt.Sprint(op, " at ", at, " of ", n, " to ", to), m, false)
				}
			}
		}
	}
	checkStraight(t, "one of each", mod("func 0 0; bool 1; if 5; bool 1; ifnot 5; jump 5; nil; return"), false)
	checkStraight(t, "one that is come to beside one that is not", mod("func 0 0; jump 2; jump 0; nil; return"), false)
}

// Whether a function is straight hangs on that one alone.
func TestStraightBesideOthers(t *testing.T) {
	m := impl.Module{Funcs: []impl.Func{{Code: straightCode(25)}, {Code: straightCode(24)}, {Code: []impl.Ins{jump(0)}}, {Code: straightCode(2)}}}
	for f, want := range []bool{false, true, false, true} {
		if got := impl.Straight(m, f); got != want {
			t.Errorf("function %d: %v", f, got)
		}
	}
	checkFlow(t, m)
}

// longest is a function of MaxCode instructions, the last of which is this one.
func longest(last impl.Ins, first ...impl.Ins) impl.Module {
	return one(append(append(first, nils(impl.MaxCode-1-len(first))...), last)...)
}

func TestFlowOfMaxCode(t *testing.T) {
	end := impl.MaxCode - 1
	branch := longest(jump(end), jump(end-2))
	branch.Funcs[0].Code[end-2], branch.Funcs[0].Code[end-1] = trueIns, ifTo(0)
	checkFlowing(t, []flowing{
		{"a jump to the last", longest(returnIns, nilIns, jump(end)), flowTold{leaders: places(0, 119), entries: places(0)}},
		{"to the last, which goes to itself", longest(jump(end), jump(end)), flowTold{leaders: places(0, 119), heads: places(119), entries: places(0, 119)}},
		{"to the last, which goes to 0", longest(jump(0), jump(end)), flowTold{leaders: places(0, 119), heads: places(0), entries: places(0)}},
		{"if to the last", longest(jump(2), trueIns, ifTo(end), jump(end)), flowTold{leaders: places(0, 2, 119), heads: places(2), entries: places(0, 2)}},
		{"ifnot to the last", longest(jump(0), trueIns, ifNot(end), jump(2)), flowTold{leaders: places(0, 2, 119), heads: places(0, 2), entries: places(0, 2)}},
		{"a branch ahead of the last", branch, flowTold{leaders: places(0, 117, 119), heads: places(0, 119), entries: places(0, 119)}},
		{"the last is a branch that nobody comes to", longest(ifTo(0), nilIns, returnIns), flowTold{leaders: places(0), entries: places(0)}},
	})
}

// Each place of a function can be a leader and a head, by itself and beside all others.
func TestFlowOfEachPlace(t *testing.T) {
	var list []flowing
	for at := range impl.MaxCode {
		m := one(append([]impl.Ins{jump(at)}, nils(impl.MaxCode-1)...)...)
		m.Funcs[0].Code[at] = jump(at)
		both := slices.Compact(places(0, at))
		list = append(list, flowing{fmt.Sprint("at ", at), m, flowTold{leaders: both, heads: places(at), entries: both}})
	}
	ahead, back := one(), one()
	var all []int
	for at := range impl.MaxCode {
		ahead.Funcs[0].Code = append(ahead.Funcs[0].Code, jump((at+1)%impl.MaxCode))
		back.Funcs[0].Code = append(back.Funcs[0].Code, jump((at+impl.MaxCode-1)%impl.MaxCode))
		all = append(all, at)
	}
	list = append(list,
		flowing{"each leads to the next", ahead, flowTold{leaders: all, heads: places(0), entries: places(0)}},
		flowing{"each leads to the one ahead", back, flowTold{leaders: all, heads: all[:119], entries: all[:119]}})
	checkFlowing(t, list)
}

// ownLoops has n functions, each with a flow of its own: function f goes round at 2 * f.
func ownLoops(n int) impl.Module {
	m := impl.Module{}
	for f := range n {
		code := rails(f)
		code[2*f] = jump(2 * f)
		m.Funcs = append(m.Funcs, impl.Func{Code: code})
	}
	return m
}

func TestFlowOfEachFunctionAndOfNone(t *testing.T) {
	for _, n := range []int{1, 2, impl.MaxFuncs} {
		m := ownLoops(n)
		for f := range n {
			both := slices.Compact(places(0, 2*f))
			if got := flowTo(m, f); !sameFlow(got, flowTold{leaders: both, heads: places(2 * f), entries: both}) {
				t.Errorf("function %d of %d: %v", f, n, got)
			}
		}
		for _, f := range []int{-1, -2, n, n + 1, math.MinInt, math.MaxInt} {
			checkNoFlow(t, fmt.Sprint("one of ", n), m, f)
		}
		checkFlow(t, m)
	}
	short := one(nilIns, returnIns)
	for _, f := range []int{-1, 1, math.MinInt, math.MaxInt} {
		checkNoFlow(t, "a straight one", short, f)
	}
	checkFlow(t, short)
}

func TestFlowOfModulesThatAreNotGood(t *testing.T) {
	wrong := notGood()
	for _, x := range limitsOfModules() {
		wrong["past "+x.name] = x.past
	}
	wrong["a jump to behind the last"] = one(jump(2), nilIns)
	wrong["a jump to below 0"] = one(jump(-1), nilIns)
	wrong["a branch at the end"] = one(trueIns, ifTo(0))
	wrong["a branch to itself"] = one(nilIns, trueIns, ifTo(2), returnIns)
	wrong["more than MaxStack"] = one(append(nils(17), returnIns)...)
	wrong["one instruction more than MaxCode"] = one(slices.Concat([]impl.Ins{jump(120)}, nils(119), []impl.Ins{jump(120)})...)
	wrong["a jump that nobody comes to leads to nowhere"] = one(nilIns, returnIns, jump(3))
	for name, m := range wrong {
		for f := -1; f <= len(m.Funcs); f++ {
			checkNoFlow(t, name, m, f)
		}
		checkFlow(t, m)
	}
}

// A fault in one function is one of all of them, whichever it is and whichever is asked for.
func TestFlowBesideAFault(t *testing.T) {
	for _, bad := range [][]impl.Ins{{dropIns}, {nilIns}, {nilIns, jump(0)}, {ins(0, 0)}, nil} {
		for at := range 4 {
			m := ownLoops(4)
			checkFlow(t, m)
			m.Funcs[at].Code = bad
			for f := -1; f <= 4; f++ {
				checkNoFlow(t, fmt.Sprint(bad, " in function ", at), m, f)
			}
		}
	}
}
