package tests

import (
	"fmt"
	"slices"
	"testing"

	"loop.example/g00094/impl"
)

func TestNumbersOfFlow(t *testing.T) {
	if impl.MaxLaid != 24 {
		t.Error(impl.MaxLaid)
	}
}

// leapOps are the Ops that may lead elsewhere than on.
var leapOps = []int{impl.OpJump, impl.OpIf, impl.OpIfNot}

// noJump is what is told of a short function in which nobody jumps.
var noJump = flowTold{leaders: places(0), entries: places(0), straight: true}

func TestFlowWithoutJumps(t *testing.T) {
	list := []flowing{
		{"the shortest", mod("func 0 0; nil; return"), noJump},
		{"a sum", mod("func 2 2; load 0; load 1; add; return"), noJump},
		{"a return behind a return", mod("func 0 0; nil; return; return; return"), noJump},
		{"several functions", several(), noJump},
		{"calls of one that jumps", mod("func 0 0; fun 1; call 0; drop; invoke 1; return; func 0 0; jump 0"), noJump},
		{"numbers that could be places", mod("func 0 1; int 3; int 1; add; store 0; load 0; return"), noJump},
	}
	for _, x := range eachOp(8) {
		if !slices.Contains(leapOps, x.Op) {
			list = append(list, flowing{fmt.Sprint(x), atHeight(8, x), noJump})
		}
	}
	checkFlowing(t, list)
}

func TestFlowOfJumpsAhead(t *testing.T) {
	checkFlowing(t, []flowing{
		{"to the next", mod("func 0 0; jump 1; nil; return"), flowTold{leaders: places(0, 1), entries: places(0)}},
		{"over one", mod("func 0 0; jump 2; nil; nil; return"), flowTold{leaders: places(0, 2), entries: places(0)}},
		{"to the last", mod("func 0 0; nil; jump 3; nil; return"), flowTold{leaders: places(0, 3), entries: places(0)}},
		{"one behind the other", mod("func 0 0; jump 2; nil; jump 5; nil; nil; nil; return"), flowTold{leaders: places(0, 2, 5), entries: places(0)}},
		{"if to the next", mod("func 0 0; bool 1; if 2; nil; return"), flowTold{leaders: places(0, 2), entries: places(0)}},
		{"ifnot to the next", mod("func 0 0; bool 1; ifnot 2; nil; return"), flowTold{leaders: places(0, 2), entries: places(0)}},
		{"if over some", mod("func 0 0; bool 1; if 4; nil; return; nil; return"), flowTold{leaders: places(0, 2, 4), entries: places(0)}},
		{"ifnot over some", mod("func 0 0; bool 0; ifnot 4; nil; return; nil; return"), flowTold{leaders: places(0, 2, 4), entries: places(0)}},
		{"ifnot behind if", mod("func 0 0; bool 1; dup; if 6; ifnot 7; nil; return; drop; nil; return"), flowTold{leaders: places(0, 3, 4, 6, 7), entries: places(0)}},
	})
}

// What goes back is what is not ahead of where it goes to: also what goes to itself.
func TestFlowOfJumpsBack(t *testing.T) {
	checkFlowing(t, []flowing{
		{"to itself alone", mod("func 0 0; jump 0"), flowTold{leaders: places(0), heads: places(0), entries: places(0)}},
		{"to itself behind others", mod("func 0 0; nil; nil; jump 2"), flowTold{leaders: places(0, 2), heads: places(2), entries: places(0, 2)}},
		{"to itself ahead of others", mod("func 0 0; jump 1; jump 1; nil; return"), flowTold{leaders: places(0, 1), heads: places(1), entries: places(0, 1)}},
		{"to the next, ahead of which it is", mod("func 0 0; nil; jump 2; return"), flowTold{leaders: places(0, 2), entries: places(0)}},
		{"to the one ahead", mod("func 0 0; bool 1; not; jump 1"), flowTold{leaders: places(0, 1), heads: places(1), entries: places(0, 1)}},
		{"to 0", mod("func 0 0; nil; drop; jump 0"), flowTold{leaders: places(0), heads: places(0), entries: places(0)}},
		{"to 1", mod("func 0 0; nil; nil; drop; jump 1"), flowTold{leaders: places(0, 1), heads: places(1), entries: places(0, 1)}},
		{"if to 0", mod("func 0 0; bool 1; if 0; nil; return"), flowTold{leaders: places(0, 2), heads: places(0), entries: places(0)}},
		{"ifnot to 0", mod("func 0 0; bool 1; ifnot 0; nil; return"), flowTold{leaders: places(0, 2), heads: places(0), entries: places(0)}},
		{"if to the one ahead", mod("func 0 0; bool 1; dup; if 1; return"), flowTold{leaders: places(0, 1, 3), heads: places(1), entries: places(0, 1)}},
		{"ifnot to the one ahead", mod("func 0 0; bool 1; dup; ifnot 1; return"), flowTold{leaders: places(0, 1, 3), heads: places(1), entries: places(0, 1)}},
		{"to where one comes by that alone", mod("func 0 0; jump 3; nil; return; jump 1"), flowTold{leaders: places(0, 1, 3), heads: places(1), entries: places(0, 1)}},
	})
}

// loopInLoop counts up to its first argument, and each time up to its second one.
func loopInLoop() impl.Module {
	return mod("func 2 4; int 0; store 2; " +
		"load 2; load 0; less; ifnot 22; int 0; store 3; " +
		"load 3; load 1; less; ifnot 17; load 3; int 1; add; store 3; jump 8; " +
		"load 2; int 1; add; store 2; jump 2; load 2; return")
}

func TestFlowOfLoops(t *testing.T) {
	checkFlowing(t, []flowing{
		{"a loop", impl.Module{Funcs: []impl.Func{counting()}}, flowTold{leaders: places(0, 2, 6, 11), heads: places(2), entries: places(0, 2)}},
		{"a loop in a loop", loopInLoop(), flowTold{leaders: places(0, 2, 6, 8, 12, 17, 22), heads: places(2, 8), entries: places(0, 2, 8)}},
		{"two loops from one head", mod("func 0 0; bool 1; if 0; bool 0; ifnot 0; nil; return"), flowTold{leaders: places(0, 2, 4), heads: places(0), entries: places(0)}},
		{"two loops, one behind the other", mod("func 0 0; bool 1; if 0; bool 1; ifnot 2; nil; return"), flowTold{leaders: places(0, 2, 4), heads: places(0, 2), entries: places(0, 2)}},
		{"two loops that cross", mod("func 1 1; nil; drop; nil; drop; load 0; if 0; load 0; if 2; nil; return"), flowTold{leaders: places(0, 2, 6, 8), heads: places(0, 2), entries: places(0, 2)}},
		{"a loop entered in its middle", mod("func 0 0; jump 3; nil; drop; bool 1; if 1; nil; return"), flowTold{leaders: places(0, 1, 3, 5), heads: places(1), entries: places(0, 1)}},
		{"a head that is jumped ahead to", mod("func 0 0; jump 2; nil; nil; drop; jump 2"), flowTold{leaders: places(0, 2), heads: places(2), entries: places(0, 2)}},
	})
}

func TestFlowOfBranchesThatMeet(t *testing.T) {
	checkFlowing(t, []flowing{
		{"two ways", mod("func 1 1; load 0; ifnot 4; int 1; jump 5; int 2; return"), flowTold{leaders: places(0, 2, 4, 5), entries: places(0)}},
		{"two ways, one of them empty", mod("func 1 1; load 0; if 4; nil; drop; nil; return"), flowTold{leaders: places(0, 2, 4), entries: places(0)}},
		{"three ways", mod("func 1 1; load 0; if 6; load 0; ifnot 8; int 1; jump 9; int 2; jump 9; int 3; return"), flowTold{leaders: places(0, 2, 4, 6, 8, 9), entries: places(0)}},
		{"that meet at a head", mod("func 1 1; load 0; if 3; jump 3; load 0; ifnot 3; nil; return"), flowTold{leaders: places(0, 2, 3, 5), heads: places(3), entries: places(0, 3)}},
		{"that meet at 0", mod("func 1 1; load 0; if 3; jump 0; jump 0"), flowTold{leaders: places(0, 2, 3), heads: places(0), entries: places(0)}},
		{"that do not meet", mod("func 1 1; load 0; if 4; nil; return; int 1; return"), flowTold{leaders: places(0, 2, 4), entries: places(0)}},
	})
}

// A place that several lead to, from ahead and from behind, is told once, and the later of two jumps may lead to
// the place that is told first.
func TestPlacesAreToldOnceAndRising(t *testing.T) {
	checkFlowing(t, []flowing{
		{"several jumps to one place", mod("func 1 1; load 0; if 7; load 0; ifnot 7; jump 7; nil; nil; nil; return"), flowTold{leaders: places(0, 2, 4, 7), entries: places(0)}},
		{"several jumps back to one place", mod("func 1 1; nil; drop; load 0; if 2; load 0; ifnot 2; jump 2"), flowTold{leaders: places(0, 2, 4, 6), heads: places(2), entries: places(0, 2)}},
		{"a branch to what is behind it", mod("func 1 1; load 0; if 2; load 0; ifnot 4; nil; return"), flowTold{leaders: places(0, 2, 4), entries: places(0)}},
		{"behind one branch, led to by another", mod("func 1 1; load 0; if 4; load 0; if 4; nil; return"), flowTold{leaders: places(0, 2, 4), entries: places(0)}},
		{"falling places", mod("func 1 1; load 0; if 10; load 0; if 8; load 0; if 6; nil; return; nil; return; nil; return"), flowTold{leaders: places(0, 2, 4, 6, 8, 10), entries: places(0)}},
		{"falling heads", mod("func 1 1; nil; drop; nil; drop; load 0; if 4; load 0; if 2; load 0; if 0; nil; return"), flowTold{leaders: places(0, 2, 4, 6, 8, 10), heads: places(0, 2, 4), entries: places(0, 2, 4)}},
		{"rising heads", mod("func 1 1; nil; drop; nil; drop; load 0; if 0; load 0; if 2; load 0; if 4; nil; return"), flowTold{leaders: places(0, 2, 4, 6, 8, 10), heads: places(0, 2, 4), entries: places(0, 2, 4)}},
	})
}

// What is behind a jump is a leader only where something else makes it one.
func TestWhatIsBehindAJump(t *testing.T) {
	checkFlowing(t, []flowing{
		{"nobody comes there", mod("func 0 0; jump 2; nil; nil; return"), flowTold{leaders: places(0, 2), entries: places(0)}},
		{"one comes there from behind", mod("func 0 0; jump 3; nil; return; jump 1"), flowTold{leaders: places(0, 1, 3), heads: places(1), entries: places(0, 1)}},
		{"it is jumped to itself", mod("func 0 0; jump 1; nil; return"), flowTold{leaders: places(0, 1), entries: places(0)}},
		{"behind what another jump leads to", mod("func 0 0; nil; drop; jump 4; jump 2; jump 3"), flowTold{leaders: places(0, 2, 3, 4), heads: places(2, 3), entries: places(0, 2, 3)}},
	})
}

// rails are n pairs of instructions, and a last one; between them the stack is empty, so that each may lead to each.
func rails(n int) []impl.Ins {
	return append(slices.Repeat([]impl.Ins{nilIns, dropIns}, n), nilIns, returnIns)
}

// TestOneLeapFromEachPlaceToEach goes through all three Ops, back, to themselves and ahead.
func TestOneLeapFromEachPlaceToEach(t *testing.T) {
	var list []flowing
	for from := 0; from < 20; from += 2 {
		for to := 0; to <= 20; to += 2 {
			heads := places()
			if to <= from {
				heads = places(to)
			}
			entries := slices.Compact(append(places(0), heads...))
			for _, op := range leapOps {
				m := one(rails(10)...)
				leaders := places(0, to)
				if op == impl.OpJump {
					m.Funcs[0].Code[from] = jump(to)
				} else {
					m.Funcs[0].Code[from], m.Funcs[0].Code[from+1] = trueIns, ins(op, to)
					leaders = append(leaders, from+2)
				}
				slices.Sort(leaders)
				want := flowTold{leaders: slices.Compact(leaders), heads: heads, entries: entries}
				list = append(list, flowing{fmt.Sprint(op, " at ", from, " to ", to), m, want})
			}
		}
	}
	checkFlowing(t, list)
}

// What nobody comes to adds nothing, wherever it would lead, also where it is the last and nothing is behind it.
func TestLeapsThatNobodyComesTo(t *testing.T) {
	for _, x := range []struct {
		name string
		code string
		at   int
		want flowTold
	}{
		{"between what is come to", "nil; drop; jump 7; nil; nil; nil; drop; nil; return", 4, flowTold{leaders: places(0, 7), entries: places(0)}},
		{"behind a jump", "nil; drop; jump 4; nil; nil; return", 3, flowTold{leaders: places(0, 4), entries: places(0)}},
		{"behind a return", "nil; return; nil; nil", 2, noJump},
		{"the last", "nil; return; nil; nil", 3, noJump},
		{"behind a loop", "bool 1; if 0; nil; return; nil; nil; nil", 5, flowTold{leaders: places(0, 2), heads: places(0), entries: places(0)}},
		{"the last, behind a loop", "nil; drop; nil; bool 1; if 3; return; nil; nil", 7, flowTold{leaders: places(0, 3, 5), heads: places(3), entries: places(0, 3)}},
		{"behind a loop without an end", "nil; drop; jump 2; nil; nil", 3, flowTold{leaders: places(0, 2), heads: places(2), entries: places(0, 2)}},
	} {
		m := mod("func 0 0; " + x.code)
		for _, op := range leapOps {
			for a := range m.Funcs[0].Code {
				dead := cloneModule(m)
				dead.Funcs[0].Code[x.at] = ins(op, a)
				checkFlowing(t, []flowing{{fmt.Sprint(x.name, ": ", op, " to ", a), dead, x.want}})
			}
		}
	}
}

// What nobody comes to leads to itself, to what is come to and back; the same, come to, tells all of it.
func TestLoopsThatNobodyComesTo(t *testing.T) {
	loops := "nil; drop; bool 1; if 2; bool 0; ifnot 9; jump 8; jump 0"
	checkFlowing(t, []flowing{
		{"nobody comes there", mod("func 0 0; nil; return; " + loops), noJump},
		{"one comes there", mod("func 0 0; nil; drop; " + loops), flowTold{leaders: places(0, 2, 6, 8, 9), heads: places(0, 2, 8), entries: places(0, 2, 8)}},
	})
}
