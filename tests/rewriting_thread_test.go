package tests

import (
	"fmt"
	"slices"
	"testing"

	"loop.example/g00094/impl"
)

func TestThreadOfJumpsThatLeadToJumps(t *testing.T) {
	checkRewrites(t, "Thread", []rewrite{
		stays("no jump", "func 0 0; nil; return"),
		stays("a jump to no jump", "func 0 0; jump 2; nil; nil; return"),
		stays("a jump to an if", "func 1 1; load 0; jump 3; drop; if 5; jump 0; nil; return"),
		stays("a jump to an ifnot", "func 1 1; load 0; jump 3; drop; ifnot 5; jump 0; nil; return"),
		stays("a jump behind which one stands", "func 0 0; jump 1; nil; jump 3; return"),
		{"a jump to a jump", "func 0 0; jump 2; nil; jump 4; nil; nil; return", "func 0 0; jump 4; nil; jump 4; nil; nil; return"},
		{"a jump to the next, which is one", "func 0 0; jump 1; jump 3; nil; nil; return", "func 0 0; jump 3; jump 3; nil; nil; return"},
		{"a jump to a jump to a jump", "func 0 0; jump 1; jump 2; jump 4; nil; nil; return", "func 0 0; jump 4; jump 4; jump 4; nil; nil; return"},
		{"four of them, ahead and back", "func 0 0; jump 5; nil; return; jump 1; jump 3; jump 4", "func 0 0; jump 1; nil; return; jump 1; jump 1; jump 1"},
		{"those ahead are led on first", "func 0 0; jump 3; jump 4; jump 1; jump 2; nil; return", "func 0 0; jump 4; jump 4; jump 4; jump 4; nil; return"},
		{"back to a jump ahead", "func 0 0; jump 2; jump 4; jump 1; nil; nil; return", "func 0 0; jump 4; jump 4; jump 4; nil; nil; return"},
		{"back to the first one", "func 0 0; jump 2; jump 0; nil; return", "func 0 0; jump 2; jump 2; nil; return"},
		{"on a stack that is not empty", "func 0 0; nil; nil; jump 4; drop; jump 5; return", "func 0 0; nil; nil; jump 5; drop; jump 5; return"},
		{"two to one", "func 1 1; load 0; if 4; jump 5; nil; jump 6; jump 7; jump 8; jump 8; nil; return",
			"func 1 1; load 0; if 8; jump 8; nil; jump 8; jump 8; jump 8; jump 8; nil; return"},
	})
}

// Where an OpIf or an OpIfNot leads to is led on; one that a jump leads to is where that ends.
func TestThreadOfBranches(t *testing.T) {
	checkRewrites(t, "Thread", []rewrite{
		stays("an if to no jump", "func 1 1; load 0; if 4; nil; return; int 1; return"),
		stays("an ifnot to an ifnot", "func 1 1; load 0; load 0; ifnot 5; int 1; return; ifnot 6; int 2; return"),
		{"an if to a jump", "func 1 1; load 0; if 4; nil; return; jump 6; nil; int 1; return", "func 1 1; load 0; if 6; nil; return; jump 6; nil; int 1; return"},
		{"an ifnot to a jump", "func 1 1; load 0; ifnot 4; nil; return; jump 6; nil; int 1; return", "func 1 1; load 0; ifnot 6; nil; return; jump 6; nil; int 1; return"},
		{"an if to a jump to a jump", "func 1 1; load 0; if 4; nil; return; jump 5; jump 6; int 1; return", "func 1 1; load 0; if 6; nil; return; jump 6; jump 6; int 1; return"},
		{"an ifnot back to a jump", "func 1 1; jump 3; nil; return; load 0; ifnot 0; jump 1", "func 1 1; jump 3; nil; return; load 0; ifnot 3; jump 1"},
		{"an if to the next, which is a jump", "func 1 1; load 0; if 2; jump 4; nil; nil; return", "func 1 1; load 0; if 4; jump 4; nil; nil; return"},
		{"a jump behind an if stays there, and is led on", "func 1 1; load 0; if 3; jump 4; jump 5; jump 5; nil; return", "func 1 1; load 0; if 5; jump 5; jump 5; jump 5; nil; return"},
		{"an if to a jump to that if", "func 1 1; nil; drop; load 0; if 6; nil; return; jump 2", "func 1 1; nil; drop; load 0; if 2; nil; return; jump 2"},
		{"an if to a jump to itself", "func 1 1; load 0; if 4; nil; return; jump 4", "func 1 1; load 0; if 4; nil; return; jump 4"},
		{"an ifnot to a jump to a jump to itself", "func 1 1; load 0; ifnot 4; nil; return; jump 5; jump 5", "func 1 1; load 0; ifnot 5; nil; return; jump 5; jump 5"},
	})
}

func TestThreadOfJumpsThatGoRound(t *testing.T) {
	checkRewrites(t, "Thread", []rewrite{
		stays("one, to itself", "func 0 0; jump 0"),
		stays("one, to itself, behind others", "func 0 0; nil; nil; jump 2"),
		{"one, to one that goes to itself", "func 0 0; jump 2; nil; jump 2", "func 0 0; jump 2; nil; jump 2"},
		{"two", "func 0 0; jump 1; jump 0", "func 0 0; jump 0; jump 0"},
		{"two, behind others", "func 0 0; nil; jump 4; nil; return; jump 1", "func 0 0; nil; jump 1; nil; return; jump 1"},
		{"two, with a way to the first", "func 0 0; nil; jump 2; jump 3; jump 2", "func 0 0; nil; jump 2; jump 2; jump 2"},
		{"two, with a way to the second", "func 0 0; nil; jump 3; jump 3; jump 2", "func 0 0; nil; jump 3; jump 2; jump 2"},
		{"two, with a way to them by one behind", "func 0 0; nil; jump 4; jump 3; jump 2; jump 3", "func 0 0; nil; jump 2; jump 2; jump 2; jump 2"},
		{"two, with a way to them by one ahead", "func 0 0; nil; jump 2; jump 3; jump 4; jump 3", "func 0 0; nil; jump 4; jump 3; jump 3; jump 3"},
		{"three", "func 0 0; jump 1; jump 2; jump 0", "func 0 0; jump 0; jump 0; jump 0"},
		{"three, the other way round", "func 0 0; jump 2; jump 0; jump 1", "func 0 0; jump 0; jump 0; jump 0"},
		{"three, with a way to each, from ahead", "func 1 1; load 0; if 6; load 0; if 7; load 0; if 8; jump 7; jump 8; jump 6", "func 1 1; load 0; if 6; load 0; if 7; load 0; if 8; jump 6; jump 6; jump 6"},
		{"three, with a way to each, from behind", "func 1 1; jump 4; jump 2; jump 3; jump 1; load 0; if 1; load 0; ifnot 2; load 0; if 3; jump 0",
			"func 1 1; jump 4; jump 1; jump 1; jump 1; load 0; if 1; load 0; ifnot 1; load 0; if 1; jump 4"},
	})
}

// ring is a function that leads, by the instruction ahead of it, to place to of a ring of n jumps, each to the next one;
// so many instructions stand ahead of them.
func ring(first []impl.Ins, n int, to int) impl.Module {
	begins := len(first)
	m := one(first...)
	for at := range n {
		m.Funcs[0].Code = append(m.Funcs[0].Code, jump(begins+(at+1)%n))
	}
	m.Funcs[0].Code[begins-1].A = begins + to
	return m
}

// An instruction that leads into a ring which is not led on yet goes round there MaxCode times, and no more; all of the
// ring then leads to its first one.
func TestThreadGoesRoundMaxCodeTimes(t *testing.T) {
	for _, first := range [][]impl.Ins{{jump(0)}, {trueIns, ifTo(0)}, {trueIns, ifNot(0)}, {nilIns, nilIns, jump(0)}} {
		begins := len(first)
		for n := 1; n+begins <= impl.MaxCode; n++ {
			for _, to := range slices.Compact([]int{0, n / 2, n - 1}) {
				m := ring(slices.Clone(first), n, to)
				want := ring(slices.Clone(first), n, (to+120)%n)
				for at := range n {
					want.Funcs[0].Code[begins+at] = jump(begins)
				}
				if got := impl.Thread(m); !sameModule(got, want) {
					t.Fatalf("a ring of %d behind %v, from %d: %v, not %v", n, first, to, got, want)
				}
				if n < 20 {
					checkRewritings(t, m)
				}
			}
		}
	}
}

// What leads into a ring from behind it finds it led on: it comes to its first one, and stays there.
func TestThreadReadsWhatIsThereByThen(t *testing.T) {
	for n := 1; n < impl.MaxCode; n++ {
		m, want := one(), one()
		for at := range n {
			m.Funcs[0].Code = append(m.Funcs[0].Code, jump((at+1)%n))
			want.Funcs[0].Code = append(want.Funcs[0].Code, jump(0))
		}
		for to := range min(n, impl.MaxCode-n) {
			m.Funcs[0].Code = append(m.Funcs[0].Code, jump(to))
			want.Funcs[0].Code = append(want.Funcs[0].Code, jump(0))
		}
		if got := impl.Thread(m); !sameModule(got, want) {
			t.Fatalf("a ring of %d: %v", n, got)
		}
	}
	// A ring of seven, entered from ahead of it and from behind: only the first of the two goes round.
	m := ring([]impl.Ins{trueIns, ifTo(0), trueIns, jump(6), jump(0)}, 7, 0)
	m.Funcs[0].Code[1], m.Funcs[0].Code[3], m.Funcs[0].Code[4] = ifTo(7), jump(12), jump(4)
	m.Funcs[0].Code = append(m.Funcs[0].Code, ifNot(7), jump(8))
	if got := impl.Thread(m); got.Funcs[0].Code[1] != ifTo(8) || got.Funcs[0].Code[12] != ifNot(5) || got.Funcs[0].Code[13] != jump(5) {
		t.Errorf("entered from ahead and from behind: %v", got)
	}
	checkRewritings(t, m)
}

// The longest way that does not go round is gone to its end, from each of its jumps.
func TestThreadOfTheLongestWay(t *testing.T) {
	for n := 2; n <= impl.MaxCode; n++ {
		m, want := one(), one()
		for at := range n - 1 {
			m.Funcs[0].Code = append(m.Funcs[0].Code, jump(at+1))
			want.Funcs[0].Code = append(want.Funcs[0].Code, jump(n-1))
		}
		m.Funcs[0].Code = append(m.Funcs[0].Code, jump(n-1))
		want.Funcs[0].Code = append(want.Funcs[0].Code, jump(n-1))
		if got := impl.Thread(m); !sameModule(got, want) {
			t.Fatalf("%d jumps, each to the next: %v", n, got)
		}
		// The other way round: the first leads to the last one, and each to the one ahead of it.
		if n < 4 {
			continue
		}
		back, wantBack := one(jump(n-1), nilIns, returnIns), one(jump(1), nilIns, returnIns)
		for at := 3; at < n; at++ {
			back.Funcs[0].Code = append(back.Funcs[0].Code, jump(at-1))
			wantBack.Funcs[0].Code = append(wantBack.Funcs[0].Code, jump(1))
		}
		back.Funcs[0].Code[3] = jump(1)
		if got := impl.Thread(back); !sameModule(got, wantBack) {
			t.Fatalf("%d jumps, each to the one ahead: %v", n, got)
		}
		checkRewritings(t, back)
	}
}

// Instructions that nobody comes to are threaded like others, and lead on those that lead to them.
func TestThreadOfWhatNobodyComesTo(t *testing.T) {
	checkRewrites(t, "Thread", []rewrite{
		{"jumps among themselves", "func 0 0; nil; return; jump 3; jump 4; nil; drop", "func 0 0; nil; return; jump 4; jump 4; nil; drop"},
		{"jumps to what one comes to", "func 0 0; jump 3; jump 3; if 0; jump 5; ifnot 3; nil; return", "func 0 0; jump 5; jump 5; if 5; jump 5; ifnot 5; nil; return"},
		{"branches that take more than there is", "func 0 0; nil; return; if 4; ifnot 3; jump 1", "func 0 0; nil; return; if 1; ifnot 3; jump 1"},
		{"the last one, to itself", "func 0 0; nil; return; jump 3; jump 3", "func 0 0; nil; return; jump 3; jump 3"},
		{"two that go round", "func 0 0; nil; return; jump 3; jump 2", "func 0 0; nil; return; jump 2; jump 2"},
		{"a branch into two that go round", "func 0 0; nil; return; if 4; if 5; jump 5; jump 4", "func 0 0; nil; return; if 4; if 5; jump 4; jump 4"},
	})
	for _, op := range leapOps {
		m := one(jump(2), ins(op, 2), jump(4), ins(op, 0), jump(6), ins(op, 3), nilIns, returnIns)
		want := one(jump(6), ins(op, 6), jump(6), ins(op, 6), jump(6), ins(op, 3), nilIns, returnIns)
		if op == impl.OpJump {
			want.Funcs[0].Code[5] = jump(6)
		}
		if got := impl.Thread(m); !sameModule(got, want) {
			t.Errorf("%d that nobody comes to: %v", op, got)
		}
		checkRewritings(t, m)
	}
}

// Nothing is taken out, and what is no jump stays as it is, also where its A is the number of an OpJump.
func TestThreadChangesJumpsAlone(t *testing.T) {
	for _, x := range eachOp(0) {
		if slices.Contains(leapOps, x.Op) {
			continue
		}
		m := atHeight(8, x)
		if m.Funcs[0].Code[8].A == 0 && x.Op != impl.OpInvoke && x.Op != impl.OpFun {
			// The instruction of this number is a jump.
			m.Funcs[0].Code = slices.Concat([]impl.Ins{jump(1)}, m.Funcs[0].Code)
		}
		if got := impl.Thread(m); !sameModule(got, m) {
			t.Errorf("%v: %v", x, got)
		}
		checkRewritings(t, m)
	}
	checkRewrites(t, "Thread", []rewrite{{"numbers that are no places", "func 0 3; jump 1; jump 3; jump 2; int 1; store 1; load 1; drop; new 2; get 1; drop; bool 1; drop; fun 1; call 0; drop; invoke 1; return; func 0 0; nil; return",
		"func 0 3; jump 3; jump 3; jump 2; int 1; store 1; load 1; drop; new 2; get 1; drop; bool 1; drop; fun 1; call 0; drop; invoke 1; return; func 0 0; nil; return"}})
}

// endOf is where one comes to from a place by OpJumps alone, and whether one comes to an end.
func endOf(code []impl.Ins, at int) (int, bool) {
	for range code {
		if code[at].Op != 17 {
			return at, true
		}
		at = code[at].A
	}
	return 0, false
}

// Behind Thread no jump leads to an OpJump but those that go round without an end.
func TestWhereJumpsLeadBehindThread(t *testing.T) {
	ended, round := 0, 0
	for i, m := range rewritables(93, 300) {
		got := checkRewriting(t, m, rewritingNamed("Thread")).got
		again := impl.Thread(got)
		for f, fn := range m.Funcs {
			for at, x := range fn.Code {
				if !slices.Contains(leapOps, x.Op) {
					continue
				}
				to := got.Funcs[f].Code[at].A
				end, ends := endOf(fn.Code, x.A)
				if ends && to != end {
					t.Fatalf("program %d, function %d: %v at %d leads to %d, not to %d", i, f, x, at, to, end)
				}
				if !ends && got.Funcs[f].Code[to].Op != impl.OpJump {
					t.Fatalf("program %d, function %d: %v at %d goes round, and leads to %d", i, f, x, at, to)
				}
				if ends {
					ended++
					if again.Funcs[f].Code[at] != got.Funcs[f].Code[at] {
						t.Fatalf("program %d, function %d: %v at %d is led on again", i, f, x, at)
					}
				} else {
					round++
				}
			}
		}
	}
	if ended < 1000 || round < 100 {
		t.Errorf("%d jumps that come to an end, %d that go round: the programs try too little", ended, round)
	}
}

func TestThreadOfSeveralFunctions(t *testing.T) {
	checkRewrites(t, "Thread", []rewrite{
		{"each by itself", "func 0 0; jump 1; jump 2; invoke 1; return; func 0 0; jump 2; nil; jump 4; nil; nil; return; func 0 0; jump 2; nil; nil; return",
			"func 0 0; jump 2; jump 2; invoke 1; return; func 0 0; jump 4; nil; jump 4; nil; nil; return; func 0 0; jump 2; nil; nil; return"},
	})
	m := impl.Module{}
	for n := range impl.MaxFuncs {
		m.Funcs = append(m.Funcs, ring([]impl.Ins{jump(0)}, n+7, 0).Funcs[0])
	}
	got := impl.Thread(m)
	for n := range impl.MaxFuncs {
		if want := jump(1 + 120%(n+7)); got.Funcs[n].Code[0] != want {
			t.Errorf("%s: %v, not %v", fmt.Sprint("a ring of ", n+7), got.Funcs[n].Code[0], want)
		}
	}
	checkRewritings(t, m)
}
