package tests

import (
	"fmt"
	"slices"
	"testing"

	"loop.example/g00094/impl"
)

// mustTellOps holds code of a module against the law, and what OpsAt tells of an instruction against these words.
func mustTellOps(t *testing.T, name string, m impl.Module, c impl.Fast, f int, pc int, want ...string) {
	t.Helper()
	mustBeOk(t, name, m, c, true)
	checkCount(t, m, c)
	var got []string
	for _, op := range impl.OpsAt(m, c, f, pc) {
		got = append(got, opWords[op])
	}
	if !slices.Equal(got, want) {
		t.Errorf("%s: of %d %d %v, not %v, of %v", name, f, pc, got, want, spelled(c))
	}
}

// Several ops come from one instruction, and others stand between them: they are told in their order, each as often as
// it stands there.
func TestTheOrderOfOpsThatAreTold(t *testing.T) {
	c := unspelled(`9 9
		safe x0 @2
		ret v0 @4
		print v0 x0 @2
		const v1 1 @3
		print v0 x0 @2
		const v1 1 @2
		num n1 1
		const v2 1 @2
		print v0 x0 @3
		exit x0 @2
		const v1 1 @3
		jump 0 @2
		x0 trap / 0 0 v0 |`)
	m := sweepModule()
	mustTellOps(t, "by turns", m, c, 0, 2, "safe", "print", "print", "const", "const", "exit", "jump")
	mustTellOps(t, "by turns", m, c, 0, 3, "const", "print", "const")
	mustTellOps(t, "the only one", m, c, 0, 0, "num")
	mustTellOps(t, "the only one, of the last instruction", m, c, 0, 4, "ret")
	mustTellOps(t, "none", m, c, 0, 1)
	slices.Reverse(c.Ops[1:11])
	mustTellOps(t, "turned about", m, c, 0, 2, "safe", "exit", "const", "const", "print", "print", "jump")
	mustTellOps(t, "turned about", m, c, 0, 3, "const", "print", "const")
}

// An instruction is one of its function: the same number in another function is another one.
func TestOpsOfSeveralFunctions(t *testing.T) {
	c := unspelled(`9 9
		const v1 1 @1.0
		move v1 v1 @0
		num n1 1 @2.0
		movenum n1 n1 @1.1
		box v2 n1 @0.1
		same v3 v1 v2 @2.1
		make v3 0 @1.0
		not v3 v3 x0 @1
		print v0 x0 @2.0
		lessn v4 n1 n1 @1.2
		made x0
		exit x0 @2.1
		x0 trap / 0 0 v0 |`)
	m := sweepModule()
	mustTellOps(t, "function 0", m, c, 0, 0, "move", "made")
	mustTellOps(t, "function 0", m, c, 0, 1, "box", "not")
	mustTellOps(t, "function 0", m, c, 0, 2)
	mustTellOps(t, "function 1", m, c, 1, 0, "const", "make")
	mustTellOps(t, "function 1", m, c, 1, 1, "movenum")
	mustTellOps(t, "function 1", m, c, 1, 2, "lessn")
	mustTellOps(t, "function 2", m, c, 2, 0, "num", "print")
	mustTellOps(t, "function 2", m, c, 2, 1, "same", "exit")
	// What is behind the end of a function is none of the next one's, nor is what is ahead of its beginning.
	mustTellOps(t, "behind function 1", m, c, 1, 3)
	mustTellOps(t, "ahead of function 2", m, c, 2, -1)
	mustTellOps(t, "behind function 2", m, c, 3, 0)
	mustTellOps(t, "ahead of function 0", m, c, -1, 0)
}

// The code is of another function than 0: f is the number of a function, whatever the code is of.
func TestOpsOfCodeOfAnotherFunction(t *testing.T) {
	m := sweepModule()
	c := unspelled("9 9\nconst v1 1\nprint v0 x0 @1.0\nmove v1 v0 @1.2\nret v0 @2.0\nx0 trap / 1 0 v0 v1 |")
	c.Func = 1
	mustTellOps(t, "function 0", m, c, 0, 0, "const")
	mustTellOps(t, "function 1", m, c, 1, 0, "print")
	mustTellOps(t, "function 1", m, c, 1, 2, "move")
	mustTellOps(t, "function 2", m, c, 2, 0, "ret")
	loop := mod("func 0 0; nil; return; func 1 2; nil; load 0; drop; jump 1")
	for _, entry := range []int{0, 1} {
		c := impl.Fast{Func: 1, Entry: entry, Vals: 3, Ops: []impl.FOp{{Op: impl.FMove, A: 1, F: 1}, {Op: impl.FRet, P: 1}}}
		mustTellOps(t, "entry", loop, c, 1, 0, "move")
		mustTellOps(t, "entry", loop, c, 0, 1, "ret")
		mustTellOps(t, "entry", loop, c, 1, 1)
	}
}

// The last instruction of the last function, and one that nobody comes to.
func TestOpsOfTheLastInstruction(t *testing.T) {
	last := append([]impl.Ins{nilIns, returnIns}, nils(impl.MaxCode-2)...)
	m := impl.Module{Funcs: slices.Repeat([]impl.Func{{Code: last}}, impl.MaxFuncs)}
	for _, f := range []int{0, 5, impl.MaxFuncs - 1} {
		for _, pc := range []int{0, 1, 2, 63, 64, impl.MaxCode - 2, impl.MaxCode - 1} {
			c := retCode(0, 0, 1, 0)
			c.Ops[0].F, c.Ops[0].P = f, pc
			mustTellOps(t, "one op", m, c, f, pc, "ret")
			for _, at := range [][2]int{{f - 1, pc}, {f + 1, pc}, {f, pc - 1}, {f, pc + 1}, {pc, f}} {
				if at != [2]int{f, pc} {
					checkNoOps(t, m, c, at)
				}
			}
		}
	}
}

// What is no instruction has no ops, also where there is one of another number that could be taken for it.
func TestInstructionsThatAreNone(t *testing.T) {
	c := unspelled("9 9\nconst v1 1\nmove v2 v1 @1\nret v0 @1.0")
	m := sweepModule()
	for _, f := range append(oddNumbers(), 3, 12, 0, 1) {
		for _, pc := range append(oddNumbers(), 5, 0, 1) {
			if got := impl.OpsAt(m, c, f, pc); len(got) > 0 && (!within(f, 0, 1) || !within(pc, 0, 1)) {
				t.Errorf("of %d %d: %v", f, pc, got)
			}
		}
	}
	mustTellOps(t, "an instruction that is one", m, c, 0, 1, "move")
}

// Code that was made, and where its ops come from: those of functions that were laid in from these, those of a way on
// from the instruction to which it leads.
func TestOpsOfMadeCode(t *testing.T) {
	sum := "; func 2 2; load 0; load 1; add; return"
	for _, x := range []struct {
		name string
		code string
		p    impl.Plan
		f    int
		pc   int
		want []string
	}{
		{"a sum", "func 2 2; load 0; load 1; add; return", impl.Plan{}, 0, 2, []string{"add"}},
		{"a sum that is guessed", "func 2 2; load 0; load 1; add; return", planOn(spec(0, 2, 1, 0)), 0, 2, []string{"open", "open", "addn"}},
		{"its answer", "func 2 2; load 0; load 1; add; return", planOn(spec(0, 2, 1, 0)), 0, 3, []string{"box", "ret"}},
		{"sources alone", "func 2 2; load 0; load 1; add; return", planOn(spec(0, 2, 1, 0)), 0, 1, nil},
		{"a sum that was laid in", "func 2 2; load 0; load 1; invoke 1; return" + sum, layOn(1), 1, 2, []string{"add"}},
		{"the call", "func 2 2; load 0; load 1; invoke 1; return" + sum, layOn(1), 0, 2, []string{"deep"}},
		{"the answer of what was laid in", "func 2 2; load 0; load 1; invoke 1; return" + sum, layOn(1), 1, 3, nil},
		{"the answer below it", "func 2 2; load 0; load 1; invoke 1; return" + sum, layOn(1), 0, 3, []string{"ret"}},
		{"a sum that was not laid in", "func 2 2; load 0; load 1; invoke 1; return" + sum, layOn(0), 1, 2, nil},
		{"the call that leaves", "func 2 2; load 0; load 1; invoke 1; return" + sum, layOn(0), 0, 2, []string{"exit"}},
		{"laid in twice", "func 2 2; load 0; load 1; invoke 1; int 5; invoke 1; return" + sum, layOn(1), 1, 2, []string{"add", "const", "add"}},
		{"laid in twice, guessed", "func 2 2; load 0; load 1; invoke 1; int 5; invoke 1; return" + sum, layOn(1, spec(1, 2, 1, 0)), 1, 2,
			[]string{"open", "open", "addn", "num", "addn"}},
		{"laid in twice deep", "func 2 2; load 0; load 1; invoke 2; return" + sum + "; func 2 2; load 0; load 1; invoke 1; load 0; invoke 1; return", layOn(2), 1, 2,
			[]string{"add", "add"}},
		{"the calls within", "func 2 2; load 0; load 1; invoke 2; return" + sum + "; func 2 2; load 0; load 1; invoke 1; load 0; invoke 1; return", layOn(2), 2, 4,
			[]string{"deep"}},
		{"a record that is made", "func 0 0; new 2; dup; int 3; put 0; return", bareOn(), 0, 4, []string{"make", "const", "put", "ret"}},
		{"a record that is not", "func 0 0; new 2; dup; int 3; put 0; return", bareOn(), 0, 0, []string{"made"}},
		{"what is put into it", "func 0 0; new 2; dup; int 3; put 0; return", bareOn(), 0, 3, nil},
		{"a way on", "func 1 2; int 0; store 1; load 0; ifnot 2; load 1; return", impl.Plan{}, 0, 2, []string{"num", "jump", "safe", "jump"}},
		{"the other one", "func 1 2; int 0; store 1; load 0; ifnot 2; load 1; return", impl.Plan{}, 0, 4, []string{"jump"}},
		{"two ways on", "func 1 2; int 0; store 1; load 0; ifnot 2; load 1; return", impl.Plan{}, 0, 3, []string{"if"}},
	} {
		m := mod(x.code)
		c, ok := impl.Make(m, 0, 0, x.p)
		if !ok {
			t.Fatalf("%s: nothing is made", x.name)
		}
		mustTellOps(t, x.name, m, c, x.f, x.pc, x.want...)
	}
}

// mustCount holds code of sweepModule against the law, and its counts against these: those that are not told are 0.
func mustCount(t *testing.T, name string, c impl.Fast, want map[int]int) {
	t.Helper()
	mustBeOk(t, name, sweepModule(), c, true)
	got := impl.CountOps(sweepModule(), c)
	if len(got) != 30 {
		t.Fatalf("%s: %v", name, got)
	}
	for op, n := range got {
		if n != want[op] {
			t.Fatalf("%s: %v, not %v", name, got, want)
		}
	}
}

func TestCountsOfEachOp(t *testing.T) {
	checkCount(t, codeModule(), fullCode())
	if got := impl.CountOps(codeModule(), fullCode()); !slices.Equal(got, append(places(0), slices.Repeat(places(1), 29)...)) {
		t.Errorf("an op of each kind: %v", got)
	}
	if got := impl.OpsAt(codeModule(), fullCode(), 0, 5); len(got) != 29 || got[0] != impl.FSafe || got[28] != impl.FJump {
		t.Errorf("an op of each kind, all of one instruction: %v", got)
	}
	for op := impl.FConst; op <= impl.FDeep; op++ {
		c := rowCode(rowOp(op))
		checkCount(t, codeModule(), c)
		got, want := impl.CountOps(codeModule(), c), make([]int, 30)
		want[impl.FSafe], want[impl.FMove], want[impl.FRet] = 2, 2, 1
		want[op]++
		if !slices.Equal(got, want) {
			t.Errorf("an op of Op %d among others: %v, not %v", op, got, want)
		}
	}
}

// repeated is code with an op of this Op so many times, ahead of an FRet. Those that go on somewhere go on there.
func repeated(op int, n int) impl.Fast {
	x := opOf(op, theNumber)
	switch op {
	case impl.FJump:
		x.A = n
	case impl.FIf:
		x.B = n
	}
	c := unspelled("9 9\nret v0" + sweptExits)
	c.Ops = append(slices.Repeat([]impl.FOp{x}, n), c.Ops...)
	return c
}

func TestCountsOfEachOpManyTimes(t *testing.T) {
	for op := impl.FConst; op <= impl.FDeep; op++ {
		for _, n := range []int{1, 2, 3, 10, 99, 100, 101, 249, 250, 251, 255, 256, 257, 499, 500, 501, 999, 1000, 1001, impl.MaxOps - 2, impl.MaxOps - 1} {
			want := map[int]int{op: n}
			want[impl.FRet]++
			mustCount(t, fmt.Sprint(n, " times Op ", op), repeated(op, n), want)
		}
		c := repeated(op, impl.MaxOps)
		if mustBeOk(t, "one op too much", sweepModule(), c, false); len(impl.CountOps(sweepModule(), c)) != 0 {
			t.Errorf("%d times Op %d, and one: %v", impl.MaxOps, op, impl.CountOps(sweepModule(), c))
		}
		checkCount(t, sweepModule(), c)
		checkCount(t, sweepModule(), repeated(op, impl.MaxOps-1))
	}
}

func TestCountsOfOneOp(t *testing.T) {
	mustCount(t, "an answer", unspelled("1 0\nret v0"), map[int]int{impl.FRet: 1})
	mustCount(t, "an exit", unspelled("1 0\nexit x0\nx0 call / 0 0 v0 |"), map[int]int{impl.FExit: 1})
	mustCount(t, "a jump, and what it must go to", unspelled("1 0\nsafe x0\njump 0\nx0 pause / 0 0 v0 |"), map[int]int{impl.FSafe: 1, impl.FJump: 1})
	for _, code := range []string{"1 0\nret v0 @2", "1 0\nexit x0 @1.1\nx0 call / 0 0 v0 |"} {
		checkCount(t, sweepModule(), unspelled(code))
	}
}

// lengthy is code of n ops, of all Ops by turns, that come from all instructions by turns. The last one is an FRet.
func lengthy(n int) impl.Fast {
	m := sweepModule()
	c := unspelled("9 9" + sweptExits)
	f, pc := 0, 0
	for at := range n {
		x := opOf(1+at%29, theNumber)
		switch {
		case at == n-1:
			x = impl.FOp{Op: impl.FRet}
		case x.Op == impl.FJump:
			x.A = at + 1
		case x.Op == impl.FIf:
			x.B = n - 1
		}
		x.F, x.P = f, pc
		if pc++; pc == len(m.Funcs[f].Code) {
			f, pc = (f+1)%len(m.Funcs), 0
		}
		c.Ops = append(c.Ops, x)
	}
	return c
}

// Code of each length: no op is left out or counted twice where a part of it ends, wherever that is.
func TestCountsOfCodeOfEachLength(t *testing.T) {
	for n := 1; n <= impl.MaxOps; n++ {
		want := map[int]int{}
		for op := range 29 {
			want[op+1] = (n - 1 + 28 - op) / 29
		}
		want[impl.FRet]++
		mustCount(t, fmt.Sprint(n, " ops"), lengthy(n), want)
	}
	for _, n := range []int{1, 2, 29, 30, 249, 250, 251, 1000, impl.MaxOps - 1, impl.MaxOps} {
		checkCount(t, sweepModule(), lengthy(n))
	}
	past := lengthy(impl.MaxOps + 1)
	mustBeOk(t, "one op too much", sweepModule(), past, false)
	checkNotCounted(t, sweepModule(), past)
}

// It is Op alone that counts: neither where ops come from, nor whether anybody comes to them, nor their registers.
func TestWhatDoesNotCount(t *testing.T) {
	want := map[int]int{impl.FConst: 3, impl.FJump: 1, impl.FPrint: 1, impl.FRet: 2}
	for _, code := range []string{
		"9 9\nconst v1 1\njump 3\nconst v2 2\nret v0\nconst v3 3\nprint v0 x0\nret v0\nx0 trap / 0 0 v0 |",
		"9 9\nconst v1 1 @1\njump 3 @2\nconst v1 _ @1\nret v0 @3\nconst v1 3 @1.1\nprint v0 x0 @1.2\nret v0 @2.0\nx0 trap / 0 0 v0 |",
		"9 9\nprint v0 x2\nret v1\njump 6\nconst v0 1\nconst v0 1\nconst v0 1\nret v0" + sweptExits,
	} {
		mustCount(t, code, unspelled(code), want)
		checkCount(t, sweepModule(), unspelled(code))
	}
}

// Nothing, and not thirty noughts.
func TestCodeThatIsNotCounted(t *testing.T) {
	for name, x := range refusedCodes(t) {
		mustBeOk(t, name, x.m, x.c, false)
		checkNotCounted(t, x.m, x.c)
		for f := range x.m.Funcs {
			for pc := range x.m.Funcs[f].Code {
				checkNoOps(t, x.m, x.c, [2]int{f, pc})
			}
		}
	}
}
