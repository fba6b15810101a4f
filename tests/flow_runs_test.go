package tests

import (
	"math/rand"
	"slices"
	"testing"

	"loop.example/g00094/impl"
)

// checkFlowOfRun asks promise 8 of each step of a run: whoever jumps, or branches, comes to where a block begins;
// whoever goes back, to where a loop begins and code can be entered; whoever is called begins at an entry. It gives
// how often one jumped and how often one went back.
func checkFlowOfRun(t *testing.T, m impl.Module, args []impl.Value, fuel int) (int, int) {
	t.Helper()
	var told []flowTold
	for f := range m.Funcs {
		told = append(told, flowTo(m, f))
	}
	jumped, back := 0, 0
	vm, _ := impl.Start(m, args)
	for ; fuel > 0; fuel-- {
		was, deep := vm.Frames[len(vm.Frames)-1], len(vm.Frames)
		vm = impl.Step(m, vm)
		if vm.Status != impl.StRun {
			break
		}
		now := vm.Frames[len(vm.Frames)-1]
		fl := told[now.Func]
		leader, entry := slices.Contains(fl.leaders, now.Pc), slices.Contains(fl.entries, now.Pc)
		if len(vm.Frames) > deep && !(leader && entry) {
			t.Fatalf("%v: %v begins at none of %v", m, now, fl)
		}
		if len(vm.Frames) != deep {
			continue
		}
		if slices.Contains(leapOps, opAt(m, was.Func, was.Pc)) {
			jumped++
			if !leader || fl.straight {
				t.Fatalf("%v: from %v to %v, which is none of %v", m, was, now, fl)
			}
		} else if now.Pc != was.Pc+1 {
			t.Fatalf("%v: from %v to %v without a jump", m, was, now)
		}
		if now.Pc <= was.Pc {
			back++
			if !entry || !slices.Contains(fl.heads, now.Pc) {
				t.Fatalf("%v: from %v back to %v, which is none of %v", m, was, now, fl)
			}
		}
	}
	return jumped, back
}

func TestFlowOfRuns(t *testing.T) {
	for _, x := range []struct {
		m      impl.Module
		args   []impl.Value
		jumped int
		back   int
	}{
		{mod("func 2 2; load 0; load 1; add; return"), vals(num(1), num(2)), 0, 0},
		{impl.Module{Funcs: []impl.Func{counting()}}, vals(num(3)), 7, 3},
		{loopInLoop(), vals(num(2), num(3)), 3 + 2*7 + 2, 2*3 + 2},
		{mod("func 1 1; load 0; ifnot 4; int 1; jump 5; int 2; return"), vals(truth(1)), 2, 0},
		{mod("func 1 1; load 0; ifnot 4; int 1; jump 5; int 2; return"), vals(truth(0)), 1, 0},
		{mod("func 0 0; int 2; invoke 1; return; func 1 1; load 0; return"), nil, 0, 0},
	} {
		if jumped, back := checkFlowOfRun(t, x.m, x.args, 1000); jumped != x.jumped || back != x.back {
			t.Errorf("%v with %v: jumped %d times, and back %d times", x.m, x.args, jumped, back)
		}
	}
}

func TestFlowOfManyRuns(t *testing.T) {
	r := rand.New(rand.NewSource(26))
	jumped, back := 0, 0
	for range 400 {
		m := randomProgram(r)
		checkFlow(t, m)
		j, b := checkFlowOfRun(t, m, randomArgs(r, m), 300)
		jumped += j
		back += b
	}
	if jumped < 1000 || back < 300 {
		t.Errorf("jumped %d times, and back %d times alone: the programs try too little", jumped, back)
	}
}

// randomRails is a good function in which jumps of each kind lead from everywhere to everywhere; nobody comes to many
// of its instructions, and jumps stand among these, too, that lead to where no other one could.
func randomRails(r *rand.Rand) impl.Func {
	n := 1 + r.Intn([]int{3, 8, 13, impl.MaxCode/2 - 1}[r.Intn(4)])
	code := rails(n)
	often := 1 + r.Intn(4)
	for at := 0; at < 2*n; at += 2 {
		if r.Intn(often) > 0 {
			continue
		}
		to := 2 * r.Intn(n+1)
		switch op := leapOps[r.Intn(3)]; op {
		case impl.OpJump:
			code[at], code[at+1] = jump(to), ins(leapOps[r.Intn(3)], r.Intn(len(code)))
		default:
			code[at], code[at+1] = ins(impl.OpBool, r.Intn(2)), ins(op, to)
		}
	}
	return impl.Func{Code: code}
}

func TestFlowOfManyRails(t *testing.T) {
	r := rand.New(rand.NewSource(27))
	deadJumps, heads, straight, jumped := 0, 0, 0, 0
	for range 3000 {
		m := impl.Module{Funcs: []impl.Func{randomRails(r), randomRails(r)}}
		if got := impl.Verify(m); got != (impl.Trouble{}) {
			t.Fatalf("%v is not good: %v", m, got)
		}
		checkFlow(t, m)
		for f, fn := range m.Funcs {
			all := 0
			for _, x := range fn.Code {
				if slices.Contains(leapOps, x.Op) {
					all++
				}
			}
			deadJumps += all - len(leapsByLaw(m, f))
			heads += len(impl.HeadsOf(m, f))
			if impl.Straight(m, f) {
				straight++
			}
		}
		j, _ := checkFlowOfRun(t, m, nil, 100)
		jumped += j
	}
	if min(deadJumps, heads, straight, jumped) < 500 {
		t.Errorf("%d jumps that nobody comes to, %d heads, %d straight, %d jumps done: the functions try too little", deadJumps, heads, straight, jumped)
	}
}

// What nobody comes to may be anything, jumps too: what is told stays the same.
func TestFlowHangsNotOnWhatNobodyComesTo(t *testing.T) {
	r := rand.New(rand.NewSource(28))
	for range 500 {
		m := impl.Module{Funcs: []impl.Func{randomRails(r)}}
		was := flowTo(m, 0)
		code := m.Funcs[0].Code
		for at, depth := range impl.DepthsOf(m, 0) {
			if depth == -1 {
				code[at] = []impl.Ins{nilIns, returnIns, dropIns, ins(leapOps[r.Intn(3)], r.Intn(len(code)))}[r.Intn(4)]
			}
		}
		if got := flowTo(m, 0); !sameFlow(got, was) {
			t.Fatalf("%v: %v, not %v", m, got, was)
		}
	}
}

// TestFlowOfAllShortFunctions goes through all functions of up to five instructions of the kinds that matter.
func TestFlowOfAllShortFunctions(t *testing.T) {
	good := 0
	for length := 1; length <= 5; length++ {
		kinds := []impl.Ins{trueIns, returnIns}
		for a := range length {
			kinds = append(kinds, jump(a), ifTo(a), ifNot(a))
		}
		m := one(nils(length)...)
		var fill func(int)
		fill = func(at int) {
			if at == length {
				if impl.Verify(m).Code == impl.OK {
					checkFlow(t, m)
					good++
				}
				return
			}
			for _, x := range kinds {
				m.Funcs[0].Code[at] = x
				fill(at + 1)
			}
		}
		fill(0)
	}
	if good < 10000 {
		t.Errorf("%d good functions alone", good)
	}
}

func TestFlowOfManyModules(t *testing.T) {
	modules := append(manyModules(), everyOp(), several(), greatest())
	r := rand.New(rand.NewSource(29))
	for range 20000 {
		modules = append(modules, livelyModule(r))
	}
	good := 0
	for _, m := range modules {
		checkFlow(t, m)
		if impl.Verify(m).Code == impl.OK {
			good++
		}
	}
	if good < 500 || len(modules)-good < 500 {
		t.Errorf("%d good modules of %d: they try too little", good, len(modules))
	}
}

func FuzzFlow(f *testing.F) {
	r := rand.New(rand.NewSource(30))
	for _, m := range append(someModules(), several(), loopInLoop(), ownLoops(3), randomProgram(r), randomProgram(r)) {
		f.Add(told(m))
	}
	for range 5 {
		f.Add(told(impl.Module{Funcs: []impl.Func{randomRails(r), randomRails(r)}}))
	}
	f.Fuzz(func(t *testing.T, b []byte) {
		m, ok := impl.Load(b)
		if !ok {
			return
		}
		checkFlow(t, m)
		if args := make([]impl.Value, m.Funcs[0].Params); impl.Verify(m).Code == impl.OK {
			checkFlowOfRun(t, m, args, 100)
		}
	})
}
