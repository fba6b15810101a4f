package tests

import (
	"math/rand"
	"slices"
	"testing"

	"loop.example/g00094/impl"
)

// endsAhead tells whether nobody comes to a place from the one ahead of it.
func endsAhead(code []impl.Ins, at int) bool {
	return at > 0 && (code[at-1].Op == impl.OpJump || code[at-1].Op == impl.OpReturn)
}

// laidBy is a module with more instructions at a place, which nobody comes to but by jumps that lead to them: who comes
// from ahead passes over them. It gives where the first of them stands.
func laidBy(m impl.Module, f int, at int, more ...impl.Ins) (impl.Module, int) {
	if endsAhead(m.Funcs[f].Code, at) {
		return withMore(m, f, at, false, more...), at
	}
	return withMore(m, f, at, true, append([]impl.Ins{jump(at + 1 + len(more))}, more...)...), at + 1
}

// withDead is a module with instructions of any kind that nobody need come to.
func withDead(r *rand.Rand, m impl.Module, f int) impl.Module {
	n := 1 + r.Intn(4)
	out, first := laidBy(m, f, r.Intn(len(m.Funcs[f].Code)+1), nils(n)...)
	rows := tableOf(out, f)
	for i := range n {
		x := rows[r.Intn(len(rows))]
		if r.Intn(2) == 0 {
			x = row{leapOps[r.Intn(3)], 0, len(out.Funcs[f].Code) - 1}
		}
		if x.least <= x.most {
			out.Funcs[f].Code[first+i] = ins(x.op, x.least+r.Intn(x.most-x.least+1))
		}
	}
	return out
}

// leapsIn are the places of the jumps of a function, whether one comes to them or not.
func leapsIn(code []impl.Ins) []int {
	return slices.DeleteFunc(numbersBelow(len(code)), func(at int) bool { return !slices.Contains(leapOps, code[at].Op) })
}

// withDetour is a module in which one jump leads by way of a new one to where it led.
func withDetour(r *rand.Rand, m impl.Module, f int) impl.Module {
	leaps := leapsIn(m.Funcs[f].Code)
	if len(leaps) == 0 {
		return withMore(m, f, 0, false, jump(1))
	}
	at := r.Intn(len(m.Funcs[f].Code) + 1)
	from := leaps[r.Intn(len(leaps))]
	out, first := laidBy(m, f, at, jump(0))
	if from >= at {
		from += len(out.Funcs[f].Code) - len(m.Funcs[f].Code)
	}
	code := out.Funcs[f].Code
	code[first].A, code[from].A = code[from].A, first
	return out
}

// withRound is a module with jumps that go round, and sometimes with a way to them, that is taken or not.
func withRound(r *rand.Rand, m impl.Module, f int) impl.Module {
	begins, n := len(m.Funcs[f].Code), 1+r.Intn(9)
	order := r.Perm(n)
	more := make([]impl.Ins, n)
	for i := range n {
		more[order[i]] = jump(begins + order[(i+1)%n])
	}
	out := withMore(m, f, begins, true, more...)
	if r.Intn(3) == 0 {
		return out
	}
	way := []impl.Ins{ins(impl.OpBool, r.Intn(2)), ins(leapOps[1+r.Intn(2)], 0)}
	if r.Intn(3) == 0 {
		// As it counts up in most programs, this way is seldom taken at once.
		way = []impl.Ins{ins(impl.OpLoad, 0), ins(impl.OpInt, 1), ins(impl.OpSame, 0), ifTo(0)}
	}
	at := r.Intn(begins)
	out = withMore(out, f, at, true, way...)
	out.Funcs[f].Code[at+len(way)-1].A = begins + len(way) + r.Intn(n)
	return out
}

// intsIn are the places of the OpInts of a function.
func intsIn(code []impl.Ins) []int {
	return slices.DeleteFunc(numbersBelow(len(code)), func(at int) bool { return code[at].Op != impl.OpInt })
}

// withSum is a module in which a number is what comes of two others, or of any two.
func withSum(r *rand.Rand, m impl.Module, f int) impl.Module {
	ints := intsIn(m.Funcs[f].Code)
	if len(ints) == 0 {
		return withMore(m, f, 0, false, ins(impl.OpInt, r.Intn(9)), ins(impl.OpPrint, 0))
	}
	at := ints[r.Intn(len(ints))]
	n := m.Funcs[f].Code[at].A
	b := []int{0, 1, -1, 2, 7, -40000, impl.MaxNum}[r.Intn(7)]
	op := impl.OpAdd + r.Intn(3)
	a := map[int]int{impl.OpAdd: n - b, impl.OpSub: n + b, impl.OpMul: -n}[op]
	if op == impl.OpMul {
		b = -1
	}
	if !within(a, -impl.MaxNum, impl.MaxNum) || r.Intn(8) == 0 {
		a, b = []int{1, 40000, impl.MaxNum, -impl.MaxNum}[r.Intn(4)], []int{0, 1, -1, 40000, impl.MaxNum}[r.Intn(5)]
	}
	out := withMore(m, f, at+1, false, ins(impl.OpInt, b), ins(op, 0))
	out.Funcs[f].Code[at].A = a
	return out
}

// withFork is a module with another way to the second or the third of three instructions that could be folded.
func withFork(r *rand.Rand, m impl.Module, f int) impl.Module {
	list := foldable(m, f)
	if len(list) == 0 {
		return withSum(r, m, f)
	}
	at, ahead := list[r.Intn(len(list))], 1+r.Intn(2)
	begins := len(m.Funcs[f].Code)
	way := make([]impl.Ins, ahead)
	for i := range way {
		way[i] = ins(impl.OpInt, r.Intn(9))
	}
	out := withMore(m, f, begins, true, append(way, jump(at+ahead))...)
	return withMore(out, f, at, true, ins(impl.OpBool, r.Intn(2)), ins(leapOps[1+r.Intn(2)], begins+2))
}

// rewritable is a good module in which there is something to cut, to thread and to fold.
func rewritable(r *rand.Rand, n int) impl.Module {
	ways := []func(r *rand.Rand, m impl.Module, f int) impl.Module{withDead, withDetour, withDetour, withRound, withSum, withSum, withFork}
	m := anyProgram(r, n)
	for range 4 + r.Intn(16) {
		next := ways[r.Intn(len(ways))](r, m, r.Intn(len(m.Funcs)))
		if impl.Verify(next).Code == impl.OK {
			m = next
		}
	}
	return m
}

// rewritables are so many of them.
func rewritables(seed int64, n int) []impl.Module {
	r := rand.New(rand.NewSource(seed))
	var out []impl.Module
	for i := range n {
		out = append(out, rewritable(r, i))
	}
	return out
}

// rewriteCounts are what the tests of many modules came across, of each way of rewriting.
type rewriteCounts struct {
	gone   map[string]int
	led    map[string]int
	spared map[string]int
	ends   map[string][9]int
	longer map[string]int
}

func newCounts() rewriteCounts {
	return rewriteCounts{map[string]int{}, map[string]int{}, map[string]int{}, map[string][9]int{}, map[string]int{}}
}

// run asks promise 16 of one run of a module and of all that it is rewritten to.
func (n rewriteCounts) run(t *testing.T, m impl.Module, args []impl.Value, fuel int) {
	t.Helper()
	for _, two := range checkRewritings(t, m) {
		n.gone[two.name] += two.gone()
		n.led[two.name] += two.led()
		spared, end := two.checkRun(t, args, fuel)
		n.spared[two.name] += spared
		if end < 0 {
			n.longer[two.name]++
			continue
		}
		ends := n.ends[two.name]
		ends[end]++
		n.ends[two.name] = ends
	}
}

// checkEnough asks that something came of it.
func (n rewriteCounts) checkEnough(t *testing.T, least int) {
	t.Helper()
	if n.gone["Thread"] != 0 || n.led["Cut"] != 0 || n.led["Fold"] != 0 || n.spared["Cut"] != 0 {
		t.Errorf("%v gone, %v led elsewhere, %v steps spared", n.gone, n.led, n.spared)
	}
	for name, got := range map[string]int{
		"instructions cut": n.gone["Cut"], "instructions folded": n.gone["Fold"], "jumps threaded": n.led["Thread"],
		"steps spared by folding": n.spared["Fold"], "steps spared by threading": n.spared["Thread"],
	} {
		if got < 10*least {
			t.Errorf("%d %s alone: the modules try too little", got, name)
		}
	}
	for name, ends := range n.ends {
		for _, trap := range []int{0, impl.TrType, impl.TrOver, impl.TrField, impl.TrArgs, impl.TrDeep} {
			if ends[trap] < least/20 {
				t.Errorf("%s: trap %d came %d times alone", name, trap, ends[trap])
			}
		}
		if ends[0] < least || n.longer[name] < least/10 {
			t.Errorf("%s: %d runs came to an answer, %d to no end: the modules try too little", name, ends[0], n.longer[name])
		}
	}
}

// TestManyProgramsMeanWhatTheyDid asks promise 16 of programs of all kinds.
func TestManyProgramsMeanWhatTheyDid(t *testing.T) {
	r := rand.New(rand.NewSource(96))
	n := newCounts()
	for i := range 1200 {
		m := rewritable(r, i)
		n.run(t, m, randomArgs(r, m), []int{100, 1000, 5000}[i%3])
	}
	n.checkEnough(t, 100)
}

// TestManyRailsMeanWhatTheyDid asks it of functions that jump from everywhere to everywhere.
func TestManyRailsMeanWhatTheyDid(t *testing.T) {
	r := rand.New(rand.NewSource(97))
	n := newCounts()
	for range 1500 {
		m := impl.Module{Funcs: []impl.Func{randomRails(r), randomRails(r)}}
		for range r.Intn(6) {
			if next := withDetour(r, m, 0); impl.Verify(next).Code == impl.OK {
				m = next
			}
		}
		n.run(t, m, nil, 400)
	}
	for name, got := range map[string]int{"cut": n.gone["Cut"], "threaded": n.led["Thread"], "spared": n.spared["Thread"], "ended": n.ends["Thread"][0], "not ended": n.longer["Thread"]} {
		if got < 500 {
			t.Errorf("%d %s alone: the functions try too little", got, name)
		}
	}
}

// A module may be rewritten again and again, in any order: it does what it did at first.
func TestManyWaysOneBehindTheOther(t *testing.T) {
	r := rand.New(rand.NewSource(98))
	ended := 0
	for i := range 300 {
		m := rewritable(r, i)
		args := randomArgs(r, m)
		was := impl.Run(m, args, 2000)
		now, steps := m, was.Steps
		for range 6 {
			how := rewritings()[r.Intn(3)]
			now = checkRewriting(t, now, how).got
			got := impl.Run(now, args, 2000)
			if was.Status == impl.StRun {
				break
			}
			ended++
			if !slices.Equal(got.Out, was.Out) || got.Status != was.Status || got.Trap != was.Trap || got.Value != was.Value || got.Steps > steps {
				t.Fatalf("program %d with %v, by %s: %+v, not %+v", i, args, how.name, got, was)
			}
			steps = got.Steps
		}
		if len(now.Funcs) != len(m.Funcs) || !slices.Equal(now.Texts, m.Texts) {
			t.Fatalf("program %d: %v", i, now)
		}
	}
	if ended < 500 {
		t.Errorf("%d runs alone came to an end", ended)
	}
}

// Texts, Params and Locals stay as they are, whatever becomes of the code.
func TestWhatRewritingKeeps(t *testing.T) {
	texts, kept := 0, 0
	for _, m := range append(rewritables(99, 100), several(), stateModule(), withGoodCode(withRoom(6, 12)), withGoodCode(withTexts("b", "", "a", "b"))) {
		for _, how := range rewritings() {
			got := how.do(m)
			if !slices.Equal(got.Texts, m.Texts) || len(got.Funcs) != len(m.Funcs) {
				t.Fatalf("%s of %v: %v", how.name, m, got)
			}
			for f, fn := range got.Funcs {
				if was := m.Funcs[f]; fn.Params != was.Params || fn.Locals != was.Locals {
					t.Fatalf("%s of %v: %v", how.name, m, got)
				}
				kept += fn.Locals - fn.Params
			}
			texts += len(got.Texts)
		}
	}
	if texts < 500 || kept < 500 {
		t.Errorf("%d texts, %d locals: the modules try too little", texts, kept)
	}
}

// withGoodCode is a module whose functions answer nil, and have an instruction to cut.
func withGoodCode(m impl.Module) impl.Module {
	for f := range m.Funcs {
		m.Funcs[f].Code = []impl.Ins{nilIns, returnIns, dropIns}
	}
	return m
}

// TestRewritingOfAllShortFunctions goes through all functions of up to five instructions of the kinds that matter.
func TestRewritingOfAllShortFunctions(t *testing.T) {
	good := 0
	for length := 1; length <= 5; length++ {
		kinds := []impl.Ins{ins(impl.OpInt, 2), ins(impl.OpMul, 0), returnIns}
		for a := range length {
			kinds = append(kinds, jump(a), ifTo(a))
		}
		m := one(nils(length)...)
		var fill func(int)
		fill = func(at int) {
			if at == length {
				if impl.Verify(m).Code == impl.OK {
					for _, two := range checkRewritings(t, m) {
						two.checkRun(t, nil, 12)
					}
					good++
				}
				return
			}
			for _, x := range kinds {
				m.Funcs[0].Code[at] = x
				fill(at + 1)
			}
		}
		fill(0)
	}
	if good < 5000 {
		t.Errorf("%d good functions alone", good)
	}
}

// TestFoldOfAllShortSums goes through all code of numbers and of what works with them, with something to come to its
// midst by, and with nothing.
func TestFoldOfAllShortSums(t *testing.T) {
	kinds := []impl.Ins{ins(impl.OpInt, 3), ins(impl.OpInt, impl.MaxNum), ins(impl.OpAdd, 0), ins(impl.OpMul, 0), ins(impl.OpLess, 0)}
	good, folded := 0, 0
	code := nils(7)
	var fill func(int)
	fill = func(at int) {
		if at == len(code) {
			for end := range len(code) {
				// What is behind the end is there for the last of them alone to lead to.
				m := one(append(slices.Clone(code), returnIns, nilIns, jump(end), ifNot(end))...)
				if impl.Verify(m).Code != impl.OK {
					return
				}
				good++
				folded += checkRewriting(t, m, rewritingNamed("Fold")).gone()
			}
			return
		}
		for _, x := range kinds {
			code[at] = x
			fill(at + 1)
		}
	}
	fill(0)
	if good < 5000 || folded < 5000 {
		t.Errorf("%d good functions, %d instructions folded: they try too little", good, folded)
	}
}

// TestRewritingOfManyModules holds modules against the law that are good, ModuleOk, and neither.
func TestRewritingOfManyModules(t *testing.T) {
	r := rand.New(rand.NewSource(100))
	modules := append(manyModules(), everyOp(), several(), greatest(), loopInLoop(), ownLoops(impl.MaxFuncs))
	for range 6000 {
		modules = append(modules, livelyModule(r))
	}
	for i := range 200 {
		m := rewritable(r, i)
		f := r.Intn(len(m.Funcs))
		at := r.Intn(len(m.Funcs[f].Code))
		m.Funcs[f].Code[at] = ins(r.Intn(28), r.Intn(9)-1)
		modules = append(modules, m)
	}
	counts := map[string]int{}
	for _, m := range modules {
		checkRewritings(t, m)
		switch {
		case goodByLaw(m):
			counts["good"]++
		case impl.ModuleOk(m):
			counts["ok"]++
		default:
			counts["not ok"]++
		}
	}
	if counts["good"] < 300 || counts["ok"] < 1000 || counts["not ok"] < 20 {
		t.Errorf("%v modules: they try too little", counts)
	}
}

// Runs with each fuel up to the end: as long as the module runs on, so may what it was rewritten to, and it ends in the
// same way, with less fuel or the same.
func TestRewrittenRunsWithEachFuel(t *testing.T) {
	for _, m := range append(rewritables(101, 40), mod("func 0 0; int 1; int 2; add; print; jump 5; jump 6; nil; return")) {
		args := slices.Repeat(vals(num(2)), m.Funcs[0].Params)
		for fuel := range 60 {
			for _, two := range checkRewritings(t, m) {
				two.checkEnd(t, args, fuel)
			}
		}
	}
	// One that is still at work at MaxSteps can come to its end within them, where two steps of each eleven are spared.
	m := mod("func 0 1; int 0; store 0; load 0; int 5000; less; ifnot 13; load 0; int 3; int 2; sub; add; store 0; jump 2; load 0; return")
	was, now := impl.Run(m, nil, impl.MaxSteps), impl.Run(impl.Fold(m), nil, impl.MaxSteps)
	if was.Status != impl.StRun || now.Status != impl.StDone || now.Value != num(5000) || now.Steps != 2+5000*9+4+2 {
		t.Errorf("%+v, and folded %+v", was, now)
	}
}

func FuzzRewrite(f *testing.F) {
	r := rand.New(rand.NewSource(102))
	for _, m := range append(rewritables(103, 8), someModules()...) {
		f.Add(told(m), int64(1), 20)
	}
	for range 4 {
		f.Add(told(impl.Module{Funcs: []impl.Func{randomRails(r), randomRails(r)}}), int64(2), 50)
	}
	f.Fuzz(func(t *testing.T, b []byte, seed int64, fuel int) {
		m, ok := impl.Load(b)
		if !ok {
			return
		}
		two := checkRewritings(t, m)
		if impl.Verify(m).Code != impl.OK {
			return
		}
		args := randomArgs(rand.New(rand.NewSource(seed)), m)
		for _, x := range two {
			x.checkRun(t, args, ((fuel%100)+100)%100)
		}
	})
}
