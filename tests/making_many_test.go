package tests

import (
	"cmp"
	"math/rand"
	"slices"
	"testing"

	"loop.example/g00094/impl"
)

// short is a straight function: it has few locals to fill, and statements that do not jump.
func (w *writer) short(params int) impl.Func {
	for {
		w.fn = impl.Func{Params: params, Locals: impl.MaxLocals}
		w.stack = 0
		for i := params; i < len(kindsOfLocals); i++ {
			if w.r.Intn(3) == 0 {
				w.given(kindsOfLocals[i])
				w.add(impl.OpStore, i)
			}
		}
		for range w.r.Intn(3) {
			w.statement(0)
		}
		w.value([]int{impl.VInt, impl.VInt, impl.VText, impl.VRec}[w.r.Intn(4)], 2)
		w.add(impl.OpReturn, 0)
		if len(w.fn.Code) <= impl.MaxLaid {
			return w.fn
		}
	}
}

// tightProgram is a good module most of whose functions can be laid in, also in each other.
func tightProgram(r *rand.Rand) impl.Module {
	for {
		m := impl.Module{Texts: []string{"a", "", "b c", xs(31)}}
		for range 2 + r.Intn(4) {
			m.Funcs = append(m.Funcs, impl.Func{Params: r.Intn(4), Locals: impl.MaxLocals})
		}
		for f := range m.Funcs {
			w := writer{r: r, m: m}
			if f == 0 || r.Intn(6) == 0 {
				m.Funcs[f] = w.function(m.Funcs[f].Params)
			} else {
				m.Funcs[f] = w.short(m.Funcs[f].Params)
			}
		}
		if impl.Verify(m).Code == impl.OK {
			return m
		}
	}
}

// tangledProgram is a good module whose function 0 jumps from everywhere to everywhere, with some values on its stack
// all the while; what was stored at one place is of another kind at the next one.
func tangledProgram(r *rand.Rand) impl.Module {
	for {
		m := impl.Module{Texts: []string{"a", "", "b c", xs(31)}, Funcs: []impl.Func{{Params: r.Intn(3), Locals: impl.MaxLocals}}}
		for range 1 + r.Intn(3) {
			w := writer{r: r, m: m}
			m.Funcs = append(m.Funcs, w.short(r.Intn(3)))
		}
		w := writer{r: r, m: m}
		m.Funcs[0] = w.tangle(m.Funcs[0].Params)
		if impl.Verify(m).Code == impl.OK {
			return m
		}
	}
}

func (w *writer) tangle(params int) impl.Func {
	w.fn = impl.Func{Params: params, Locals: 3 + w.r.Intn(impl.MaxLocals-2)}
	if w.fn.Locals < len(kindsOfLocals) {
		// What the writer loads and stores are these.
		w.fn.Locals = len(kindsOfLocals)
	}
	var starts, leaps []int
	for range w.r.Intn(4) {
		w.plain(w.r.Intn(6))
	}
	high := w.stack
	for range 3 + w.r.Intn(9) {
		starts = append(starts, len(w.fn.Code))
		switch w.r.Intn(6) {
		case 0:
			leaps = append(leaps, w.add(impl.OpJump, 0))
		case 1, 2:
			w.value(impl.VBool, 1)
			leaps = append(leaps, w.add([]int{impl.OpIf, impl.OpIfNot}[w.r.Intn(2)], 0))
		case 3:
			w.value(w.r.Intn(6), 1)
			w.add(impl.OpStore, w.r.Intn(len(kindsOfLocals)))
		case 4:
			if high > 1 {
				w.add(impl.OpSwap, 0)
			}
		}
		w.statement(0)
	}
	starts = append(starts, len(w.fn.Code))
	w.plain(w.r.Intn(6))
	w.add(impl.OpReturn, 0)
	for _, at := range leaps {
		w.fn.Code[at].A = starts[w.r.Intn(len(starts))]
	}
	return w.fn
}

// anyProgram is one of all kinds of programs.
func anyProgram(r *rand.Rand, n int) impl.Module {
	return []func(r *rand.Rand) impl.Module{tightProgram, tangledProgram, randomProgram, mixedProgram}[n%4](r)
}

// boldPlan guesses wherever it can.
func boldPlan(r *rand.Rand, m impl.Module) impl.Plan {
	list := guessesOf(m)
	// Of a call there is a guess for each function: one of them is taken.
	r.Shuffle(len(list), func(i int, k int) { list[i], list[k] = list[k], list[i] })
	slices.SortStableFunc(list, func(a impl.Spec, b impl.Spec) int { return cmp.Or(a.Func-b.Func, a.Pc-b.Pc) })
	list = slices.CompactFunc(list, func(a impl.Spec, b impl.Spec) bool { return a.Func == b.Func && a.Pc == b.Pc })
	return impl.Plan{Specs: list[:min(len(list), impl.MaxSites)], Lay: r.Intn(4), Bare: r.Intn(2) == 0}
}

// somePlansOf are plans of a program: drawn up of what was watched in runs, of what was seen in none, and empty.
func somePlansOf(r *rand.Rand, m impl.Module) []impl.Plan {
	seen := impl.ProfileOf(m, randomArgs(r, m), r.Intn(400))
	lay, bare := r.Intn(4), r.Intn(2) == 0
	return []impl.Plan{
		impl.PlanOf(m, seen, nil, lay, bare), boldPlan(r, m), impl.PlanOf(m, seen, nil, 3, true), impl.PlanOf(m, seen, nil, 0, false),
		impl.PlanOf(m, randomSites(r, m), nil, lay, !bare), randomPlan(r, m), {}, {Lay: lay, Bare: bare},
	}
}

// allAskings are all entries of all functions.
func allAskings(m impl.Module, p impl.Plan) []asking {
	var out []asking
	for f := range m.Funcs {
		for _, entry := range impl.EntriesOf(m, f) {
			out = append(out, asking{m, f, entry, p})
		}
	}
	return out
}

// allMade is code for each entry of each function.
func allMade(m impl.Module, p impl.Plan) []impl.Fast {
	var out []impl.Fast
	for _, a := range allAskings(m, p) {
		if c, ok := a.make(); ok {
			out = append(out, c)
		}
	}
	return out
}

// TestMakingOfManyPrograms asks promise 10 of programs, each with each Lay, with Bare and without, and holds what is
// made against the law.
func TestMakingOfManyPrograms(t *testing.T) {
	r := rand.New(rand.NewSource(62))
	var ops [30]int
	var kinds [5]int
	laid, recs, midst, begun, dead := 0, 0, 0, 0, 0
	for n := range 80 {
		m := anyProgram(r, n)
		for _, p := range somePlansOf(r, m) {
			for how := range 8 {
				p.Lay, p.Bare = how/2, how%2 == 1
				for _, a := range allAskings(m, p) {
					c, ok := checkMake(t, a)
					if !ok {
						continue
					}
					for op, count := range countsOf(c) {
						ops[op] += count
					}
					for _, e := range c.Exits {
						kinds[e.Kind]++
						recs += len(e.Recs)
					}
					laid += len(impl.LaidOf(m, c))
					midst += min(a.entry, 1)
					begun += len(blocksIn(c)) - 1
					dead += len(impl.LeadersOf(m, a.f)) - len(blocksIn(c))
				}
			}
		}
	}
	for op := impl.FConst; op <= impl.FDeep; op++ {
		if ops[op] < 200 {
			t.Errorf("Op %d is made %d times alone: the programs try too little", op, ops[op])
		}
	}
	for kind := impl.ExTrap; kind <= impl.ExPause; kind++ {
		if kinds[kind] < 500 {
			t.Errorf("exits of each Kind %v: the programs try too little", kinds)
		}
	}
	if laid < 2000 || recs < 2000 || midst < 1000 || begun < 20000 || dead < 5000 {
		t.Errorf("%d laid in, %d records, %d entries in the midst, %d blocks, %d leaders at which none begins: the programs try too little", laid, recs, midst, begun, dead)
	}
}

// checkMadeTandem runs a program by code that was made, which is to mean the same (promises 11 and 33).
func checkMadeTandem(t *testing.T, r *rand.Rand, m impl.Module, args []impl.Value, p impl.Plan) [6]int {
	t.Helper()
	return checkEndTandem(t, r, m, args, allMade(m, p))
}

// checkEndTandem runs a program by these codes, and holds its end against that of a plain run.
func checkEndTandem(t *testing.T, r *rand.Rand, m impl.Module, args []impl.Value, codes []impl.Fast) [6]int {
	t.Helper()
	vm, ways := inTandem(t, m, args, codes, func() int { return []int{0, 1, 7, 30, 90}[r.Intn(5)] })
	if plain := impl.Run(m, args, 4000); vm.Status != impl.StRun && plain.Status != impl.StRun && !impl.Alike(m, vm, plain) {
		t.Fatalf("%v with %v, by %+v: comes to %+v, not %+v", m, args, codes, vm, plain)
	}
	return ways
}

// TestMadeProgramsMeanWhatTheyDid asks promises 11 and 33 of programs as people write them.
func TestMadeProgramsMeanWhatTheyDid(t *testing.T) {
	r := rand.New(rand.NewSource(63))
	var ways [6]int
	for _, x := range slices.Repeat(append(wholeRuns(), recordRuns()...), 3) {
		for _, p := range append(somePlansOf(r, x.m), impl.PlanOf(x.m, impl.ProfileOf(x.m, x.args, 4000), nil, 3, true), impl.PlanOf(x.m, impl.ProfileOf(x.m, x.args, 4000), nil, 1, false)) {
			for n, count := range checkMadeTandem(t, r, x.m, x.args, p) {
				ways[n] += count
			}
		}
	}
	checkWays(t, ways, 10)
}

func checkWays(t *testing.T, ways [6]int, least int) {
	t.Helper()
	for kind := impl.ExTrap; kind <= impl.LfReturn; kind++ {
		if ways[kind] < least {
			t.Errorf("ways in which code left: %v: they try too little", ways)
		}
	}
}

// TestManyMadePrograms asks it of many.
func TestManyMadePrograms(t *testing.T) {
	r := rand.New(rand.NewSource(64))
	var ways [6]int
	for n := range 800 {
		m := anyProgram(r, n)
		plans := somePlansOf(r, m)
		for kind, count := range checkMadeTandem(t, r, m, randomArgs(r, m), plans[n/4%len(plans)]) {
			ways[kind] += count
		}
	}
	checkWays(t, ways, 40)
}

// TestMadeCodeFromEachStateOfRuns asks it from each state of runs that stands at an entry, with fuel of 0, of little
// and of much.
func TestMadeCodeFromEachStateOfRuns(t *testing.T) {
	r := rand.New(rand.NewSource(65))
	var ways [6]int
	for n := range 240 {
		m := anyProgram(r, n)
		p := somePlansOf(r, m)[n/4%3]
		codes := allMade(m, p)
		vm, _ := impl.Start(m, randomArgs(r, m))
		for range 80 {
			if vm.Status != impl.StRun {
				break
			}
			if at := slices.IndexFunc(codes, func(c impl.Fast) bool { return impl.Enters(m, c, vm) }); at >= 0 {
				for _, fuel := range []int{0, 1, 5, 100} {
					e := entering{m, codes[at], vm, fuel}
					got, told := checkMeaning(t, e)
					checkLeaving(t, e, got, told)
					ways[told.Kind]++
				}
			}
			vm = impl.Step(m, vm)
		}
	}
	checkWays(t, ways, 20)
}

// TestMadeCodeInDrawnStates asks it from states that no run need come to: full of records, texts or frames.
func TestMadeCodeInDrawnStates(t *testing.T) {
	r := rand.New(rand.NewSource(66))
	var ways [6]int
	for n := range 160 {
		m := anyProgram(r, n)
		plans := somePlansOf(r, m)
		for _, c := range allMade(m, plans[n/4%len(plans)]) {
			for _, vm := range []impl.Vm{stateAt(r, m, c), filled(r, m, stateAt(r, m, c))} {
				e := entering{m, c, vm, edge(r, 100)}
				got, told := checkMeaning(t, e)
				checkLeaving(t, e, got, told)
				ways[told.Kind]++
			}
		}
	}
	checkWays(t, ways, 40)
}

// What is made twice is the same, and what came of it can be entered again where it stands at the entry.
func TestMadeCodeIsRunAgain(t *testing.T) {
	r := rand.New(rand.NewSource(68))
	again := 0
	for n := range 80 {
		m := anyProgram(r, n)
		for _, a := range allAskings(m, boldPlan(r, m)) {
			c, ok := a.make()
			other, okToo := a.make()
			if ok != okToo || !sameFast(c, other) {
				t.Fatalf("%+v makes %+v and %+v", a, c, other)
			}
			if !ok {
				continue
			}
			first, _ := checkMeaning(t, entering{m, c, stateAt(r, m, c), r.Intn(40)})
			if impl.Enters(m, c, first) {
				again++
				checkMeaning(t, entering{m, c, first, r.Intn(40)})
			}
		}
	}
	if again < 20 {
		t.Errorf("entered again %d times alone: the code tries too little", again)
	}
}

func FuzzMake(f *testing.F) {
	r := rand.New(rand.NewSource(69))
	for _, m := range append(someModules(), several(), codeModule(), planModule(), stateModule(), alikeModule(), cellModule(), ringModule(), tightProgram(r), tangledProgram(r)) {
		f.Add(told(m), int64(1), 20)
	}
	f.Fuzz(func(t *testing.T, b []byte, seed int64, fuel int) {
		m, ok := impl.Load(b)
		if !ok {
			return
		}
		r := rand.New(rand.NewSource(seed))
		if impl.Verify(m).Code != impl.OK {
			checkMake(t, asking{m, 0, 0, impl.Plan{}})
			return
		}
		for _, p := range []impl.Plan{boldPlan(r, m), randomPlan(r, m), {Lay: r.Intn(4), Bare: true}} {
			for _, a := range allAskings(m, p) {
				c, ok := checkMake(t, a)
				if !ok {
					continue
				}
				e := entering{m, c, stateAt(r, m, c), ((fuel % 100) + 100) % 100}
				got, told := checkMeaning(t, e)
				checkLeaving(t, e, got, told)
			}
		}
	})
}
