package tests

import (
	"math/rand"
	"slices"
	"testing"

	"loop.example/g00094/impl"
)

// sweepCounts are what the tests of many codes came across.
type sweepCounts struct {
	ops   int
	exits int
	late  int
	ways  [6]int
	saved int
}

// sweep holds code against the law, and counts what goes.
func (n *sweepCounts) sweep(t *testing.T, m impl.Module, c impl.Fast) sweptCode {
	t.Helper()
	swept := checkSweep(t, m, c)
	n.ops += len(c.Ops) - len(swept.ops)
	n.exits += len(c.Exits) - len(swept.exits)
	n.late += len(c.Ops) - len(swept.ops) - len(impl.IdleOps(m, c))
	return swept
}

// run runs code and what it was swept to with fuel of 0, of little and of much.
func (n *sweepCounts) run(t *testing.T, e entering, swept sweptCode, fuels ...int) {
	t.Helper()
	for _, e.fuel = range fuels {
		told := checkSweptRun(t, e, swept)
		n.ways[told.Kind]++
		if _, less := (entering{e.m, swept.c, e.vm, e.fuel}).run(); less.Steps < told.Steps {
			n.saved++
		}
	}
}

// checkEnough asks that something came of it.
func (n *sweepCounts) checkEnough(t *testing.T, least int) {
	t.Helper()
	if n.ops < 10*least || n.late < least || n.saved < least {
		t.Errorf("%d ops went, %d of them behind others, %d runs had fewer steps: they try too little", n.ops, n.late, n.saved)
	}
	checkWays(t, n.ways, least)
}

// needless are instructions that neither trap nor leave anything behind, whatever there is; code for them is idle.
func needless(r *rand.Rand, locals int) []impl.Ins {
	value := func() impl.Ins {
		if locals > 0 && r.Intn(2) == 0 {
			return ins(impl.OpLoad, r.Intn(locals))
		}
		return []impl.Ins{ins(impl.OpInt, r.Intn(9)), ins(impl.OpBool, 1), nilIns, ins(impl.OpFun, 0)}[r.Intn(4)]
	}
	out := []impl.Ins{value(), value(), ins(impl.OpSame, 0)}
	if r.Intn(2) == 0 {
		out = []impl.Ins{ins(impl.OpInt, r.Intn(9)), ins(impl.OpInt, r.Intn(9)), ins(impl.OpLess, 0)}
	}
	for range r.Intn(3) {
		out = append(out, value(), ins(impl.OpSame, 0))
	}
	return append(out, ins(impl.OpDrop, 0))
}

// withMore is a module with more instructions at a place of a function. Jumps to what stood there lead to the first of
// them, if they are led so, and otherwise to where they did.
func withMore(m impl.Module, f int, at int, led bool, more ...impl.Ins) impl.Module {
	out := cloneModule(m)
	code := out.Funcs[f].Code
	for i, x := range code {
		if within(x.Op, impl.OpJump, impl.OpIfNot) && (x.A > at || x.A == at && !led) {
			code[i].A += len(more)
		}
	}
	out.Funcs[f].Code = slices.Insert(code, at, more...)
	return out
}

// loosened is a good module that does what m does, with needless instructions here and there, where there is room.
func loosened(r *rand.Rand, m impl.Module) impl.Module {
	for f := range m.Funcs {
		for range 1 + r.Intn(5) {
			at, more := r.Intn(len(m.Funcs[f].Code)), needless(r, m.Funcs[f].Locals)
			if next := withMore(m, f, at, true, more...); impl.Verify(next).Code == impl.OK {
				m = next
			}
		}
	}
	return m
}

// looseProgram is any program, with needless instructions.
func looseProgram(r *rand.Rand, n int) impl.Module { return loosened(r, anyProgram(r, n)) }

// cluttered is code among whose ops stand others that write into new registers alone, and that take from anywhere, but
// from none of those that come behind them in the order of the registers. All of them go, so it is swept to what the
// code itself is swept to, but for how many registers there are. Ops of the code go on at those that were laid ahead of
// where they went, or at where they went.
func cluttered(r *rand.Rand, was impl.Fast, n int) impl.Fast {
	c := cloneFast(was)
	for range n {
		if len(c.Ops) == impl.MaxOps || c.Vals == impl.MaxRegs || c.Nums == impl.MaxRegs {
			break
		}
		x := impl.FOp{Op: []int{impl.FConst, impl.FMove, impl.FNum, impl.FMoveNum, impl.FBox, impl.FSame, impl.FLessN}[r.Intn(7)], D: c.Vals}
		if c.Nums == 0 && (x.Op == impl.FMoveNum || x.Op == impl.FBox || x.Op == impl.FLessN) {
			x.Op = impl.FNum
		}
		if c.Vals == 0 && (x.Op == impl.FMove || x.Op == impl.FSame) {
			x.Op = impl.FConst
		}
		for _, name := range []string{"A", "B"} {
			switch namedAs(x.Op, name) {
			case "val":
				*fieldOf(&x, name) = edge(r, c.Vals-1)
			case "num":
				*fieldOf(&x, name) = edge(r, c.Nums-1)
			}
		}
		if x.Op == impl.FNum || x.Op == impl.FMoveNum {
			x.D = c.Nums
			c.Nums++
		} else {
			c.Vals++
		}
		if x.Op == impl.FConst || x.Op == impl.FNum {
			x.V = num(r.Intn(9))
		}
		laidAmong(r, &c, x)
	}
	return c
}

// laidAmong lays an op ahead of one of those that there are, or ahead of the first.
func laidAmong(r *rand.Rand, c *impl.Fast, x impl.FOp) {
	at := r.Intn(len(c.Ops))
	for i := range c.Ops {
		op := &c.Ops[i]
		to := &op.A
		if op.Op == impl.FIf {
			to = &op.B
		} else if op.Op != impl.FJump {
			continue
		}
		// Who goes back must find an op that asks for fuel.
		if *to > at || *to == at && (i >= at || r.Intn(2) == 0) {
			*to++
		}
	}
	c.Ops = slices.Insert(c.Ops, at, x)
}

// checkCluttered asks it of code, and gives the code with other ops among its own.
func checkCluttered(t *testing.T, r *rand.Rand, m impl.Module, c impl.Fast) impl.Fast {
	t.Helper()
	more := cluttered(r, c, 1+r.Intn(20))
	got, want := impl.Sweep(m, more), impl.Sweep(m, c)
	if want.Vals, want.Nums = more.Vals, more.Nums; !sameFast(got, want) {
		t.Fatalf("%v: swept to\n%s, not to\n%s: of\n%s", m, fastTextByLaw(got), fastTextByLaw(want), fastTextByLaw(more))
	}
	return more
}

// TestSweepingOfManyMadeCodes asks promise 14 of code that was made, at each entry of each function, by plans of all
// kinds, with Bare and without, from drawn states that stand at its entry.
func TestSweepingOfManyMadeCodes(t *testing.T) {
	r := rand.New(rand.NewSource(70))
	var n sweepCounts
	for i := range 40 {
		m := looseProgram(r, i)
		for _, p := range somePlansOf(r, m) {
			for _, p.Bare = range []bool{false, true} {
				for _, c := range allMade(m, p) {
					swept := n.sweep(t, m, c)
					vm := stateAt(r, m, c)
					if r.Intn(4) == 0 {
						vm = filled(r, m, vm)
					}
					n.run(t, entering{m, c, vm, 0}, swept, 0, 1+r.Intn(20), 50+r.Intn(100))
				}
			}
		}
	}
	n.checkEnough(t, 100)
	// Exits come with the ops that need them, and no op that has one goes.
	if n.exits != 0 {
		t.Errorf("%d exits that were made are X of no op", n.exits)
	}
}

// TestSweptMadeCodeFromEachStateOfRuns asks it from each state of runs that stands at an entry.
func TestSweptMadeCodeFromEachStateOfRuns(t *testing.T) {
	r := rand.New(rand.NewSource(71))
	var n sweepCounts
	for i := range 120 {
		m := looseProgram(r, i)
		plans := somePlansOf(r, m)
		codes := allMade(m, plans[i/4%len(plans)])
		var all []sweptCode
		for _, c := range codes {
			all = append(all, n.sweep(t, m, c))
		}
		vm, _ := impl.Start(m, randomArgs(r, m))
		for range 60 {
			if vm.Status != impl.StRun {
				break
			}
			if at := slices.IndexFunc(codes, func(c impl.Fast) bool { return impl.Enters(m, c, vm) }); at >= 0 {
				n.run(t, entering{m, codes[at], vm, 0}, all[at], 0, 1, 5, 100)
			}
			vm = impl.Step(m, vm)
		}
	}
	n.checkEnough(t, 20)
}

// TestSweptProgramsMeanWhatTheyDid asks promises 11, 12 and 33 of code that was made and then swept.
func TestSweptProgramsMeanWhatTheyDid(t *testing.T) {
	r := rand.New(rand.NewSource(72))
	var ways [6]int
	for i := range 160 {
		m := looseProgram(r, i)
		plans := somePlansOf(r, m)
		var codes []impl.Fast
		for _, c := range allMade(m, plans[i/4%len(plans)]) {
			codes = append(codes, checkSweep(t, m, checkCluttered(t, r, m, c)).c)
		}
		for kind, count := range checkEndTandem(t, r, m, randomArgs(r, m), codes) {
			ways[kind] += count
		}
	}
	checkWays(t, ways, 20)
}

// TestSweepingOfHandmadeCode asks it of code that was made by hand, and of translated code.
func TestSweepingOfHandmadeCode(t *testing.T) {
	r := rand.New(rand.NewSource(73))
	var n sweepCounts
	for _, x := range someHandmade() {
		for range 40 {
			c := checkCluttered(t, r, x.m, x.c)
			n.run(t, entering{x.m, c, stateAt(r, x.m, c), 0}, n.sweep(t, x.m, c), 0, r.Intn(20), 100)
		}
	}
	for i := range 60 {
		m := randomProgram(r)
		for _, was := range allTranslated(m, someStyles()[i%len(someStyles())]) {
			for _, c := range []impl.Fast{checkCluttered(t, r, m, was), turned(r, m, was)} {
				n.run(t, entering{m, c, stateAt(r, m, c), 0}, n.sweep(t, m, c), 0, r.Intn(20), 100)
			}
		}
	}
	n.checkEnough(t, 30)
}

// TestSweepingOfManyCodesThatNobodyMade asks promise 14 of code that is ok, whoever wrote it, and that such as is not ok
// is not swept.
func TestSweepingOfManyCodesThatNobodyMade(t *testing.T) {
	r := rand.New(rand.NewSource(74))
	var n sweepCounts
	oks := map[bool]int{}
	for range 150 {
		m := randomProgram(r)
		for range 8 {
			was := randomFast(r, m)
			for _, c := range []impl.Fast{was, checkCluttered(t, r, m, was), crowded(r, was)} {
				n.run(t, entering{m, c, stateAt(r, m, c), 0}, n.sweep(t, m, c), 0, r.Intn(10), r.Intn(300))
			}
			for range 3 {
				c := spoiledFast(r, was)
				checkSweep(t, m, c)
				oks[impl.FastOk(m, c)]++
			}
			checkSweep(t, randomProgram(r), was)
		}
	}
	n.checkEnough(t, 100)
	if n.exits < 1000 {
		t.Errorf("%d exits went: the code tries too little", n.exits)
	}
	if oks[true] < 200 || oks[false] < 1000 {
		t.Errorf("spoiled code is ok or not %v times: it tries too little", oks)
	}
}

// crowded is code whose ops that may be idle work on few registers, so that they take from each other and themselves.
func crowded(r *rand.Rand, was impl.Fast) impl.Fast {
	c := cloneFast(was)
	c.Vals, c.Nums = min(c.Vals+4, impl.MaxRegs), min(c.Nums+3, impl.MaxRegs)
	for i := range c.Ops {
		x := &c.Ops[i]
		if _, idles := idlersByLaw[x.Op]; !idles {
			continue
		}
		for _, name := range []string{"D", "A", "B"} {
			switch namedAs(x.Op, name) {
			case "val":
				*fieldOf(x, name) = c.Vals - 1 - r.Intn(4)
			case "num":
				*fieldOf(x, name) = c.Nums - 1 - r.Intn(3)
			}
		}
	}
	return c
}

// Idle ops may be taken out one at a time, whichever comes first: the same is left.
func TestTheOrderInWhichIdleOpsGo(t *testing.T) {
	r := rand.New(rand.NewSource(75))
	gone := 0
	for range 100 {
		m := randomProgram(r)
		was := crowded(r, randomFast(r, m))
		if r.Intn(2) == 0 {
			was = cluttered(r, was, 10)
		}
		want := impl.Sweep(m, was)
		c := was
		for idle := impl.IdleOps(m, c); len(idle) > 0; idle = impl.IdleOps(m, c) {
			at := idle[r.Intn(len(idle))]
			c = onlyOps(c, slices.Delete(numbersBelow(len(c.Ops)), at, at+1))
			gone++
			if !sameFast(impl.Sweep(m, c), want) {
				t.Fatalf("%v: without op %d\n%s is swept to something else", m, at, fastTextByLaw(was))
			}
		}
		if left := impl.Sweep(m, c); len(left.Ops) != len(c.Ops) || !sameFast(left, want) {
			t.Fatalf("%v:\n%s is swept to something else", m, fastTextByLaw(was))
		}
	}
	if gone < 300 {
		t.Errorf("%d ops went: the code tries too little", gone)
	}
}

func FuzzSweep(f *testing.F) {
	r := rand.New(rand.NewSource(76))
	for _, m := range append(someModules(), several(), codeModule(), sweepModule(), stateModule(), cellModule(), ringModule(), randomProgram(r), tightProgram(r)) {
		f.Add(told(m), int64(1), 20)
	}
	f.Fuzz(func(t *testing.T, b []byte, seed int64, fuel int) {
		m, ok := impl.Load(b)
		if !ok {
			return
		}
		if impl.Verify(m).Code != impl.OK {
			checkSweep(t, m, retCode(0, 0, 20, 0))
			return
		}
		r := rand.New(rand.NewSource(seed))
		was := randomFast(r, m)
		codes := append(allMade(m, boldPlan(r, m)), was, crowded(r, was), turned(r, m, was))
		for _, c := range codes {
			swept := checkSweep(t, m, c)
			more := checkCluttered(t, r, m, c)
			vm := stateAt(r, m, c)
			checkSweptRun(t, entering{m, c, vm, ((fuel % 100) + 100) % 100}, swept)
			checkSweptRun(t, entering{m, more, vm, ((fuel % 100) + 100) % 100}, checkSweep(t, m, more))
		}
	})
}
