package tests

import (
	"math/rand"
	"runtime"
	"slices"
	"sync"
	"testing"
	"time"

	"loop.example/g00094/impl"
)

// TestCountingOfManyMadeCodes asks promises 13 and 15 of code that was made, at each entry of each function, by plans of
// all kinds, and of what it was swept to.
func TestCountingOfManyMadeCodes(t *testing.T) {
	r := rand.New(rand.NewSource(79))
	var ops [30]int
	laid := 0
	for n := range 40 {
		m := looseProgram(r, n)
		plans := somePlansOf(r, m)
		for _, p := range []impl.Plan{plans[n%len(plans)], boldPlan(r, m)} {
			for _, a := range allAskings(m, p) {
				c, ok := a.make()
				if !ok {
					continue
				}
				checkPromise13(t, a, c)
				checkCount(t, m, c)
				checkCount(t, m, impl.Sweep(m, c))
				for op, count := range countsOf(c) {
					ops[op] += count
				}
				for _, x := range c.Ops {
					if x.F != c.Func {
						laid++
					}
				}
			}
		}
	}
	for op := impl.FConst; op <= impl.FDeep; op++ {
		if ops[op] < 5 {
			t.Errorf("Op %d is made %d times alone: the programs try too little", op, ops[op])
		}
	}
	if laid < 200 {
		t.Errorf("%d ops of functions that were laid in: the programs try too little", laid)
	}
}

// Code that is swept has no more ops of any Op, and none more of any instruction.
func TestCountsOfWhatWasSwept(t *testing.T) {
	r := rand.New(rand.NewSource(80))
	gone := 0
	for n := range 40 {
		m := looseProgram(r, n)
		for _, was := range append(allMade(m, boldPlan(r, m)), crowded(r, randomFast(r, m))) {
			swept := impl.Sweep(m, was)
			ahead, behind := impl.CountOps(m, was), impl.CountOps(m, swept)
			for op := range ahead {
				_, idles := idlersByLaw[op]
				less := ahead[op] - behind[op]
				if less < 0 || less > 0 && !idles {
					t.Fatalf("%v: %v, swept %v:\n%s", m, ahead, behind, fastTextByLaw(was))
				}
				gone += less
			}
			for at, list := range opsByPlace(was) {
				if left := impl.OpsAt(m, swept, at[0], at[1]); len(left) > len(list) {
					t.Fatalf("%v: of %v %v, swept %v:\n%s", m, at, list, left, fastTextByLaw(was))
				}
			}
		}
	}
	if gone < 200 {
		t.Errorf("%d ops went: the code tries too little", gone)
	}
}

// TestCountingOfManyCodesThatNobodyMade asks promise 15 of code that is ok, whoever wrote it, and that of such as is not
// ok nothing is told.
func TestCountingOfManyCodesThatNobodyMade(t *testing.T) {
	r := rand.New(rand.NewSource(81))
	oks := map[bool]int{}
	for range 40 {
		m := randomProgram(r)
		for range 4 {
			was := randomFast(r, m)
			checkCount(t, m, was)
			checkCount(t, m, cluttered(r, was, 20))
			for range 4 {
				c := spoiledFast(r, was)
				checkCount(t, m, c)
				oks[impl.FastOk(m, c)]++
			}
			checkCount(t, randomProgram(r), was)
		}
	}
	if oks[true] < 100 || oks[false] < 200 {
		t.Errorf("spoiled code is ok or not %v times: it tries too little", oks)
	}
	for _, x := range someHandmade() {
		checkCount(t, x.m, x.c)
	}
	for n, how := range someStyles() {
		m := anyProgram(r, n)
		for _, c := range allTranslated(m, how) {
			checkCount(t, m, c)
		}
	}
}

// When the ops are laid in another order the counts are the same, and of each instruction the same Ops are told, in that
// order.
func TestCountsOfOpsInAnotherOrder(t *testing.T) {
	r := rand.New(rand.NewSource(82))
	m := sweepModule()
	for _, n := range []int{2, 30, 250, 251, 700, impl.MaxOps} {
		was := lengthy(n)
		c := cloneFast(was)
		// Those that go on somewhere go on at the last one, which stays.
		for i, x := range c.Ops {
			if x.Op == impl.FJump {
				c.Ops[i].A = n - 1
			}
		}
		r.Shuffle(n-1, func(i int, k int) { c.Ops[i], c.Ops[k] = c.Ops[k], c.Ops[i] })
		mustBeOk(t, "in another order", m, c, true)
		checkCount(t, m, c)
		if got, want := impl.CountOps(m, c), impl.CountOps(m, was); !slices.Equal(got, want) {
			t.Errorf("%d ops in another order: %v, not %v", n, got, want)
		}
	}
}

// toldOf is code, ok or not, and what is to be told of it.
type toldOf struct {
	coded
	counts []int
	at     map[[2]int][]int
}

func toldOfCode(x coded) toldOf {
	out := toldOf{coded: x, at: map[[2]int][]int{}}
	if fastOkByLaw(x.m, x.c) {
		counts := countsOf(x.c)
		out.counts, out.at = counts[:], opsByPlace(x.c)
	}
	return out
}

// toldAgain tells whether both functions tell the same of it once more.
func (x toldOf) toldAgain() bool {
	for at, list := range x.at {
		if !slices.Equal(impl.OpsAt(x.m, x.c, at[0], at[1]), list) {
			return false
		}
	}
	return slices.Equal(impl.CountOps(x.m, x.c), x.counts) && len(impl.OpsAt(x.m, x.c, -1, 0)) == 0
}

// someCountings have few ops and many, and some are refused.
func someCountings() []toldOf {
	m := sweepModule()
	list := []coded{
		{m, lengthy(1)}, {m, lengthy(29)}, {m, lengthy(250)}, {m, lengthy(251)}, {m, lengthy(impl.MaxOps)}, {m, lengthy(impl.MaxOps + 1)},
		{codeModule(), fullCode()}, {m, fullCode()}, {m, impl.Fast{}}, {impl.Module{}, lengthy(29)},
	}
	for op := impl.FConst; op <= impl.FDeep; op += 7 {
		list = append(list, coded{m, repeated(op, impl.MaxOps-1)})
	}
	var out []toldOf
	for _, x := range list {
		out = append(out, toldOfCode(x))
	}
	return out
}

// The same code is told the same again and again, with one processor and with several, whatever order the goroutines
// come in.
func TestCountsAreToldAlikeAgain(t *testing.T) {
	defer runtime.GOMAXPROCS(runtime.GOMAXPROCS(0))
	list := someCountings()
	for _, processors := range []int{1, 2, 3, 8} {
		runtime.GOMAXPROCS(processors)
		for range 20 {
			for _, x := range list {
				if !x.toldAgain() {
					t.Fatalf("with %d processors %+v is told otherwise", processors, x)
				}
			}
			slices.Reverse(list)
		}
	}
}

// Several goroutines ask at once, of the same code and of other code.
func TestCountsAreAskedForAtOnce(t *testing.T) {
	list := someCountings()
	wrong := make([]int, 16)
	var all sync.WaitGroup
	for who := range wrong {
		all.Go(func() {
			for n := range 20 * len(list) {
				if !list[(n+n/len(list)*who)%len(list)].toldAgain() {
					wrong[who]++
				}
			}
		})
	}
	all.Wait()
	if slices.ContainsFunc(wrong, func(n int) bool { return n > 0 }) {
		t.Errorf("told otherwise %v times", wrong)
	}
}

// checkNoneLeft asks that there are no more goroutines than ahead of all calls. One that has said that it is at its end
// may need a moment to be gone.
func checkNoneLeft(t *testing.T, before int) {
	t.Helper()
	for range 500 {
		if runtime.NumGoroutine() <= before {
			return
		}
		time.Sleep(10 * time.Millisecond)
	}
	t.Errorf("%d goroutines, ahead of all calls %d", runtime.NumGoroutine(), before)
}

// What a call began is at its end when it answers: what is then written into the code shows nowhere, and no goroutine is
// left.
func TestCountingIsAtItsEndWhenItAnswers(t *testing.T) {
	before := runtime.NumGoroutine()
	want := impl.CountOps(sweepModule(), lengthy(impl.MaxOps))
	for range 200 {
		c := lengthy(impl.MaxOps)
		got := impl.CountOps(sweepModule(), c)
		for i := range c.Ops {
			c.Ops[i].Op = impl.MaxOps
		}
		if !slices.Equal(got, want) {
			t.Fatalf("%v, not %v", got, want)
		}
	}
	checkNoneLeft(t, before)
}

func FuzzCount(f *testing.F) {
	r := rand.New(rand.NewSource(83))
	for _, m := range append(someModules(), several(), codeModule(), sweepModule(), planModule(), cellModule(), ringModule(), randomProgram(r), tightProgram(r)) {
		f.Add(told(m), int64(1), 0, 2)
	}
	f.Fuzz(func(t *testing.T, b []byte, seed int64, fn int, pc int) {
		m, ok := impl.Load(b)
		if !ok {
			return
		}
		if impl.Verify(m).Code != impl.OK {
			checkCount(t, m, retCode(0, 0, 20, 0))
			return
		}
		r := rand.New(rand.NewSource(seed))
		for _, a := range allAskings(m, boldPlan(r, m)) {
			if c, ok := a.make(); ok {
				checkPromise13(t, a, c)
				checkCount(t, m, c)
			}
		}
		was := randomFast(r, m)
		for _, c := range []impl.Fast{was, crowded(r, was), spoiledFast(r, was)} {
			checkCount(t, m, c)
			var want []int
			if impl.FastOk(m, c) {
				want = opsByPlace(c)[[2]int{fn, pc}]
			}
			if got := impl.OpsAt(m, c, fn, pc); !slices.Equal(got, want) {
				t.Fatalf("%v: OpsAt %d %d: %v, not %v, of\n%s", m, fn, pc, got, want, fastTextByLaw(c))
			}
		}
	})
}
