package tests

import (
	"math"
	"math/rand"
	"slices"
	"testing"

	"loop.example/g00094/impl"
)

// coder writes random code of a good module that is ok, whether anybody would make it or not.
type coder struct {
	r       *rand.Rand
	m       impl.Module
	c       impl.Fast
	guesses []impl.Spec
	ends    []impl.Frame
	waiting []impl.Frame
}

// guessesOf are all guesses at instructions of a module.
func guessesOf(m impl.Module) []impl.Spec {
	var out []impl.Spec
	for _, s := range watchable(m) {
		for target := range m.Funcs {
			s.Target = target
			if guess := specByLaw(m, s); specOkByLaw(m, guess) && !slices.Contains(out, guess) {
				out = append(out, guess)
			}
		}
	}
	return out
}

func (w *coder) source(recs int) impl.Src {
	switch w.r.Intn(5) {
	case 0:
		if w.c.Nums > 0 {
			return numSrc(edge(w.r, w.c.Nums-1))
		}
	case 1:
		if recs > 0 {
			return recSrc(edge(w.r, recs-1))
		}
	case 2:
		return constSrc(randomOk(w.r, w.m, w.r.Intn(6), 0))
	}
	if w.c.Vals > 0 {
		return valSrc(edge(w.r, w.c.Vals-1))
	}
	return constSrc(impl.Value{})
}

func (w *coder) sources(n int, recs int) []impl.Src {
	out := make([]impl.Src, n)
	for i := range out {
		out[i] = w.source(recs)
	}
	return out
}

// of gives one of these frames that is of function f, or of any if f is -1.
func (w *coder) of(list []impl.Frame, f int) (impl.Frame, bool) {
	fits := slices.DeleteFunc(slices.Clone(list), func(x impl.Frame) bool { return f != -1 && x.Func != f })
	if len(fits) == 0 {
		return impl.Frame{}, false
	}
	return fits[w.r.Intn(len(fits))], true
}

// frames are such as an exit tells, without sources.
func (w *coder) frames() []impl.Frame {
	var out []impl.Frame
	first := w.c.Func
	for range w.r.Intn(4) {
		if f, ok := w.of(w.waiting, first); ok {
			out = append(out, f)
			first = -1
		}
	}
	last, _ := w.of(w.ends, first)
	return append(out, last)
}

func (w *coder) exit() impl.Exit {
	e := impl.Exit{Kind: 1 + w.r.Intn(4), Recs: make([]impl.ExRec, w.r.Intn(2)*edge(w.r, impl.MaxRecs))}
	if e.Kind == impl.ExGuard && len(w.guesses) == 0 {
		e.Kind = impl.ExTrap
	}
	if e.Kind == impl.ExGuard {
		e.Spec = w.guesses[w.r.Intn(len(w.guesses))]
	}
	for _, f := range w.frames() {
		e.Frames = append(e.Frames, exFrame(f.Func, f.Pc, w.sources(len(f.Locals), len(e.Recs)), w.sources(len(f.Stack), len(e.Recs))))
	}
	for i := range e.Recs {
		e.Recs[i] = exRec(w.sources(w.r.Intn(impl.MaxFields+1), len(e.Recs))...)
	}
	return e
}

// fill gives the op at this place fields that fit its Op; it is false where there are none.
func (w *coder) fill(at int) bool {
	x := impl.FOp{Op: w.c.Ops[at].Op, F: w.r.Intn(len(w.m.Funcs))}
	x.P = w.r.Intn(len(w.m.Funcs[x.F].Code))
	for _, name := range fieldNames {
		what, n := namedAs(x.Op, name), 0
		var fits []int
		for ; n < max(w.c.Vals, w.c.Nums, len(w.c.Ops), len(w.c.Exits), 12); n++ {
			if numberByLaw(w.m, w.c, at, what, n) {
				fits = append(fits, n)
			}
		}
		if len(fits) == 0 {
			return false
		}
		*fieldOf(&x, name) = fits[w.r.Intn(len(fits))]
	}
	switch namedAs(x.Op, "V") {
	case "any":
		x.V = randomOk(w.r, w.m, w.r.Intn(6), 0)
	case "int":
		x.V = randomOk(w.r, w.m, impl.VInt, 0)
	}
	w.c.Ops[at] = x
	return true
}

// ops are drawn first, since where jumps may lead to hangs on them; those for which there is nothing become jumps.
func (w *coder) ops() {
	w.c.Ops = make([]impl.FOp, 1+w.r.Intn(30))
	last := len(w.c.Ops) - 1
	for at := range w.c.Ops {
		w.c.Ops[at].Op = 1 + w.r.Intn(29)
	}
	w.c.Ops[last].Op = []int{impl.FJump, impl.FExit, impl.FRet}[w.r.Intn(3)]
	for at := range w.c.Ops {
		for !w.fill(at) {
			w.c.Ops[at].Op = impl.FJump
			if at == last {
				w.c.Ops[at].Op = []int{impl.FExit, impl.FRet}[w.r.Intn(2)]
			}
		}
	}
}

// randomFast is code of a good module that is ok.
func randomFast(r *rand.Rand, m impl.Module) impl.Fast {
	w := coder{r: r, m: m, guesses: guessesOf(m), ends: placesOf(m, true), waiting: placesOf(m, false)}
	w.c.Func = r.Intn(len(m.Funcs))
	entries := flowByLaw(m, w.c.Func).entries
	w.c.Entry = entries[r.Intn(len(entries))]
	least := m.Funcs[w.c.Func].Locals + depthsByLaw(m, w.c.Func)[w.c.Entry]
	w.c.Vals, w.c.Nums = min(max(least+edge(r, 20), 1), impl.MaxRegs), edge(r, 20)
	for range r.Intn(8) {
		w.c.Exits = append(w.c.Exits, w.exit())
	}
	w.ops()
	return w.c
}

// numbersOfFast are all numbers of code, wherever they stand.
func numbersOfFast(c *impl.Fast) []*int {
	out := []*int{&c.Func, &c.Entry, &c.Vals, &c.Nums}
	for i := range c.Ops {
		x := &c.Ops[i]
		out = append(out, &x.Op, &x.D, &x.A, &x.B, &x.X, &x.F, &x.P, &x.V.Kind, &x.V.N)
	}
	for i := range c.Exits {
		e := &c.Exits[i]
		out = append(out, &e.Kind, &e.Spec.Func, &e.Spec.Pc, &e.Spec.Kind, &e.Spec.Target)
		for k := range e.Frames {
			out = append(out, &e.Frames[k].Func, &e.Frames[k].Pc)
		}
		for _, list := range sourceLists(*e) {
			for k := range list {
				out = append(out, &list[k].Kind, &list[k].N, &list[k].V.Kind, &list[k].V.N)
			}
		}
	}
	return out
}

// spoiledFast is code with one thing changed somewhere; it is ok still now and then.
func spoiledFast(r *rand.Rand, was impl.Fast) impl.Fast {
	c := cloneFast(was)
	if r.Intn(3) == 0 {
		spoilList(r, &c)
		return c
	}
	list := numbersOfFast(&c)
	if r.Intn(2) == 0 {
		// Half of them in the ops and ahead of these, as exits have far more numbers.
		list = list[:min(4+9*len(c.Ops), len(list))]
	}
	*list[r.Intn(len(list))] += []int{1, -1, 2, -2, 5, 400, math.MaxInt, math.MinInt}[r.Intn(8)]
	return c
}

// spoilList makes a list of code longer or shorter.
func spoilList(r *rand.Rand, c *impl.Fast) {
	switch r.Intn(3) {
	case 0:
		c.Ops = append(c.Ops, c.Ops[r.Intn(len(c.Ops))])
		if r.Intn(2) == 0 {
			c.Ops = slices.Delete(c.Ops, 0, 1+r.Intn(2))
		}
		return
	case 1:
		c.Exits = c.Exits[:r.Intn(len(c.Exits)+1)]
		return
	}
	if len(c.Exits) == 0 {
		return
	}
	e := &c.Exits[r.Intn(len(c.Exits))]
	f := &e.Frames[r.Intn(len(e.Frames))]
	switch r.Intn(5) {
	case 0:
		f.Locals = append(f.Locals, valSrc(0))
	case 1:
		f.Stack = append(f.Stack, valSrc(0))[1:]
	case 2:
		f.Stack = append(f.Stack, valSrc(0))
	case 3:
		e.Recs = e.Recs[:r.Intn(len(e.Recs)+1)]
	case 4:
		e.Frames = append(e.Frames, e.Frames[r.Intn(len(e.Frames))])
	}
}

// TestManyCodes holds code that nobody made, and such as is not ok, against the law, and asks promise 32 of it.
func TestManyCodes(t *testing.T) {
	r := rand.New(rand.NewSource(38))
	ops, kinds, ups := map[int]int{}, map[int]int{}, map[int]int{}
	oks, guesses, laid := map[bool]int{}, map[int]int{}, map[int]int{}
	for range 150 {
		m := randomProgram(r)
		for range 10 {
			c := randomFast(r, m)
			if !checkCode(t, m, c) {
				t.Fatalf("%v: %+v is refused", m, c)
			}
			for _, x := range c.Ops {
				ops[x.Op]++
			}
			for _, e := range c.Exits {
				kinds[e.Kind]++
				ups[len(e.Frames)]++
			}
			guesses[min(len(impl.SpecsOf(m, c)), 3)]++
			laid[min(len(impl.LaidOf(m, c)), 3)]++
			for range 5 {
				oks[checkCode(t, m, spoiledFast(r, c))]++
			}
			checkCode(t, randomProgram(r), c)
		}
	}
	for op := impl.FConst; op <= impl.FDeep; op++ {
		if ops[op] < 100 {
			t.Errorf("Op %d came %d times alone: the code tries too little", op, ops[op])
		}
	}
	for n := 1; n <= 4; n++ {
		if kinds[n] < 200 || ups[n] < 200 {
			t.Errorf("%d exits of Kind %d, %d with as many frames: the code tries too little", kinds[n], n, ups[n])
		}
	}
	for n := range 4 {
		if guesses[n] < 50 || laid[n] < 20 {
			t.Errorf("guesses %v, functions laid in %v: the code tries too little", guesses, laid)
		}
	}
	if oks[true] < 500 || oks[false] < 2000 {
		t.Errorf("spoiled code is ok or not %v times: it tries too little", oks)
	}
}

func FuzzCode(f *testing.F) {
	r := rand.New(rand.NewSource(39))
	for _, m := range append(someModules(), several(), codeModule(), planModule(), stateModule(), randomProgram(r), randomProgram(r)) {
		f.Add(told(m), int64(1))
	}
	f.Fuzz(func(t *testing.T, b []byte, seed int64) {
		m, ok := impl.Load(b)
		if !ok {
			return
		}
		if impl.Verify(m).Code != impl.OK {
			checkCode(t, m, retCode(0, 0, 20, 0))
			return
		}
		r := rand.New(rand.NewSource(seed))
		for range 5 {
			c := randomFast(r, m)
			checkCode(t, m, c)
			checkCode(t, m, spoiledFast(r, c))
		}
	})
}
