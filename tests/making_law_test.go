package tests

import (
	"maps"
	"slices"
	"testing"

	"loop.example/g00094/impl"
)

// asking is what Make and NumbersOf are asked.
type asking struct {
	m     impl.Module
	f     int
	entry int
	p     impl.Plan
}

func (a asking) make() (impl.Fast, bool) { return impl.Make(a.m, a.f, a.entry, a.p) }

func (a asking) numbers() [][]int { return impl.NumbersOf(a.m, a.f, a.entry, a.p) }

// fitsByLaw tells whether there is code to be made at all.
func (a asking) fitsByLaw() bool {
	return goodByLaw(a.m) && within(a.f, 0, len(a.m.Funcs)-1) && planOkByLaw(a.m, a.p) &&
		slices.Contains(flowByLaw(a.m, a.f).entries, a.entry)
}

// draftWay is a way on to a block, with what is known of each position.
type draftWay struct {
	to      int
	sources []impl.Src
}

// drafting is code that is being made, by the document's words. What is known stands as an exit would tell it.
type drafting struct {
	asking
	told    flowTold
	heights []int
	base    int
	blocks  []int
	numbers assignment
	c       impl.Fast
	now     impl.Exit
	from    int
	vals    int
	nums    int
	ended   bool
	ways    []draftWay
}

// assignment is a set of positions for each leader.
type assignment map[int][]bool

func draftingOf(a asking) *drafting {
	w := &drafting{asking: a, told: flowByLaw(a.m, a.f), heights: depthsByLaw(a.m, a.f)}
	w.base = a.m.Funcs[a.f].Locals + slices.Max(w.heights)
	w.numbers = w.allNumbers()
	return w
}

// allNumbers are all positions of all leaders, but of the entry none.
func (w *drafting) allNumbers() assignment {
	out := assignment{}
	for _, at := range w.told.leaders {
		out[at] = slices.Repeat([]bool{at != w.entry}, w.m.Funcs[w.f].Locals+w.heights[at])
	}
	return out
}

// isNum is a number by the document's words.
func isNum(s impl.Src) bool { return s.Kind == 3 || s.Kind == 1 && s.V.Kind == 1 }

// comesTo goes on from the entry along all ways that there are with the sets of now. It gives the blocks that are come
// to, in order, and the positions that are numbers on each way to them; all are of a leader that no way leads to.
func (w *drafting) comesTo() ([]int, assignment) {
	blocks, found := []int{w.entry}, w.allNumbers()
	for i := 0; i < len(blocks); i++ {
		w.ways, w.c = nil, impl.Fast{}
		w.block(blocks[i])
		for _, x := range w.ways {
			if !slices.Contains(blocks, x.to) {
				blocks = append(blocks, x.to)
			}
			for p, s := range x.sources {
				found[x.to][p] = found[x.to][p] && isNum(s)
			}
		}
	}
	slices.Sort(blocks[1:])
	return blocks, found
}

// solve lets all ways be gone with the same sets, and then takes the sets that they bring, until these are the same.
func (w *drafting) solve() {
	for range 5000 {
		blocks, found := w.comesTo()
		if maps.EqualFunc(found, w.numbers, func(a []bool, b []bool) bool { return slices.Equal(a, b) }) {
			w.blocks = blocks
			return
		}
		w.numbers = found
	}
	panic("sets that go to and fro")
}

// numbersByLaw is NumbersOf by the document's words.
func (a asking) numbersByLaw() [][]int {
	if !a.fitsByLaw() {
		return nil
	}
	w := draftingOf(a)
	w.solve()
	out := make([][]int, len(w.heights))
	for _, at := range w.blocks {
		for p, is := range w.numbers[at] {
			if is {
				out[at] = append(out[at], p)
			}
		}
	}
	return out
}

// makeByLaw is Make by the document's words.
func (a asking) makeByLaw() (impl.Fast, bool) {
	if !a.fitsByLaw() {
		return impl.Fast{}, false
	}
	w := draftingOf(a)
	w.solve()
	w.c = impl.Fast{Func: a.f, Entry: a.entry}
	vals, nums, firsts := w.base, w.base, map[int]int{}
	for _, at := range w.blocks {
		firsts[at] = len(w.c.Ops)
		w.block(at)
		vals, nums = max(vals, w.vals), max(nums, w.nums)
	}
	for i, x := range w.c.Ops {
		if x.Op == 23 {
			w.c.Ops[i].A = firsts[x.A]
		}
	}
	w.c.Vals, w.c.Nums = vals, nums
	if len(w.c.Ops) > 1500 || len(w.c.Exits) > 1500 || vals > 400 || nums > 400 {
		return impl.Fast{}, false
	}
	return w.c, true
}

func (w *drafting) frame() *impl.ExFrame { return &w.now.Frames[len(w.now.Frames)-1] }

// at is the source that lies so deep on the stack: 1 is the top.
func (w *drafting) at(depth int) impl.Src {
	stack := w.frame().Stack
	return stack[len(stack)-depth]
}

func (w *drafting) everywhere(from impl.Src, to impl.Src) {
	for _, list := range sourceLists(w.now) {
		for i := range list {
			if list[i] == from {
				list[i] = to
			}
		}
	}
}

func (w *drafting) leaving(kind int, guess impl.Spec) int {
	e := cloneExit(w.now)
	e.Kind, e.Spec = kind, guess
	w.c.Exits = append(w.c.Exits, e)
	return len(w.c.Exits) - 1
}

func (w *drafting) trapping() int { return w.leaving(1, impl.Spec{}) }

func (w *drafting) op(x impl.FOp) {
	x.F, x.P = w.frame().Func, w.frame().Pc
	w.c.Ops = append(w.c.Ops, x)
}

func (w *drafting) newVal(x impl.FOp) impl.Src {
	x.D = w.vals
	w.vals++
	w.op(x)
	return valSrc(x.D)
}

func (w *drafting) newNum(x impl.FOp) impl.Src {
	x.D = w.nums
	w.nums++
	w.op(x)
	return numSrc(x.D)
}

// asValue gives the register for values of a source.
func (w *drafting) asValue(s impl.Src) int {
	switch s.Kind {
	case 1:
		return w.newVal(impl.FOp{Op: 1, V: s.V}).N
	case 3:
		return w.newVal(impl.FOp{Op: 6, A: s.N}).N
	case 4:
		return w.making(s.N)
	}
	return s.N
}

// making makes a record and all that it names.
func (w *drafting) making(first int) int {
	list, registers := []int{first}, map[int]int{}
	for i := 0; i < len(list); i++ {
		for _, s := range w.now.Recs[list[i]].Fields {
			if s.Kind == 4 && !slices.Contains(list, s.N) {
				list = append(list, s.N)
			}
		}
	}
	for _, n := range list {
		s := w.newVal(impl.FOp{Op: 21, A: len(w.now.Recs[n].Fields)})
		registers[n] = s.N
		w.everywhere(recSrc(n), s)
	}
	exit := -1
	for _, n := range list {
		for field, s := range w.now.Recs[n].Fields {
			if s == constSrc(impl.Value{}) {
				continue
			}
			if exit == -1 {
				exit = w.trapping()
			}
			b := w.asValue(s)
			w.op(impl.FOp{Op: 19, D: field, A: registers[n], B: b, X: exit})
		}
	}
	return registers[first]
}

// block makes the block that begins at an instruction.
func (w *drafting) block(at int) {
	w.from, w.vals, w.nums, w.ended = len(w.c.Ops), w.base, w.base, false
	f := exFrame(w.f, at, nil, nil)
	for p, is := range w.numbers[at] {
		s := valSrc(p)
		if is {
			s = numSrc(p)
		}
		if p < w.m.Funcs[w.f].Locals {
			f.Locals = append(f.Locals, s)
		} else {
			f.Stack = append(f.Stack, s)
		}
	}
	w.now = impl.Exit{Frames: exFrames(f)}
	if slices.Contains(w.told.heads, at) {
		w.op(impl.FOp{Op: 25, X: w.leaving(4, impl.Spec{})})
	}
	for first := true; !w.ended && len(w.c.Ops)-w.from <= 1500; first = false {
		pc := w.frame().Pc
		if !first && len(w.now.Frames) == 1 && slices.Contains(w.told.leaders, pc) {
			w.on(pc)
			return
		}
		w.instruction(w.m.Funcs[w.frame().Func].Code[pc])
	}
}

// lays is what comes of an instruction that takes so many values, and goes on at the next one.
func (w *drafting) lays(takes int, list ...impl.Src) {
	f := w.frame()
	f.Stack = append(slices.Clone(f.Stack[:len(f.Stack)-takes]), list...)
	f.Pc++
}

func (w *drafting) leaves(kind int, guess impl.Spec) {
	w.op(impl.FOp{Op: 26, X: w.leaving(kind, guess)})
	w.ended = true
}

func (w *drafting) instruction(x impl.Ins) {
	f := w.frame()
	switch x.Op {
	case 1:
		w.lays(0, constSrc(num(x.A)))
	case 2:
		w.lays(0, constSrc(truth(x.A)))
	case 3:
		w.lays(0, constSrc(text(w.m.Texts[x.A])))
	case 4:
		w.lays(0, constSrc(impl.Value{}))
	case 5:
		w.lays(0, constSrc(fun(x.A)))
	case 6:
		w.lays(0, f.Locals[x.A])
	case 7:
		f.Locals[x.A] = w.at(1)
		w.lays(1)
	case 8:
		w.lays(0, w.at(1))
	case 9:
		w.lays(1)
	case 10:
		w.lays(2, w.at(1), w.at(2))
	case 11, 12, 13, 14:
		w.two(x.Op - 11)
	case 15:
		w.same()
	case 16:
		a := w.asValue(w.at(1))
		w.lays(1, w.newVal(impl.FOp{Op: 12, A: a, X: w.trapping()}))
	case 17:
		w.on(x.A)
	case 18, 19:
		w.either(x)
	case 20, 21, 22:
		w.records(x)
	case 23, 24:
		w.calls(x)
	case 25:
		w.returns()
	case 26:
		a := w.asValue(w.at(1))
		w.op(impl.FOp{Op: 28, A: a, X: w.trapping()})
		w.lays(1)
	}
}

func (w *drafting) two(which int) {
	guess := specAtByLaw(w.p, w.frame().Func, w.frame().Pc)
	if guess.Kind != 1 && (!isNum(w.at(1)) || !isNum(w.at(2))) {
		a := w.asValue(w.at(2))
		b := w.asValue(w.at(1))
		w.lays(2, w.newVal(impl.FOp{Op: 7 + which, A: a, B: b, X: w.trapping()}))
		return
	}
	for _, depth := range []int{2, 1} {
		s := w.at(depth)
		if isNum(s) {
			continue
		}
		if s.Kind != 2 {
			w.leaves(2, guess)
			return
		}
		exit := w.leaving(2, guess)
		w.everywhere(s, w.newNum(impl.FOp{Op: 5, A: s.N, X: exit}))
	}
	var bare [2]int
	for i, depth := range []int{2, 1} {
		s := w.at(depth)
		if s.Kind == 1 {
			s = w.newNum(impl.FOp{Op: 3, V: s.V})
		}
		bare[i] = s.N
	}
	if which == 3 {
		w.lays(2, w.newVal(impl.FOp{Op: 16, A: bare[0], B: bare[1]}))
		return
	}
	w.lays(2, w.newNum(impl.FOp{Op: 13 + which, A: bare[0], B: bare[1], X: w.trapping()}))
}

func (w *drafting) same() {
	a, b := w.at(2), w.at(1)
	switch {
	case a.Kind == 4 && b.Kind == 4 && a.N == b.N:
		w.lays(2, constSrc(truth(1)))
	case a.Kind == 4 || b.Kind == 4:
		w.lays(2, constSrc(truth(0)))
	default:
		n := w.asValue(a)
		w.lays(2, w.newVal(impl.FOp{Op: 11, A: n, B: w.asValue(b)}))
	}
}

func (w *drafting) records(x impl.Ins) {
	switch {
	case x.Op == 20 && w.p.Bare && len(w.now.Recs) < 60:
		w.op(impl.FOp{Op: 20, X: w.trapping()})
		w.now.Recs = append(w.now.Recs, exRec(nilSrcs(x.A)...))
		w.lays(0, recSrc(len(w.now.Recs)-1))
	case x.Op == 20:
		w.lays(0, w.newVal(impl.FOp{Op: 17, A: x.A, X: w.trapping()}))
	case w.at(x.Op-20).Kind != 4 && x.Op == 21:
		a := w.asValue(w.at(1))
		w.lays(1, w.newVal(impl.FOp{Op: 18, A: a, B: x.A, X: w.trapping()}))
	case w.at(x.Op-20).Kind != 4:
		a := w.asValue(w.at(2))
		b := w.asValue(w.at(1))
		w.op(impl.FOp{Op: 19, D: x.A, A: a, B: b, X: w.trapping()})
		w.lays(2)
	case x.A >= len(w.now.Recs[w.at(x.Op-20).N].Fields):
		w.leaves(1, impl.Spec{})
	case x.Op == 21:
		w.lays(1, w.now.Recs[w.at(1).N].Fields[x.A])
	default:
		w.now.Recs[w.at(2).N].Fields[x.A] = w.at(1)
		w.lays(2)
	}
}

func (w *drafting) calls(x impl.Ins) {
	g, takes := x.A, 0
	if x.Op == 23 {
		s, guess := w.at(x.A+1), specAtByLaw(w.p, w.frame().Func, w.frame().Pc)
		g, takes = -1, 1
		switch {
		case s.Kind == 2 && guess.Kind == 2:
			g = guess.Target
			w.op(impl.FOp{Op: 22, A: s.N, B: g, X: w.leaving(2, guess)})
			w.everywhere(s, constSrc(fun(g)))
		case s.Kind == 1 && s.V.Kind == 5 && w.m.Funcs[s.V.N].Params == x.A:
			g = s.V.N
		}
	}
	if g == -1 || !flowByLaw(w.m, g).straight || len(w.now.Frames) > w.p.Lay {
		w.leaves(3, impl.Spec{})
		return
	}
	w.op(impl.FOp{Op: 29, A: len(w.now.Frames), X: w.trapping()})
	params := w.m.Funcs[g].Params
	locals := slices.Clone(w.frame().Stack[len(w.frame().Stack)-params:])
	w.lays(takes + params)
	w.now.Frames = append(w.now.Frames, exFrame(g, 0, append(locals, nilSrcs(w.m.Funcs[g].Locals-params)...), nil))
}

func (w *drafting) returns() {
	s := w.at(1)
	if len(w.now.Frames) > 1 {
		w.now.Frames = w.now.Frames[:len(w.now.Frames)-1]
		w.frame().Stack = append(slices.Clone(w.frame().Stack), s)
		return
	}
	a := w.asValue(s)
	w.op(impl.FOp{Op: 27, A: a})
	w.ended = true
}

func (w *drafting) either(x impl.Ins) {
	a := w.asValue(w.at(1))
	branch := len(w.c.Ops)
	w.op(impl.FOp{Op: 24, A: a, X: w.trapping()})
	w.lays(1)
	to := map[bool]int{x.Op == 18: x.A, x.Op != 18: w.frame().Pc}
	ahead := cloneExit(w.now)
	w.on(to[false])
	w.now = ahead
	w.c.Ops[branch].B = len(w.c.Ops)
	w.on(to[true])
}

// on is a way on to the block at an instruction.
func (w *drafting) on(to int) {
	w.ended = true
	f := w.frame()
	f.Pc = to
	locals := len(f.Locals)
	position := func(p int) impl.Src {
		if p < locals {
			return f.Locals[p]
		}
		return f.Stack[p-locals]
	}
	for p := range w.numbers[to] {
		if position(p).Kind == 4 {
			w.asValue(position(p))
		}
	}
	list := slices.Concat(f.Locals, f.Stack)
	w.ways = append(w.ways, draftWay{to, slices.Clone(list)})
	for p, is := range w.numbers[to] {
		s := list[p]
		if s.N >= w.base || s.N == p {
			continue
		}
		if s.Kind == 2 && !is {
			list[p] = w.newVal(impl.FOp{Op: 2, A: s.N})
		}
		if s.Kind == 3 && is {
			list[p] = w.newNum(impl.FOp{Op: 4, A: s.N})
		}
	}
	for p, is := range w.numbers[to] {
		if !is && list[p] != valSrc(p) {
			s := list[p]
			w.op(impl.FOp{Op: map[int]int{2: 2, 3: 6, 1: 1}[s.Kind], D: p, A: s.N, V: s.V})
		}
	}
	for p, is := range w.numbers[to] {
		if is && list[p] != numSrc(p) {
			s := list[p]
			w.op(impl.FOp{Op: map[int]int{3: 4, 1: 3}[s.Kind], D: p, A: s.N, V: s.V})
		}
	}
	w.op(impl.FOp{Op: 23, A: to})
}

// checkPromise10 asks of code that was made what holds of all such code, without the law.
func checkPromise10(t *testing.T, a asking, c impl.Fast) {
	t.Helper()
	if !checkCode(t, a.m, c) || c.Func != a.f || c.Entry != a.entry {
		t.Fatalf("%+v makes what is not ok, or other code: %+v", a, c)
	}
	for _, s := range impl.SpecsOf(a.m, c) {
		if !slices.Contains(a.p.Specs, s) {
			t.Fatalf("%+v makes code that rests on %v:\n%s", a, s, impl.FastText(a.m, c))
		}
	}
	for _, f := range impl.LaidOf(a.m, c) {
		if !impl.Straight(a.m, f) {
			t.Fatalf("%+v lays function %d in:\n%s", a, f, impl.FastText(a.m, c))
		}
	}
	for _, e := range c.Exits {
		if len(e.Frames) > a.p.Lay+1 || len(e.Recs) > 0 && !a.p.Bare {
			t.Fatalf("%+v has an exit with too many frames or records: %+v", a, e)
		}
	}
	checkBlocks(t, a, c)
}

// checkBlocks asks of code that was made that each of its blocks, but the first, is gone to by an FJump, that all its
// ops are come to from the first one, and that NumbersOf has nothing where no block begins.
func checkBlocks(t *testing.T, a asking, c impl.Fast) {
	t.Helper()
	starts := startsIn(c)
	for _, op := range blocksIn(c)[1:] {
		if _, ok := starts[op]; !ok {
			t.Fatalf("%+v: no op goes to the block at op %d:\n%s", a, op, impl.FastText(a.m, c))
		}
	}
	for op, comes := range opsComeTo(c) {
		if !comes {
			t.Fatalf("%+v: nothing comes to op %d:\n%s", a, op, impl.FastText(a.m, c))
		}
	}
	for at, set := range a.numbers() {
		begins := slices.ContainsFunc(slices.Collect(maps.Values(starts)), func(start int) bool { return start == at })
		if len(set) > 0 && (!begins || at == a.entry) {
			t.Fatalf("%+v: NumbersOf %v at %d, where no block begins:\n%s", a, set, at, impl.FastText(a.m, c))
		}
	}
}

// blocksIn are the ops at which blocks begin: the first one, and what is behind a block's last one; behind the first
// way on of an FIf there is the second one.
func blocksIn(c impl.Fast) []int {
	out, second := []int{0}, -1
	for op, x := range c.Ops {
		if x.Op == impl.FIf {
			second = x.B
		}
		ends := x.Op == impl.FJump || x.Op == impl.FExit || x.Op == impl.FRet
		if ends && op+1 != second && op+1 < len(c.Ops) {
			out = append(out, op+1)
		}
	}
	return out
}

// startsIn are the ops that an FJump goes to, each with the instruction of the block that begins there: an FJump is the
// last op of a way on, on which that is the last frame's.
func startsIn(c impl.Fast) map[int]int {
	out := map[int]int{}
	for _, x := range c.Ops {
		if x.Op == impl.FJump {
			out[x.A] = x.P
		}
	}
	return out
}

// opsComeTo tells of each op whether one may come to it from the first one.
func opsComeTo(c impl.Fast) []bool {
	out := make([]bool, len(c.Ops))
	for work := []int{0}; len(work) > 0; {
		op := work[0]
		work = work[1:]
		if out[op] {
			continue
		}
		out[op] = true
		switch x := c.Ops[op]; x.Op {
		case impl.FJump:
			work = append(work, x.A)
		case impl.FIf:
			work = append(work, op+1, x.B)
		case impl.FExit, impl.FRet:
		default:
			work = append(work, op+1)
		}
	}
	return out
}

// checkMake holds Make and NumbersOf of anything against the law, asks promise 10 of the code, and gives it.
func checkMake(t *testing.T, a asking) (impl.Fast, bool) {
	t.Helper()
	c, ok := a.make()
	want, wanted := a.makeByLaw()
	if ok != wanted || !sameFast(c, want) {
		t.Fatalf("Make of %+v: %v\n%s, not %v\n%s", a, ok, fastTextByLaw(c), wanted, fastTextByLaw(want))
	}
	checkNumbers(t, a)
	if ok {
		checkPromise10(t, a, c)
	} else if !sameFast(c, impl.Fast{}) {
		t.Fatalf("Make of %+v is false, with %+v", a, c)
	}
	return c, ok
}

// checkNumbers holds NumbersOf of anything against the law, and gives it.
func checkNumbers(t *testing.T, a asking) [][]int {
	t.Helper()
	got, want := a.numbers(), a.numbersByLaw()
	if !slices.EqualFunc(got, want, func(x []int, y []int) bool { return slices.Equal(x, y) }) {
		t.Fatalf("NumbersOf of %+v: %v, not %v", a, got, want)
	}
	return got
}
