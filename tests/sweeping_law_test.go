package tests

import (
	"slices"
	"testing"

	"loop.example/g00094/impl"
)

// takesByLaw are the places of each Op from which values (A, B) or numbers (a, b) are taken, as the document lists them.
var takesByLaw = [30]string{
	2: "A", 4: "a", 5: "A", 6: "a", 12: "A", 18: "A", 22: "A", 24: "A", 27: "A", 28: "A",
	7: "AB", 8: "AB", 9: "AB", 10: "AB", 11: "AB", 13: "ab", 14: "ab", 15: "ab", 16: "ab", 19: "AB",
}

// takenByLaw are the registers that an op takes from.
func takenByLaw(x impl.FOp) []impl.Src {
	var out []impl.Src
	for _, place := range takesByLaw[x.Op] {
		out = append(out, map[rune]impl.Src{'A': valSrc(x.A), 'B': valSrc(x.B), 'a': numSrc(x.A), 'b': numSrc(x.B)}[place])
	}
	return out
}

// idlersByLaw are the Ops that may be idle, and what their D is.
var idlersByLaw = map[int]func(n int) impl.Src{1: valSrc, 2: valSrc, 3: numSrc, 4: numSrc, 6: valSrc, 11: valSrc, 16: valSrc}

// leavesByLaw are the exits that are X of an op.
func leavesByLaw(c impl.Fast) map[int]bool {
	out := map[int]bool{}
	for _, x := range c.Ops {
		if namedAs(x.Op, "X") == "exit" {
			out[x.X] = true
		}
	}
	return out
}

// idleByLaw is IdleOps of code that is ok: it lists who takes from each register, and asks whether that is the op alone.
func idleByLaw(c impl.Fast) []int {
	takers := map[impl.Src][]int{}
	for at, x := range c.Ops {
		for _, s := range takenByLaw(x) {
			takers[s] = append(takers[s], at)
		}
	}
	const anExit = -1
	for x := range leavesByLaw(c) {
		for _, s := range slices.Concat(sourceLists(c.Exits[x])...) {
			takers[s] = append(takers[s], anExit)
		}
	}
	var out []int
	for at, x := range c.Ops {
		register, may := idlersByLaw[x.Op]
		if may && !slices.ContainsFunc(takers[register(x.D)], func(taker int) bool { return taker != at }) {
			out = append(out, at)
		}
	}
	return out
}

// numberAmong is the new number of what had the number old, when these old ones are left: that of the next one, where it
// is none of them.
func numberAmong(left []int, old int) int {
	return slices.IndexFunc(left, func(n int) bool { return n >= old })
}

// onlyOps is code with those ops alone that have these numbers.
func onlyOps(c impl.Fast, left []int) impl.Fast {
	out := cloneFast(c)
	out.Ops = nil
	for _, at := range left {
		x := c.Ops[at]
		switch x.Op {
		case 23:
			x.A = numberAmong(left, x.A)
		case 24:
			x.B = numberAmong(left, x.B)
		}
		out.Ops = append(out.Ops, x)
	}
	return out
}

// onlyExits is code with those exits alone that have these numbers.
func onlyExits(c impl.Fast, left []int) impl.Fast {
	out := cloneFast(c)
	out.Exits = nil
	for _, at := range left {
		out.Exits = append(out.Exits, cloneExit(c.Exits[at]))
	}
	for i, x := range out.Ops {
		if namedAs(x.Op, "X") == "exit" {
			out.Ops[i].X = slices.Index(left, x.X)
		}
	}
	return out
}

// sweptCode is what Sweep of code comes to, and which ops and exits of the code are left.
type sweptCode struct {
	c     impl.Fast
	ops   []int
	exits []int
}

// numbersBelow are 0, 1 and so on, n of them.
func numbersBelow(n int) []int { return numbersFrom(0, n-1) }

// sweepByLaw is Sweep of code that is ok, round by round.
func sweepByLaw(c impl.Fast) sweptCode {
	out := sweptCode{c: c, ops: numbersBelow(len(c.Ops))}
	for idle := idleByLaw(c); len(idle) > 0; idle = idleByLaw(out.c) {
		left := slices.DeleteFunc(numbersBelow(len(out.c.Ops)), func(at int) bool { return slices.Contains(idle, at) })
		out.c = onlyOps(out.c, left)
		for i, at := range left {
			left[i] = out.ops[at]
		}
		out.ops = left
	}
	used := leavesByLaw(out.c)
	out.exits = slices.DeleteFunc(numbersBelow(len(c.Exits)), func(at int) bool { return !used[at] })
	out.c = onlyExits(out.c, out.exits)
	return out
}

// checkSweep holds IdleOps and Sweep of anything against the law, and asks of what was swept what promise 14 says of all
// such code, without the law. It gives what was swept.
func checkSweep(t *testing.T, m impl.Module, c impl.Fast) sweptCode {
	t.Helper()
	idle, got := impl.IdleOps(m, c), impl.Sweep(m, c)
	if !fastOkByLaw(m, c) {
		if len(idle) != 0 || !sameFast(got, impl.Fast{}) {
			t.Fatalf("code that is not ok has idle ops %v, and is swept to %+v:\n%+v\nof %v", idle, got, c, m)
		}
		return sweptCode{}
	}
	if want := idleByLaw(c); !slices.Equal(idle, want) {
		t.Fatalf("idle ops %v, not %v, of\n%s", idle, want, fastTextByLaw(c))
	}
	want := sweepByLaw(c)
	if !sameFast(got, want.c) {
		t.Fatalf("swept to\n%s, not to\n%s: of\n%s", fastTextByLaw(got), fastTextByLaw(want.c), fastTextByLaw(c))
	}
	if !fastOkByLaw(m, got) || !impl.FastOk(m, got) {
		t.Fatalf("swept to what is not ok:\n%sof\n%s", fastTextByLaw(got), fastTextByLaw(c))
	}
	if left := impl.IdleOps(m, got); len(left) != 0 || !sameFast(impl.Sweep(m, got), got) {
		t.Fatalf("swept, there are idle ops left, %v, or it can be swept again:\n%sof\n%s", left, fastTextByLaw(got), fastTextByLaw(c))
	}
	if len(got.Ops) > len(c.Ops)-len(idle) || len(got.Exits) > len(c.Exits) || len(idle) == 0 && len(got.Ops) != len(c.Ops) {
		t.Fatalf("%d ops and %d exits are left of\n%s", len(got.Ops), len(got.Exits), fastTextByLaw(c))
	}
	if got.Func != c.Func || got.Entry != c.Entry || got.Vals != c.Vals || got.Nums != c.Nums {
		t.Fatalf("swept to other code:\n%sof\n%s", fastTextByLaw(got), fastTextByLaw(c))
	}
	checkTellsNoMore(t, m, c, got)
	return want
}

// checkTellsNoMore asks that swept code rests on no other guess and lays no other function in.
func checkTellsNoMore(t *testing.T, m impl.Module, c impl.Fast, got impl.Fast) {
	t.Helper()
	guesses, laid := impl.SpecsOf(m, c), impl.LaidOf(m, c)
	if slices.ContainsFunc(impl.SpecsOf(m, got), func(s impl.Spec) bool { return !slices.Contains(guesses, s) }) {
		t.Fatalf("swept, it rests on other guesses:\n%sof\n%s", fastTextByLaw(got), fastTextByLaw(c))
	}
	if slices.ContainsFunc(impl.LaidOf(m, got), func(f int) bool { return !slices.Contains(laid, f) }) {
		t.Fatalf("swept, other functions are laid in:\n%sof\n%s", fastTextByLaw(got), fastTextByLaw(c))
	}
}

// opsDone are the numbers of the ops that code does, by the document's words, the one by which it leaves included. The
// code is entered.
func opsDone(e entering) []int {
	w := racingOf(e)
	var out []int
	for {
		out = append(out, w.at)
		x := w.c.Ops[w.at]
		w.at++
		w.steps++
		if w.do(x) != goesOn {
			return out
		}
	}
}

// pauses tells whether the last of the ops that were done asks for fuel: nothing else leaves by it.
func (e entering) pauses(done []int) bool { return e.c.Ops[done[len(done)-1]].Op == impl.FSafe }

// checkSweptRun runs code, and what it was swept to, from the same state. Where the code does not pause, both come to
// the same, the latter in just as many steps fewer as ops are gone on the way; where it pauses, the latter does with the
// fuel that it has used there by then. It tells how the code left.
func checkSweptRun(t *testing.T, e entering, swept sweptCode) impl.Left {
	t.Helper()
	got, told := e.run()
	done := opsDone(e)
	steps := 0
	for _, at := range done {
		if slices.Contains(swept.ops, at) {
			steps++
		}
	}
	after := entering{e.m, swept.c, e.vm, e.fuel}
	if e.pauses(done) {
		after.fuel = steps - 1
		checkGoesFurther(t, e, swept)
	}
	want, wantTold := got, told
	if told != (impl.Left{}) {
		want.Steps, wantTold.Steps = min(e.vm.Steps+steps, impl.MaxSteps), steps
	}
	if told.Kind != 0 && told.Kind != impl.LfReturn {
		wantTold.Exit = slices.Index(swept.exits, told.Exit)
	}
	if vm, toldAfter := after.run(); !sameVm(vm, want) || toldAfter != wantTold || toldAfter.Steps > told.Steps {
		t.Fatalf("%v: %+v\nand fuel %d come by\n%sto %+v with %+v,\nand, with %d, by\n%sto %+v with %+v", e.m, e.vm, e.fuel, fastTextByLaw(e.c), got, told, after.fuel, fastTextByLaw(swept.c), vm, toldAfter)
	}
	return told
}

// checkGoesFurther asks, of code that pauses, that what it was swept to comes with the same fuel to something that the
// code comes to with no less fuel: the next pause is asked for each time.
func checkGoesFurther(t *testing.T, e entering, swept sweptCode) {
	t.Helper()
	want, wantTold := entering{e.m, swept.c, e.vm, e.fuel}.run()
	more := e
	for {
		got, told := more.run()
		done := opsDone(more)
		exit := told.Exit
		if told.Kind != 0 && told.Kind != impl.LfReturn {
			exit = slices.Index(swept.exits, told.Exit)
		}
		if got.Steps = want.Steps; sameVm(got, want) && told.Kind == wantTold.Kind && exit == wantTold.Exit && told.Spec == wantTold.Spec {
			return
		}
		if more.fuel = len(done); !e.pauses(done) || more.fuel > impl.MaxSteps {
			t.Fatalf("%v: %+v\nand fuel %d come by\n%sto %+v with %+v,\nto which they never come by\n%s", e.m, e.vm, e.fuel, fastTextByLaw(swept.c), want, wantTold, fastTextByLaw(e.c))
		}
	}
}
