package tests

import (
	"slices"
	"testing"

	"loop.example/g00094/impl"
)

// rewriting is one of the ways to rewrite a module, and what the document's words make of a function that way.
type rewriting struct {
	name string
	do   func(m impl.Module) impl.Module
	law  func(m impl.Module, f int) leftCode
	// spares tells whether an instruction that is left is done, where the rewritten module does something, and nothing
	// where that does nothing.
	spares func(x impl.Ins) bool
}

// leftCode is what a function's code becomes, and which of its instructions that are, by their old numbers.
type leftCode struct {
	code []impl.Ins
	left []int
}

func rewritings() []rewriting {
	none := func(impl.Ins) bool { return false }
	return []rewriting{
		{"Cut", impl.Cut, cutByLaw, none},
		{"Thread", impl.Thread, threadByLaw, func(x impl.Ins) bool { return x.Op == 17 }},
		{"Fold", impl.Fold, foldByLaw, none},
	}
}

func rewritingNamed(name string) rewriting {
	list := rewritings()
	return list[slices.IndexFunc(list, func(x rewriting) bool { return x.name == name })]
}

// onlyCode is code of which those instructions alone are left that have these numbers.
func onlyCode(code []impl.Ins, left []int) leftCode {
	out := leftCode{left: left}
	for _, at := range left {
		x := code[at]
		if within(x.Op, 17, 19) {
			x.A = numberAmong(left, x.A)
		}
		out.code = append(out.code, x)
	}
	return out
}

func cutByLaw(m impl.Module, f int) leftCode {
	var left []int
	for at, depth := range depthsByLaw(m, f) {
		if depth != -1 {
			left = append(left, at)
		}
	}
	return onlyCode(m.Funcs[f].Code, left)
}

// threadByLaw changes the code where it stands, so that each jump is read as it is by then, also the one at work.
func threadByLaw(m impl.Module, f int) leftCode {
	code := slices.Clone(m.Funcs[f].Code)
	for at := range code {
		for range 120 {
			if within(code[at].Op, 17, 19) && code[code[at].A].Op == 17 {
				code[at].A = code[code[at].A].A
			}
		}
	}
	return leftCode{code, numbersBelow(len(code))}
}

// constant is a number that instructions first .. last lay, whatever there is.
type constant struct {
	first int
	last  int
	n     int
}

// foldByLaw goes through a function once, with the constants that stand one behind the other ahead of where it is. What
// is worked out takes the place of the last two, so that nothing need be gone through again.
func foldByLaw(m impl.Module, f int) leftCode {
	code := slices.Clone(m.Funcs[f].Code)
	depths, leaders := depthsByLaw(m, f), flowByLaw(m, f).leaders
	gone := map[int]bool{}
	var row []constant
	for at, x := range code {
		n := len(row)
		switch {
		case depths[at] == -1:
			row = nil
		case x.Op == 1:
			row = append(row, constant{at, at, x.A})
		case n < 2 || !within(x.Op, 11, 13) || slices.Contains(leaders, at) || slices.Contains(leaders, row[n-1].first):
			row = nil
		default:
			a, b := row[n-2], row[n-1]
			sum := operations()[x.Op-11].law(num(a.n), num(b.n))
			if sum.trap != 0 {
				row = nil
				continue
			}
			row = append(row[:n-2], constant{a.first, at, sum.v.N})
			code[a.first].A = sum.v.N
			for i := a.first + 1; i <= at; i++ {
				gone[i] = true
			}
		}
	}
	left := slices.DeleteFunc(numbersBelow(len(code)), func(at int) bool { return gone[at] })
	return onlyCode(code, left)
}

// twins are a good module and what it was rewritten to.
type twins struct {
	rewriting
	m    impl.Module
	got  impl.Module
	left [][]int
}

// checkRewriting holds what a module, good or not, is rewritten to against the law, and asks the first half of promise
// 16: that it is good.
func checkRewriting(t *testing.T, m impl.Module, how rewriting) twins {
	t.Helper()
	x := twins{rewriting: how, m: m, got: how.do(m)}
	if !goodByLaw(m) {
		if !sameModule(x.got, impl.Module{}) {
			t.Fatalf("%s of %v, which is not good: %v", how.name, m, x.got)
		}
		return x
	}
	want := cloneModule(m)
	for f := range m.Funcs {
		law := how.law(m, f)
		want.Funcs[f].Code = law.code
		x.left = append(x.left, law.left)
	}
	if !sameModule(x.got, want) {
		t.Fatalf("%s of\n%s:\n%s, not\n%s", how.name, shown(m), shown(x.got), shown(want))
	}
	if found := impl.Verify(x.got); found != (impl.Trouble{}) {
		t.Fatalf("%s of\n%s:\n%s is not good: %v", how.name, shown(m), shown(x.got), found)
	}
	return x
}

// checkRewritings holds all three against it.
func checkRewritings(t *testing.T, m impl.Module) []twins {
	t.Helper()
	var out []twins
	for _, how := range rewritings() {
		out = append(out, checkRewriting(t, m, how))
	}
	return out
}

// gone is how many instructions are.
func (x twins) gone() int {
	n := 0
	for f, fn := range x.m.Funcs {
		n += len(fn.Code) - len(x.left[f])
	}
	return n
}

// led is how many jumps lead elsewhere than their new number says.
func (x twins) led() int {
	n := 0
	for f, fn := range x.got.Funcs {
		for i, ins := range fn.Code {
			if was := x.m.Funcs[f].Code[x.left[f][i]]; within(ins.Op, 17, 19) && ins.A != numberAmong(x.left[f], was.A) {
				n++
			}
		}
	}
	return n
}

// place is the new number of the instruction at which a frame stands; -1 if that is gone.
func (x twins) place(f impl.Frame) int { return slices.Index(x.left[f.Func], f.Pc) }

// together tells whether the last frames of two states that run stand at one instruction.
func (x twins) together(a impl.Vm, b impl.Vm) bool {
	return x.place(a.Frames[len(a.Frames)-1]) == b.Frames[len(b.Frames)-1].Pc
}

// checkTogether asks that two states are the same, but for the numbers of instructions, and for steps that were spared.
func (x twins) checkTogether(t *testing.T, a impl.Vm, b impl.Vm) {
	t.Helper()
	want := cloneVm(a)
	for i, f := range want.Frames {
		want.Frames[i].Pc = x.place(f)
	}
	want.Steps = b.Steps
	if !sameVm(b, want) || b.Steps > a.Steps {
		t.Fatalf("%s of\n%s:\n%s comes to %+v, not to %+v", x.name, shown(x.m), shown(x.got), b, a)
	}
}

// checkSteps takes the rewritten module through a run, step by step, and its twin as far: no step prints, answers, traps
// or stores anything else. It gives how many steps were spared.
func (x twins) checkSteps(t *testing.T, args []impl.Value, fuel int) int {
	t.Helper()
	a, _ := startByLaw(x.m, args)
	b, _ := startByLaw(x.got, args)
	for range fuel {
		x.checkTogether(t, a, b)
		if b.Status != impl.StRun {
			break
		}
		a, b = stepByLaw(x.m, a), stepByLaw(x.got, b)
		for a.Status == impl.StRun && b.Status == impl.StRun && !x.together(a, b) {
			f := a.Frames[len(a.Frames)-1]
			if op := x.m.Funcs[f.Func].Code[f.Pc]; x.place(f) != -1 && !x.spares(op) || a.Steps-b.Steps > fuel*impl.MaxCode {
				t.Fatalf("%s of\n%s:\n%s passes over %v of %+v", x.name, shown(x.m), shown(x.got), op, f)
			}
			a = stepByLaw(x.m, a)
		}
	}
	x.checkTogether(t, a, b)
	return a.Steps - b.Steps
}

// checkEnd asks the second half of promise 16 of Run, and gives the Trap, or -1 where the run has no end.
func (x twins) checkEnd(t *testing.T, args []impl.Value, fuel int) int {
	t.Helper()
	was, now := impl.Run(x.m, args, fuel), impl.Run(x.got, args, fuel)
	if was.Status == impl.StRun {
		// The other one is as far, or further.
		if n := len(was.Out); len(now.Out) < n || !slices.Equal(now.Out[:n], was.Out) {
			t.Fatalf("%s of\n%s, with %v: printed %v, not %v", x.name, shown(x.m), args, now.Out, was.Out)
		}
		return -1
	}
	end := impl.Vm{Heap: was.Heap, Made: was.Made, Out: was.Out, Status: was.Status, Trap: was.Trap, Value: was.Value}
	told := now
	told.Frames, told.Steps = nil, 0
	if !sameVm(told, end) || now.Steps > was.Steps {
		t.Fatalf("%s of\n%s, with %v: ends as %+v, not as %+v", x.name, shown(x.m), args, now, was)
	}
	if again := impl.Run(x.got, args, now.Steps); !sameVm(again, now) {
		t.Fatalf("%s of\n%s, with %v: ends as %+v and as %+v", x.name, shown(x.m), args, now, again)
	}
	return was.Trap
}

// checkRun asks both, and gives what they give.
func (x twins) checkRun(t *testing.T, args []impl.Value, fuel int) (int, int) {
	t.Helper()
	spared := x.checkSteps(t, args, min(fuel, 300))
	return spared, x.checkEnd(t, args, fuel)
}

// rewrite is a module in words, and what it is rewritten to.
type rewrite struct {
	name string
	m    string
	want string
}

// stays is for a module that is rewritten to itself.
func stays(name string, m string) rewrite { return rewrite{name, m, m} }

// checkRewrites holds all that is told of these modules against the law, one way of rewriting them against what is
// written, and runs them.
func checkRewrites(t *testing.T, how string, list []rewrite) {
	t.Helper()
	for _, x := range list {
		m := mod(x.m)
		if !goodByLaw(m) {
			t.Errorf("%s: not good: %v", x.name, verifyByLaw(m))
			continue
		}
		if got, want := rewritingNamed(how).do(m), mod(x.want); !sameModule(got, want) {
			t.Errorf("%s: %s gives\n%s, not\n%s", x.name, how, shown(got), shown(want))
		}
		for _, two := range checkRewritings(t, m) {
			for _, v := range vals(impl.Value{}, num(3), truth(0), truth(1)) {
				two.checkRun(t, slices.Repeat(vals(v), m.Funcs[0].Params), 200)
			}
		}
	}
}
