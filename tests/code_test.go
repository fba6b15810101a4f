package tests

import (
	"fmt"
	"math"
	"slices"
	"strings"
	"testing"

	"loop.example/g00094/impl"
)

// codeChange is what is done to code.
type codeChange struct {
	name string
	do   func(c *impl.Fast)
}

// checkCodes asks of each change by itself whether fullCode is ok with it.
func checkCodes(t *testing.T, list []codeChange, want bool) {
	t.Helper()
	for _, x := range list {
		c := fullCode()
		x.do(&c)
		mustBeOk(t, x.name, codeModule(), c, want)
	}
}

// retCode is code that answers a register, and has nothing else.
func retCode(f int, entry int, vals int, nums int) impl.Fast {
	return impl.Fast{Func: f, Entry: entry, Vals: vals, Nums: nums, Ops: []impl.FOp{{Op: impl.FRet}}}
}

func TestWhereCodeIsEntered(t *testing.T) {
	m := codeModule()
	for _, f := range append(numbersFrom(-3, 14), math.MinInt, math.MaxInt) {
		for _, entry := range append(numbersFrom(-3, 14), 120, math.MinInt, math.MaxInt) {
			want := within(f, 0, 2) && entry == 0 || f == 0 && entry == 1
			mustBeOk(t, fmt.Sprintf("function %d at %d", f, entry), m, retCode(f, entry, 20, 0), want)
		}
	}
	// A loop of one function is none of another one, and one that nobody comes to is none.
	loops := mod("func 0 0; nil; drop; jump 0; func 0 0; nil; drop; nil; drop; jump 2; func 0 0; nil; return; nil; drop; jump 2")
	for f := range loops.Funcs {
		for entry := range 5 {
			mustBeOk(t, fmt.Sprintf("function %d of loops at %d", f, entry), loops, retCode(f, entry, 20, 0), entry == 0 || f == 1 && entry == 2)
		}
	}
}

// Registers for values have room for the locals and for what stands on the stack where the code is entered.
func TestHowManyRegisters(t *testing.T) {
	m := codeModule()
	for _, x := range []struct {
		f     int
		entry int
		least int
	}{{0, 0, 3}, {0, 1, 4}, {1, 0, 2}, {2, 0, 1}} {
		for _, n := range []int{-1, 0, 1, 2, 3, 4, 5, 399, 400, 401, math.MinInt, math.MaxInt} {
			mustBeOk(t, fmt.Sprintf("%v with %d for values", x, n), m, retCode(x.f, x.entry, n, 0), within(n, x.least, 400))
			mustBeOk(t, fmt.Sprintf("%v with %d bare ones", x, n), m, retCode(x.f, x.entry, 400, n), within(n, 0, 400))
		}
	}
	empty := one(nilIns, returnIns)
	none := impl.Fast{Ops: []impl.FOp{{Op: impl.FExit}}, Exits: []impl.Exit{{Kind: impl.ExPause, Frames: exFrames(exFrame(0, 0, nil, nil))}}}
	mustBeOk(t, "no register at all", empty, none, true)
	none.Vals = -1
	mustBeOk(t, "less than none", empty, none, false)
	mustBeOk(t, "no register, and one is answered", empty, retCode(0, 0, 0, 0), false)
	// The most that there can be at an entry: all locals, and a stack that is full.
	high := impl.Module{Funcs: []impl.Func{{Locals: impl.MaxLocals, Code: append(nils(impl.MaxStack), jump(16))}}}
	for n, want := range map[int]bool{27: false, 28: true, 29: true} {
		mustBeOk(t, fmt.Sprint("a full stack with ", n), high, retCode(0, 16, n, 0), want)
	}
	for n, want := range map[int]bool{11: false, 12: true} {
		mustBeOk(t, fmt.Sprint("an empty stack with ", n), high, retCode(0, 0, n, 0), want)
	}
}

// The last registers of each kind are registers, in ops and in sources.
func TestTheLastRegisters(t *testing.T) {
	for n, want := range map[int]bool{398: true, 399: true, 400: false} {
		checkCodes(t, []codeChange{
			{fmt.Sprint("an op's value ", n), func(c *impl.Fast) { c.Vals, c.Ops[2].D = 400, n }},
			{fmt.Sprint("an op's number ", n), func(c *impl.Fast) { c.Nums, c.Ops[4].D = 400, n }},
			{fmt.Sprint("a source's value ", n), func(c *impl.Fast) { c.Vals, c.Exits[3].Frames[0].Stack[0] = 400, valSrc(n) }},
			{fmt.Sprint("a source's number ", n), func(c *impl.Fast) { c.Nums, c.Exits[3].Frames[0].Stack[0] = 400, numSrc(n) }},
		}, want)
	}
	checkCodes(t, []codeChange{
		{"one register for values fewer than are used", func(c *impl.Fast) { c.Vals = 8 }},
		{"one bare register fewer than are used", func(c *impl.Fast) { c.Nums = 4 }},
		{"no bare registers", func(c *impl.Fast) { c.Nums = 0 }},
	}, false)
}

func TestCodeOfModulesThatAreNotGood(t *testing.T) {
	modules := notGood()
	for _, x := range limitsOfModules() {
		modules["past "+x.name] = x.past
	}
	broken := codeModule()
	broken.Funcs[2].Code = broken.Funcs[2].Code[:3]
	modules["another function runs past its end"] = broken
	for name, m := range modules {
		for _, c := range []impl.Fast{{}, fullCode(), retCode(0, 0, 20, 0), retCode(1, 0, 20, 0)} {
			mustBeOk(t, name, m, c, false)
		}
	}
	// Code is ok in one module, and not in another one.
	mustBeOk(t, "another module", sample(), fullCode(), false)
	mustBeOk(t, "another good module", several(), fullCode(), false)
	mustBeOk(t, "the zero code", codeModule(), impl.Fast{}, false)
}

// guardCode is code whose exits are guards of these guesses, in this order, with an exit of another Kind between.
func guardCode(list ...impl.Spec) impl.Fast {
	c := onFullExits(fop(impl.FRet, 0, 0, 0, 0))
	c.Exits = nil
	for _, s := range list {
		guard, trap := fullExits()[1], fullExits()[0]
		guard.Spec = s
		c.Exits = append(c.Exits, guard, trap)
	}
	return c
}

func mustTellSpecs(t *testing.T, name string, c impl.Fast, want ...impl.Spec) {
	t.Helper()
	mustBeOk(t, name, codeModule(), c, true)
	if got := impl.SpecsOf(codeModule(), c); !slices.Equal(got, want) {
		t.Errorf("%s: %v, not %v", name, got, want)
	}
}

// The guesses are told by Func, then Pc, then Target, in whatever order the exits have them.
func TestSpecsOf(t *testing.T) {
	all := guards()
	mustTellSpecs(t, "no exits", guardCode())
	mustTellSpecs(t, "all of them", guardCode(all...), all...)
	back := slices.Clone(all)
	slices.Reverse(back)
	mustTellSpecs(t, "the other way round", guardCode(back...), all...)
	mustTellSpecs(t, "each twice", guardCode(append(back, all...)...), all...)
	mustTellSpecs(t, "one many times", guardCode(slices.Repeat(all[3:4], 700)...), all[3])
	for i, a := range all {
		mustTellSpecs(t, "one", guardCode(a), a)
		for k, b := range all {
			want := specs(a, b)
			switch {
			case i == k:
				want = specs(a)
			case i > k:
				want = specs(b, a)
			}
			mustTellSpecs(t, "two", guardCode(a, b), want...)
			mustTellSpecs(t, "two, and the first again", guardCode(a, b, a), want...)
		}
	}
	for n := range 1 << len(all) {
		var some []impl.Spec
		for i, s := range all {
			if n>>i&1 == 1 {
				some = append(some, s)
			}
		}
		mixed := append(slices.Clone(some[len(some)/2:]), some...)
		slices.Reverse(mixed)
		if got := impl.SpecsOf(codeModule(), guardCode(mixed...)); !slices.Equal(got, some) {
			t.Fatalf("%v: %v, not %v", mixed, got, some)
		}
	}
}

// laidCode is code with an exit for each of these: the functions of its frames above the first.
func laidCode(above ...[]int) impl.Fast {
	c := onFullExits(fop(impl.FRet, 0, 0, 0, 0))
	c.Exits = nil
	for _, list := range above {
		e := impl.Exit{Kind: impl.ExTrap, Frames: exFrames(lastOf(0))}
		for i := range list {
			below := append([]int{0}, list...)[i]
			e.Frames[i] = waitingOf(below)
			e.Frames = append(e.Frames, lastOf(list[i]))
		}
		c.Exits = append(c.Exits, e)
	}
	return c
}

// waitingOf is a frame of this function of codeModule that waits.
func waitingOf(f int) impl.ExFrame {
	return waitingFrames()[slices.IndexFunc(waitingFrames(), func(x impl.ExFrame) bool { return x.Func == f })]
}

// lastOf is a frame of this function of codeModule that may be the last.
func lastOf(f int) impl.ExFrame {
	return lastFrames()[slices.IndexFunc(lastFrames(), func(x impl.ExFrame) bool { return x.Func == f })]
}

func TestLaidOf(t *testing.T) {
	for _, x := range []struct {
		name  string
		above [][]int
		want  []int
	}{
		{"no exits", nil, nil},
		{"first frames alone", [][]int{{}, {}, {}}, nil},
		{"one function", [][]int{{1}}, []int{1}},
		{"one function, behind exits without", [][]int{{}, {}, {2}}, []int{2}},
		{"a function that calls itself", [][]int{{0}}, []int{0}},
		{"twice in one exit", [][]int{{1, 1}}, []int{1}},
		{"twice in two exits", [][]int{{2}, {2}}, []int{2}},
		{"two in one exit", [][]int{{1, 2}}, []int{1, 2}},
		{"two in one exit, falling", [][]int{{2, 1}}, []int{1, 2}},
		{"two in two exits, falling", [][]int{{2}, {1}}, []int{1, 2}},
		{"three", [][]int{{2, 1, 0}}, []int{0, 1, 2}},
		{"three, each again", [][]int{{2}, {1, 2, 1}, {}, {0, 1}, {2, 2, 2}}, []int{0, 1, 2}},
		{"in the middle alone", [][]int{{1, 2, 1}, {1, 1, 1}}, []int{1, 2}},
	} {
		c := laidCode(x.above...)
		mustBeOk(t, x.name, codeModule(), c, true)
		if got := impl.LaidOf(codeModule(), c); !slices.Equal(got, x.want) {
			t.Errorf("%s: %v, not %v", x.name, got, x.want)
		}
	}
	// First frames are left out by their place, not by their function.
	own := impl.Fast{Func: 2, Vals: 1, Ops: []impl.FOp{fop(impl.FRet, 0, 0, 0, 0)}, Exits: []impl.Exit{{Kind: impl.ExTrap, Frames: exFrames(waitingOf(2), waitingOf(1), lastOf(2))}}}
	if got := impl.LaidOf(codeModule(), own); !slices.Equal(got, []int{1, 2}) {
		t.Error(got)
	}
	full := impl.LaidOf(codeModule(), fullCode())
	if !slices.Equal(full, []int{1, 2}) {
		t.Error(full)
	}
}

// The guesses of exits of all Kinds but ExGuard are zero, so a guess is told of guards alone; and what is told of one
// list does not hang on the other.
func TestGuessesAndFunctionsTogether(t *testing.T) {
	c := laidCode([]int{2, 1}, []int{1}, []int{0, 2})
	for i, s := range specs(spec(2, 2, 2, 1), spec(0, 7, 2, 1), spec(2, 2, 2, 1)) {
		c.Exits[i].Kind, c.Exits[i].Spec = impl.ExGuard, s
	}
	mustTellSpecs(t, "guards with frames above", c, spec(0, 7, 2, 1), spec(2, 2, 2, 1))
	if got := impl.LaidOf(codeModule(), c); !slices.Equal(got, []int{0, 1, 2}) {
		t.Error(got)
	}
	c.Exits[2].Spec.Target = 3
	if got := impl.SpecsOf(codeModule(), c); len(got) != 0 {
		t.Error("code that is not ok tells guesses:", got)
	}
	if got := impl.LaidOf(codeModule(), c); len(got) != 0 {
		t.Error("code that is not ok tells functions:", got)
	}
}

func TestTextOfFullCode(t *testing.T) {
	want := strings.Join([]string{
		"fast 0 1 9 5",
		"0 25 0 0 0 3 0 5 -", "1 1 4 0 0 0 0 5 ab", "2 2 5 4 0 0 0 5 -", "3 3 0 0 0 0 0 5 7", "4 4 1 0 0 0 0 5 -",
		"5 5 2 3 0 1 0 5 -", "6 6 6 2 0 0 0 5 -", "7 7 7 0 1 0 0 5 -", "8 8 7 8 1 0 0 5 -", "9 9 7 0 8 0 0 5 -",
		"10 10 8 7 0 0 0 5 -", "11 11 8 1 2 0 0 5 -", "12 12 8 8 0 0 0 5 -", "13 13 3 0 1 0 0 5 -", "14 14 4 4 1 0 0 5 -",
		"15 15 3 0 4 0 0 5 -", "16 16 8 3 4 0 0 5 -", "17 17 5 2 0 0 0 5 -", "18 18 4 5 1 0 0 5 -", "19 19 1 5 4 0 0 5 -",
		"20 20 0 0 0 0 0 5 -", "21 21 6 6 0 0 0 5 -", "22 22 0 4 2 1 0 5 -", "23 28 0 8 0 0 0 5 -", "24 29 0 1 0 2 0 5 -",
		"25 24 0 8 28 0 0 5 -", "26 26 0 0 0 2 0 5 -", "27 27 0 4 0 0 0 5 -", "28 23 0 0 0 0 0 5 -",
		"exit 0 1 - / 0 9 v0 v1 v2 | v3 n1",
		"exit 1 2 fun 0 7 2 / 0 7 v0 v1 v2 | v3 =fun2 r1 * * v4 n4 r0 =nil =-5 =ab",
		"exit 2 3 - / 0 8 v0 n0 =true | v3 / 1 3 v4 r0 | n2 / 2 3 r1 | / 2 2 v5 | =fun1 v8 * r1 * r0 r1",
		"exit 3 4 - / 0 1 v0 v1 v2 | v3",
		"",
	}, "\n")
	if got := impl.FastText(codeModule(), fullCode()); got != want {
		t.Errorf("%s, not\n%s", got, want)
	}
}

// Of each V the word is its text, but for that of nil, in an op, and not in a source.
func TestTextsOfConstants(t *testing.T) {
	for word, v := range map[string]impl.Value{
		"-": {}, "0": num(0), "-1000000000": num(-1000000000), "1000000000": num(1000000000), "false": truth(0), "true": truth(1),
		"": text(""), "a b": text("a b"), "-7": num(-7), "=v0 | / *": text("=v0 | / *"), "fun0": fun(0), "fun2": fun(2), xs(60): text(xs(60)),
	} {
		c := retCode(2, 0, 12, 0)
		c.Ops = []impl.FOp{{Op: impl.FConst, D: 11, F: 1, P: 4, V: v}, {Op: impl.FRet, A: 11, F: 2, P: 3}}
		if got, want := impl.FastText(codeModule(), c), "fast 2 0 12 0\n0 1 11 0 0 0 1 4 "+word+"\n1 27 0 11 0 0 2 3 -\n"; got != want {
			t.Errorf("%q, not %q", got, want)
		}
		source := "=" + word
		if v == (impl.Value{}) {
			source = "=nil"
		}
		c.Exits = []impl.Exit{{Kind: impl.ExPause, Frames: exFrames(exFrame(2, 3, srcs(constSrc(v)), srcs(constSrc(v)))), Recs: exRecs(exRec(constSrc(v)))}}
		if got, want := impl.FastText(codeModule(), c), "exit 0 4 - / 2 3 "+source+" | "+source+" * "+source+"\n"; !strings.HasSuffix(got, "\n"+want) {
			t.Errorf("%q does not end with %q", got, want)
		}
		checkCode(t, codeModule(), c)
	}
	// A text that is told as nil is.
	c := retCode(0, 0, 3, 0)
	c.Ops = append([]impl.FOp{{Op: impl.FConst, V: text("nil")}, {Op: impl.FConst, V: text("nil ")}}, c.Ops...)
	if got, want := impl.FastText(codeModule(), c), "fast 0 0 3 0\n0 1 0 0 0 0 0 0 -\n1 1 0 0 0 0 0 0 nil \n2 27 0 0 0 0 0 0 -\n"; got != want {
		t.Errorf("%q, not %q", got, want)
	}
}

func TestTextsOfExits(t *testing.T) {
	empty := one(nilIns, returnIns)
	bare := exFrames(exFrame(0, 0, nil, nil))
	for _, x := range []struct {
		name string
		m    impl.Module
		e    impl.Exit
		want string
	}{
		{"no source at all", empty, impl.Exit{Kind: impl.ExPause, Frames: bare}, "exit 0 4 - / 0 0 |\n"},
		{"a record without fields", empty, impl.Exit{Kind: impl.ExCall, Frames: bare, Recs: exRecs(exRec())}, "exit 0 3 - / 0 0 | *\n"},
		{"records without fields", empty, impl.Exit{Kind: impl.ExTrap, Frames: bare, Recs: make([]impl.ExRec, 3)}, "exit 0 1 - / 0 0 | * * *\n"},
		{"records with and without", empty, impl.Exit{Kind: impl.ExTrap, Frames: bare, Recs: exRecs(exRec(recSrc(2)), exRec(), exRec(recSrc(0), recSrc(1)))}, "exit 0 1 - / 0 0 | * r2 * * r0 r1\n"},
		{"a stack alone", empty, impl.Exit{Kind: impl.ExTrap, Frames: exFrames(exFrame(0, 1, nil, srcs(valSrc(12))))}, "exit 0 1 - / 0 1 | v12\n"},
		{"a guess at numbers", codeModule(), impl.Exit{Kind: impl.ExGuard, Spec: spec(1, 3, 1, 0), Frames: exFrames(exFrame(0, 0, srcs(numSrc(13), valSrc(0), recSrc(0)), nil)), Recs: exRecs(exRec())}, "exit 0 2 int 1 3 / 0 0 n13 v0 r0 | *\n"},
		{"a guess at a function", codeModule(), impl.Exit{Kind: impl.ExGuard, Spec: spec(2, 2, 2, 1), Frames: exFrames(exFrame(0, 0, firstLocals(), nil))}, "exit 0 2 fun 2 2 1 / 0 0 v0 v1 v2 |\n"},
		{"a frame above", codeModule(), impl.Exit{Kind: impl.ExCall, Frames: exFrames(waitingOf(0), lastOf(2))}, "exit 0 3 - / 0 8 =nil =nil =nil | =nil / 2 0 =nil |\n"},
	} {
		c := retCode(0, 0, 20, 20)
		c.Exits = []impl.Exit{x.e}
		mustBeOk(t, x.name, x.m, c, true)
		if got, want := impl.FastText(x.m, c), "fast 0 0 20 20\n0 27 0 0 0 0 0 0 -\n"+x.want; got != want {
			t.Errorf("%s: %q, not %q", x.name, got, want)
		}
	}
}
