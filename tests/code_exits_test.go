package tests

import (
	"fmt"
	"math"
	"slices"
	"testing"

	"loop.example/g00094/impl"
)

// exitChange is what is done to an exit.
type exitChange struct {
	name string
	do   func(e *impl.Exit)
}

// checkExits asks of each change by itself whether code is ok with it, in the exit at this place of fullExits.
func checkExits(t *testing.T, place int, list []exitChange, want bool) {
	t.Helper()
	for _, x := range list {
		c := fullCode()
		x.do(&c.Exits[place])
		mustBeOk(t, fmt.Sprintf("exit %d: %s", place, x.name), codeModule(), c, want)
	}
}

// guards are all guesses at instructions of codeModule, in order.
func guards() []impl.Spec {
	return specs(spec(0, 3, 1, 0), spec(0, 7, 2, 1), spec(0, 7, 2, 2), spec(0, 9, 1, 0), spec(0, 11, 1, 0), spec(1, 3, 1, 0),
		spec(2, 2, 2, 1), spec(2, 2, 2, 2))
}

// noGuards are no guesses, most of them but for one field.
func noGuards() []impl.Spec {
	out := specs(impl.Spec{}, spec(0, 7, 2, 0), spec(0, 7, 2, 3), spec(0, 7, 2, -1), spec(2, 2, 2, 0), spec(0, 3, 1, 1), spec(0, 3, 1, -1),
		spec(0, 8, 2, 1), spec(0, 12, 1, 0), spec(0, 13, 1, 0), spec(0, math.MaxInt, 1, 0), spec(math.MinInt, 3, 1, 0))
	for _, s := range guards() {
		out = append(out, spec(s.Func, s.Pc, 3-s.Kind, s.Target), spec(s.Func, s.Pc, 0, s.Target), spec(s.Func, s.Pc, 3, s.Target),
			spec(s.Func, -1, s.Kind, s.Target), spec(s.Func, s.Pc-1, s.Kind, s.Target), spec(-1, s.Pc, s.Kind, s.Target), spec(3, s.Pc, s.Kind, s.Target))
	}
	return out
}

func TestKindsOfExits(t *testing.T) {
	for place := range fullExits() {
		for _, kind := range []int{0, 1, 2, 3, 4, 5, -1, math.MinInt, math.MaxInt} {
			set := exitChange{fmt.Sprint("Kind ", kind), func(e *impl.Exit) { e.Kind, e.Spec = kind, impl.Spec{} }}
			checkExits(t, place, []exitChange{set}, kind == 1 || kind == 3 || kind == 4)
			guess := exitChange{fmt.Sprint("with a Spec, Kind ", kind), func(e *impl.Exit) { e.Kind, e.Spec = kind, spec(0, 3, 1, 0) }}
			checkExits(t, place, []exitChange{guess}, kind == 2)
		}
	}
}

// A guard has a guess that a plan may have, be it of another instruction than the exit's; the others have none, be it
// with something in one field alone.
func TestSpecsOfExits(t *testing.T) {
	set := func(kind int, s impl.Spec) []exitChange {
		return []exitChange{{fmt.Sprint("Kind ", kind, " with ", s), func(e *impl.Exit) { e.Kind, e.Spec = kind, s }}}
	}
	for place := range fullExits() {
		for _, s := range guards() {
			if !impl.PlanOk(codeModule(), planOn(s)) {
				t.Errorf("no plan has %v", s)
			}
			checkExits(t, place, set(2, s), true)
		}
		for _, s := range noGuards() {
			if impl.PlanOk(codeModule(), planOn(s)) {
				t.Errorf("a plan has %v", s)
			}
			checkExits(t, place, set(2, s), false)
		}
		for _, kind := range []int{1, 3, 4} {
			for _, s := range append(guards(), spec(1, 0, 0, 0), spec(0, 1, 0, 0), spec(0, 0, 1, 0), spec(0, 0, 0, 1), spec(-1, 0, 0, 0)) {
				checkExits(t, place, set(kind, s), false)
			}
			checkExits(t, place, set(kind, impl.Spec{}), true)
		}
	}
}

// waitingFrames are frames of function 0, 1 and 2 that wait for what they called, with nils for sources.
func waitingFrames() []impl.ExFrame {
	return exFrames(exFrame(0, 8, nilSrcs(3), nilSrcs(1)), exFrame(0, 9, nilSrcs(3), nilSrcs(1)), exFrame(1, 3, nilSrcs(2), nilSrcs(1)),
		exFrame(2, 3, nilSrcs(1), nil))
}

// heightsOfCode are the heights of the functions of codeModule.
var heightsOfCode = [][]int{{0, 1, 2, 3, 2, 1, 2, 3, 2, 2, 1, -1, 1}, {0, 1, 2, 2, 1}, {0, 1, 2, 1}}

// lastFrames has at each instruction of codeModule that one comes to a frame that may be the last.
func lastFrames() []impl.ExFrame {
	var out []impl.ExFrame
	for f, heights := range heightsOfCode {
		for pc, height := range heights {
			if height != -1 {
				out = append(out, exFrame(f, pc, nilSrcs(codeModule().Funcs[f].Locals), nilSrcs(height)))
			}
		}
	}
	return out
}

// setFrames is an exit with these frames, and without records.
func setFrames(list ...impl.ExFrame) []exitChange {
	return []exitChange{{fmt.Sprint(list), func(e *impl.Exit) { e.Frames, e.Recs = list, nil }}}
}

func TestHeightsOfCodeModule(t *testing.T) {
	for f, want := range heightsOfCode {
		if got := impl.DepthsOf(codeModule(), f); !slices.Equal(got, want) {
			t.Errorf("function %d: %v, not %v", f, got, want)
		}
	}
}

func TestFramesOfExits(t *testing.T) {
	first, second, third := waitingFrames()[0], waitingFrames()[2], waitingFrames()[3]
	for place := range fullExits() {
		checkExits(t, place, setFrames(), false)
		for _, last := range lastFrames() {
			checkExits(t, place, setFrames(last), last.Func == 0)
			checkExits(t, place, setFrames(first, last), true)
			checkExits(t, place, setFrames(second, last), false)
			checkExits(t, place, setFrames(first, second, last), true)
			checkExits(t, place, setFrames(first, second, third, last), true)
			checkExits(t, place, setFrames(first, second, third, third, last), false)
		}
		for _, x := range waitingFrames() {
			for _, y := range waitingFrames() {
				checkExits(t, place, setFrames(x, y, lastFrames()[0]), x.Func == 0)
			}
			// One that waits lacks a value where it would be the last.
			checkExits(t, place, setFrames(x), false)
			checkExits(t, place, setFrames(first, x), false)
		}
	}
}

// The first frame is one of the code's function, and is so in code of each function.
func TestTheFirstFrame(t *testing.T) {
	for f := range codeModule().Funcs {
		for _, last := range lastFrames() {
			c := impl.Fast{Func: f, Vals: 9, Ops: []impl.FOp{fop(impl.FExit, 0, 0, 0, 0)}, Exits: []impl.Exit{{Kind: impl.ExCall, Frames: exFrames(last)}}}
			mustBeOk(t, "one frame", codeModule(), c, last.Func == f)
			for _, x := range waitingFrames() {
				c.Exits[0].Frames = exFrames(x, last)
				mustBeOk(t, "two frames", codeModule(), c, x.Func == f)
			}
		}
	}
}

// A frame with its Func, Pc, Locals or Stack changed is refused in the last place and ahead of it.
func TestFramesOfExitsThatBreakOneWord(t *testing.T) {
	wrong := map[string]func(f *impl.ExFrame){
		"a function below":      func(f *impl.ExFrame) { f.Func = -1 },
		"a function behind":     func(f *impl.ExFrame) { f.Func = 3 },
		"far behind":            func(f *impl.ExFrame) { f.Func = math.MaxInt },
		"an instruction below":  func(f *impl.ExFrame) { f.Pc = -1 },
		"far below":             func(f *impl.ExFrame) { f.Pc = math.MinInt },
		"an instruction behind": func(f *impl.ExFrame) { f.Pc = len(codeModule().Funcs[f.Func].Code) },
		"another instruction":   func(f *impl.ExFrame) { f.Pc = 1 },
		"where nobody comes to": func(f *impl.ExFrame) { *f = exFrame(0, 11, nilSrcs(3), nilSrcs(2)) },
		"a local more":          func(f *impl.ExFrame) { f.Locals = append(f.Locals, valSrc(0)) },
		"a local fewer":         func(f *impl.ExFrame) { f.Locals = f.Locals[1:] },
		"a value more":          func(f *impl.ExFrame) { f.Stack = append(f.Stack, valSrc(0)) },
		"a value fewer":         func(f *impl.ExFrame) { f.Stack = append(nilSrcs(9), f.Stack...)[10:] },
	}
	for name, do := range wrong {
		for at := range 4 {
			// Function 2 has no value to lose where it waits, and nothing but a return behind that.
			if at == 2 && name == "a value fewer" {
				continue
			}
			checkExits(t, 2, []exitChange{{fmt.Sprint(name, " in frame ", at), func(e *impl.Exit) { do(&e.Frames[at]) }}}, false)
		}
		checkExits(t, 0, []exitChange{{name, func(e *impl.Exit) { do(&e.Frames[0]) }}}, false)
	}
}

// A frame that is not the last stands behind a call or invoke that one comes to, and lacks what it answers.
func TestFramesOfExitsThatWait(t *testing.T) {
	last := lastFrames()[0]
	for f, heights := range heightsOfCode {
		locals := nilSrcs(codeModule().Funcs[f].Locals)
		for pc := range heights {
			for height := range 5 {
				want := f == 0 && (pc == 8 || pc == 9) && height == 1
				checkExits(t, 0, setFrames(exFrame(f, pc, locals, nilSrcs(height)), last), want)
				inner := want || f == 1 && pc == 3 && height == 1 || f == 2 && pc == 3 && height == 0
				checkExits(t, 0, setFrames(waitingFrames()[0], exFrame(f, pc, locals, nilSrcs(height)), last), inner)
			}
		}
	}
	// Behind a call that nobody comes to, and behind what leaves as much as a call does.
	m := stateModule()
	for pc := range 5 {
		for height := range 3 {
			c := impl.Fast{Func: 2, Vals: 3, Ops: []impl.FOp{fop(impl.FExit, 0, 0, 0, 0)}, Exits: []impl.Exit{{Kind: 1, Frames: exFrames(exFrame(2, pc, nil, nilSrcs(height)), exFrame(2, 0, nil, nil))}}}
			mustBeOk(t, "behind no call", m, c, false)
		}
	}
}

// What is asked of frames is what VmOk asks of a state that has them.
func TestFramesOfExitsAreFramesOfStates(t *testing.T) {
	m := codeModule()
	for f := -1; f <= 3; f++ {
		for pc := -1; pc <= 13; pc++ {
			for locals := range 5 {
				for height := range 5 {
					x := exFrame(f, pc, nilSrcs(locals), nilSrcs(height))
					for _, list := range [][]impl.ExFrame{{x}, {waitingFrames()[0], x}, {x, lastFrames()[0]}, {waitingFrames()[0], x, lastFrames()[0]}} {
						e := impl.Exit{Kind: impl.ExCall, Frames: list}
						c := impl.Fast{Vals: 3, Ops: []impl.FOp{fop(impl.FExit, 0, 0, 0, 0)}, Exits: []impl.Exit{e}}
						want := impl.VmOk(m, impl.Vm{Frames: nilFrames(e)}) && list[0].Func == 0
						if got := impl.FastOk(m, c); got != want {
							t.Fatalf("%v: %v", list, got)
						}
					}
				}
			}
		}
	}
}

// sourcePlaces are where a source may stand in the exits of fullCode, in one with two records, and in one without.
func sourcePlaces() map[string]func(c *impl.Fast) *impl.Src {
	return map[string]func(c *impl.Fast) *impl.Src{
		"a local of the only frame":    func(c *impl.Fast) *impl.Src { return &c.Exits[1].Frames[0].Locals[2] },
		"the stack of the only frame":  func(c *impl.Fast) *impl.Src { return &c.Exits[1].Frames[0].Stack[0] },
		"the top of the only frame":    func(c *impl.Fast) *impl.Src { return &c.Exits[1].Frames[0].Stack[2] },
		"a local of the first frame":   func(c *impl.Fast) *impl.Src { return &c.Exits[2].Frames[0].Locals[0] },
		"the stack of the first frame": func(c *impl.Fast) *impl.Src { return &c.Exits[2].Frames[0].Stack[0] },
		"a local of a middle frame":    func(c *impl.Fast) *impl.Src { return &c.Exits[2].Frames[1].Locals[1] },
		"a local of the last frame":    func(c *impl.Fast) *impl.Src { return &c.Exits[2].Frames[3].Locals[0] },
		"the top of the last frame":    func(c *impl.Fast) *impl.Src { return &c.Exits[2].Frames[3].Stack[1] },
		"a field of the first record":  func(c *impl.Fast) *impl.Src { return &c.Exits[2].Recs[0].Fields[0] },
		"a field of the last record":   func(c *impl.Fast) *impl.Src { return &c.Exits[2].Recs[1].Fields[1] },
		"the last of six fields":       func(c *impl.Fast) *impl.Src { return &c.Exits[1].Recs[1].Fields[5] },
		"an exit without records":      func(c *impl.Fast) *impl.Src { return &c.Exits[0].Frames[0].Locals[1] },
		"the last exit":                func(c *impl.Fast) *impl.Src { return &c.Exits[3].Frames[0].Stack[0] },
	}
}

func checkSource(t *testing.T, s impl.Src, want func(name string) bool) {
	t.Helper()
	for name, place := range sourcePlaces() {
		c := fullCode()
		*place(&c) = s
		mustBeOk(t, fmt.Sprint(name, ": ", s), codeModule(), c, want(name))
	}
}

func always(want bool) func(string) bool {
	return func(string) bool { return want }
}

func TestSourcesOfEachKind(t *testing.T) {
	withRecords := func(name string) bool { return name != "an exit without records" && name != "the last exit" }
	for _, n := range append(numbersFrom(-2, 12), 60, 400, math.MinInt, math.MaxInt) {
		checkSource(t, valSrc(n), always(within(n, 0, 8)))
		checkSource(t, numSrc(n), always(within(n, 0, 4)))
		checkSource(t, recSrc(n), func(name string) bool { return withRecords(name) && (n == 0 || n == 1) })
		checkSource(t, impl.Src{Kind: impl.SrConst, N: n}, always(n == 0))
		checkSource(t, impl.Src{Kind: impl.SrConst, N: n, V: num(3)}, always(n == 0))
		for _, kind := range []int{0, 5, -1, math.MinInt, math.MaxInt} {
			checkSource(t, impl.Src{Kind: kind, N: n}, always(false))
		}
	}
	for _, v := range constants() {
		checkSource(t, constSrc(v), always(true))
	}
	for _, v := range noConstants() {
		checkSource(t, constSrc(v), always(false))
	}
	for _, v := range append(constants(), noConstants()...) {
		for _, kind := range []int{0, 2, 3, 4, 5} {
			if v != (impl.Value{}) {
				checkSource(t, impl.Src{Kind: kind, V: v}, always(false))
			}
		}
	}
}

// oneRecs are n records with a field each that names the last of them.
func oneRecs(n int) []impl.ExRec {
	var out []impl.ExRec
	for range n {
		out = append(out, exRec(recSrc(n-1)))
	}
	return out
}

func TestRecsOfExits(t *testing.T) {
	setRecs := func(name string, list ...impl.ExRec) []exitChange {
		return []exitChange{{name, func(e *impl.Exit) { e.Recs = list }}}
	}
	for _, place := range []int{0, 3} {
		checkExits(t, place, setRecs("none"), true)
		checkExits(t, place, setRecs("one", exRec()), true)
		checkExits(t, place, setRecs("MaxRecs", oneRecs(60)...), true)
		checkExits(t, place, setRecs("one more", oneRecs(61)...), false)
		checkExits(t, place, setRecs("one more, without fields", make([]impl.ExRec, 61)...), false)
		checkExits(t, place, setRecs("far more", make([]impl.ExRec, 5000)...), false)
		for fields := range 8 {
			for at := range 3 {
				list := slices.Clone(oneRecs(3))
				list[at] = exRec(nilSrcs(fields)...)
				checkExits(t, place, setRecs(fmt.Sprint(fields, " fields in record ", at), list...), fields <= 6)
			}
		}
		for n, want := range map[int]bool{-1: false, 0: true, 58: true, 59: true, 60: false, 61: false} {
			list := oneRecs(60)
			list[59] = exRec(valSrc(0), recSrc(n))
			checkExits(t, place, setRecs(fmt.Sprint("a field that names record ", n), list...), want)
			top := exitChange{fmt.Sprint("a value that is record ", n), func(e *impl.Exit) { e.Recs, e.Frames[0].Stack[0] = oneRecs(60), recSrc(n) }}
			checkExits(t, place, []exitChange{top}, want)
		}
	}
	// Records of one exit are none of another one.
	c := fullCode()
	c.Exits[0].Frames[0].Locals[0] = recSrc(0)
	mustBeOk(t, "a record of the next exit", codeModule(), c, false)
	c.Exits[0].Recs = exRecs(exRec())
	mustBeOk(t, "a record of its own", codeModule(), c, true)
}

func TestHowManyExits(t *testing.T) {
	m := codeModule()
	with := func(n int, x int) impl.Fast {
		c := onFullExits(fop(impl.FExit, 0, 0, 0, x))
		c.Exits = slices.Repeat(fullExits()[:1], n)
		return c
	}
	mustBeOk(t, "none", m, with(0, 0), false)
	mustBeOk(t, "none, and none is needed", m, impl.Fast{Vals: 3, Ops: []impl.FOp{fop(impl.FRet, 0, 0, 0, 0)}}, true)
	mustBeOk(t, "one", m, with(1, 0), true)
	mustBeOk(t, "one, and the next is needed", m, with(1, 1), false)
	mustBeOk(t, "MaxOps", m, with(1500, 1499), true)
	mustBeOk(t, "MaxOps, and the next is needed", m, with(1500, 1500), false)
	mustBeOk(t, "one more", m, with(1501, 0), false)
	mustBeOk(t, "one more, which is needed", m, with(1501, 1500), false)
	mustBeOk(t, "far more", m, with(20000, 0), false)
	for _, at := range []int{0, 700, 1499} {
		c := with(1500, 0)
		c.Exits[at] = impl.Exit{Kind: 5, Frames: fullExits()[0].Frames}
		mustBeOk(t, fmt.Sprint("MaxOps, of which ", at, " is wrong"), m, c, false)
	}
}

// An exit that no op takes is asked as the others are.
func TestExitsThatNobodyTakes(t *testing.T) {
	c := onFullExits(fop(impl.FRet, 0, 0, 0, 0))
	mustBeOk(t, "all of them", codeModule(), c, true)
	for place := range c.Exits {
		c := onFullExits(fop(impl.FRet, 0, 0, 0, 0))
		c.Exits[place].Frames[0].Locals[0] = valSrc(9)
		mustBeOk(t, "one is wrong", codeModule(), c, false)
	}
}

// Which exit an op takes, and of which Kind it is, is left to the op.
func TestEachOpWithEachExit(t *testing.T) {
	for op := impl.FConst; op <= impl.FDeep; op++ {
		for place := range fullExits() {
			x := rowOp(op)
			x.X = place
			mustBeOk(t, fmt.Sprintf("Op %d with exit %d", op, place), codeModule(), rowCode(x), place == 0 || namedAs(op, "X") == "exit")
		}
	}
}
