package tests

import (
	"math"
	"slices"
	"testing"

	"loop.example/g00094/impl"
)

func TestNumbersOfTheDocument(t *testing.T) {
	limits := []int{impl.MaxFuncs, impl.MaxCode, impl.MaxLocals, impl.MaxParams, impl.MaxFields, impl.MaxTexts, impl.MaxText, impl.MaxNum, impl.MaxBytes, impl.OK}
	if !slices.Equal(limits, []int{12, 120, 12, 6, 6, 20, 60, 1000000000, 20000, 0}) {
		t.Error(limits)
	}
	ops := []int{impl.OpInt, impl.OpBool, impl.OpText, impl.OpNil, impl.OpFun, impl.OpLoad, impl.OpStore, impl.OpDup, impl.OpDrop,
		impl.OpSwap, impl.OpAdd, impl.OpSub, impl.OpMul, impl.OpLess, impl.OpSame, impl.OpNot, impl.OpJump, impl.OpIf, impl.OpIfNot,
		impl.OpNew, impl.OpGet, impl.OpPut, impl.OpCall, impl.OpInvoke, impl.OpReturn, impl.OpPrint}
	if len(ops) != 26 {
		t.Error(len(ops))
	}
	for i, op := range ops {
		if op != i+1 {
			t.Errorf("Op at place %d is %d", i, op)
		}
	}
}

func TestInsOkByTheTable(t *testing.T) {
	m := sample()
	for f := range m.Funcs {
		rows := tableOf(m, f)
		if len(rows) != 26 {
			t.Fatal(len(rows))
		}
		for _, x := range rows {
			for _, a := range []int{x.least, x.most} {
				if !impl.InsOk(m, f, ins(x.op, a)) {
					t.Errorf("function %d, Op %d: A %d is refused", f, x.op, a)
				}
			}
			for _, a := range []int{x.least - 1, x.most + 1, math.MinInt, math.MaxInt} {
				if impl.InsOk(m, f, ins(x.op, a)) {
					t.Errorf("function %d, Op %d: A %d is taken", f, x.op, a)
				}
			}
		}
	}
}

func TestInsOkOfNoOpAndNoFunction(t *testing.T) {
	m := sample()
	for _, op := range []int{0, -1, 27, 28, 127, math.MinInt, math.MaxInt} {
		for _, a := range []int{-1, 0, 1} {
			if impl.InsOk(m, 0, ins(op, a)) {
				t.Errorf("Op %d is taken", op)
			}
		}
	}
	for _, f := range []int{-1, 2, math.MinInt, math.MaxInt} {
		for op := range 28 {
			if impl.InsOk(m, f, ins(op, 0)) {
				t.Errorf("function %d is taken with Op %d", f, op)
			}
		}
	}
	if impl.InsOk(impl.Module{}, 0, ins(impl.OpNil, 0)) {
		t.Error("a function of an empty module is taken")
	}
}

func TestInsOkWhereThereIsNothing(t *testing.T) {
	for _, locals := range []int{0, -1, math.MinInt} {
		m := impl.Module{Funcs: []impl.Func{{Locals: locals}}}
		for _, op := range []int{impl.OpText, impl.OpLoad, impl.OpStore, impl.OpJump, impl.OpIf, impl.OpIfNot} {
			for _, a := range []int{-1, 0, 1, math.MinInt, math.MaxInt} {
				if impl.InsOk(m, 0, ins(op, a)) {
					t.Errorf("Locals %d, Op %d: A %d is taken", locals, op, a)
				}
			}
		}
	}
}

// InsOk asks of the module only what the table names.
func TestInsOkOfAModuleThatIsNotOk(t *testing.T) {
	m := manyFuncs(impl.MaxFuncs + 1)
	m.Texts = slices.Repeat([]string{"\""}, impl.MaxTexts+1)
	m.Funcs[impl.MaxFuncs] = impl.Func{Params: -1, Locals: math.MaxInt, Code: make([]impl.Ins, impl.MaxCode+1)}
	for _, x := range []impl.Ins{ins(impl.OpText, impl.MaxTexts), ins(impl.OpFun, impl.MaxFuncs), ins(impl.OpInvoke, impl.MaxFuncs), ins(impl.OpLoad, math.MaxInt-1), ins(impl.OpJump, impl.MaxCode)} {
		if !impl.InsOk(m, impl.MaxFuncs, x) {
			t.Errorf("%v is refused", x)
		}
		x.A++
		if impl.InsOk(m, impl.MaxFuncs, x) {
			t.Errorf("%v is taken", x)
		}
	}
}

func TestModuleOkAtEachLimit(t *testing.T) {
	for _, x := range limitsOfModules() {
		if !impl.ModuleOk(x.at) {
			t.Errorf("%s: met, and refused", x.name)
		}
		if impl.ModuleOk(x.past) {
			t.Errorf("%s: passed, and taken", x.name)
		}
		if b := impl.Save(x.at); string(b) != string(told(x.at)) {
			t.Errorf("%s: met, and saved as %v", x.name, b)
		}
		if b := impl.Save(x.past); len(b) != 0 {
			t.Errorf("%s: passed, and saved as %v", x.name, b)
		}
		if m, ok := impl.Load(told(x.at)); !ok || !sameModule(m, x.at) {
			t.Errorf("%s: met, and loaded as %v, %v", x.name, m, ok)
		}
		m, ok := impl.Load(told(x.past))
		mustBeZero(t, x.name, m, ok)
	}
}

func TestModuleOkOfEachParamsAndLocals(t *testing.T) {
	for params := -2; params < 16; params++ {
		for locals := -2; locals < 16; locals++ {
			want := params >= 0 && params <= 6 && locals >= params && locals <= 12
			if m := withRoom(params, locals); impl.ModuleOk(m) != want {
				t.Errorf("Params %d, Locals %d: not %v", params, locals, want)
			}
		}
	}
	for _, x := range []impl.Module{withRoom(math.MinInt, math.MinInt), withRoom(math.MinInt, 0), withRoom(0, math.MaxInt), withRoom(math.MaxInt, math.MaxInt), withRoom(0, math.MinInt)} {
		if impl.ModuleOk(x) {
			t.Errorf("%v is taken", x)
		}
	}
}

func TestModuleOkOfEachByteInAText(t *testing.T) {
	for c := range 256 {
		want := c >= 32 && c <= 126 && c != 34
		letter := string([]byte{byte(c)})
		for _, text := range []string{letter, letter + "ab", "a" + letter + "b", "ab" + letter} {
			m := withTexts("first", text, "last")
			if impl.ModuleOk(m) != want {
				t.Errorf("byte %d in %q: not %v", c, text, want)
			}
			if len(impl.Save(m)) != 0 != want {
				t.Errorf("byte %d in %q: saved, not %v", c, text, want)
			}
			x, ok := impl.Load(told(m))
			if ok != want || ok && !sameModule(x, m) {
				t.Errorf("byte %d in %q: loaded as %v, %v", c, text, x, ok)
			}
		}
	}
}

func TestModuleOkOfEachInstruction(t *testing.T) {
	for _, c := range changedSamples() {
		if impl.ModuleOk(c.m) != c.ok {
			t.Errorf("%v in %v: not %v", c.x, c.m, c.ok)
		}
		y, ok := impl.Load(told(c.m))
		if ok != c.ok || ok && !sameModule(y, c.m) {
			t.Errorf("%v in %v: loaded as %v, %v", c.x, c.m, y, ok)
		}
	}
}
