package tests

import (
	"fmt"
	"math"
	"slices"
	"testing"

	"loop.example/g00094/impl"
)

// codeModule has three functions. Function 0 can be entered at 0, where its stack is empty, and at 1, where one value
// stands on it; nobody comes to its mul at 11. It calls at 7 and invokes at 8, function 1 invokes at 2, function 2
// calls at 2. Functions 1 and 2 take one value.
func codeModule() impl.Module {
	return mod("func 2 3; int 7; load 0; load 1; less; ifnot 12; load 2; load 0; call 1; invoke 1; add; jump 1; mul; return; " +
		"func 1 2; load 0; load 1; invoke 2; sub; return; " +
		"func 1 1; fun 1; load 0; call 1; return")
}

// firstLocals are sources for the locals of function 0 of codeModule.
func firstLocals() []impl.Src { return srcs(valSrc(0), valSrc(1), valSrc(2)) }

// fullExits has an exit of each Kind, sources of each Kind, unmade records, and as many frames as there can be.
func fullExits() []impl.Exit {
	return []impl.Exit{
		{Kind: impl.ExTrap, Frames: exFrames(exFrame(0, 9, firstLocals(), srcs(valSrc(3), numSrc(1))))},
		{
			Kind: impl.ExGuard, Spec: spec(0, 7, impl.SpFun, 2),
			Frames: exFrames(exFrame(0, 7, firstLocals(), srcs(valSrc(3), constSrc(fun(2)), recSrc(1)))),
			Recs:   exRecs(exRec(), exRec(valSrc(4), numSrc(4), recSrc(0), constSrc(impl.Value{}), constSrc(num(-5)), constSrc(text("ab")))),
		},
		{
			Kind: impl.ExCall,
			Frames: exFrames(
				exFrame(0, 8, srcs(valSrc(0), numSrc(0), constSrc(truth(1))), srcs(valSrc(3))),
				exFrame(1, 3, srcs(valSrc(4), recSrc(0)), srcs(numSrc(2))),
				exFrame(2, 3, srcs(recSrc(1)), nil),
				exFrame(2, 2, srcs(valSrc(5)), srcs(constSrc(fun(1)), valSrc(8))),
			),
			Recs: exRecs(exRec(recSrc(1)), exRec(recSrc(0), recSrc(1))),
		},
		{Kind: impl.ExPause, Frames: exFrames(exFrame(0, 1, firstLocals(), srcs(valSrc(3))))},
	}
}

// fop is an op that comes of an instruction of function 0.
func fop(op int, d int, a int, b int, x int) impl.FOp {
	return impl.FOp{Op: op, D: d, A: a, B: b, X: x, P: 5}
}

// withV is an op with a V.
func withV(x impl.FOp, v impl.Value) impl.FOp {
	x.V = v
	return x
}

// fullCode has an op of each kind, and fullExits.
func fullCode() impl.Fast {
	return impl.Fast{Entry: 1, Vals: 9, Nums: 5, Exits: fullExits(), Ops: []impl.FOp{
		fop(impl.FSafe, 0, 0, 0, 3),
		withV(fop(impl.FConst, 4, 0, 0, 0), text("ab")),
		fop(impl.FMove, 5, 4, 0, 0),
		withV(fop(impl.FNum, 0, 0, 0, 0), num(7)),
		fop(impl.FMoveNum, 1, 0, 0, 0),
		fop(impl.FOpen, 2, 3, 0, 1),
		fop(impl.FBox, 6, 2, 0, 0),
		fop(impl.FAdd, 7, 0, 1, 0),
		fop(impl.FSub, 7, 8, 1, 0),
		fop(impl.FMul, 7, 0, 8, 0),
		fop(impl.FLess, 8, 7, 0, 0),
		fop(impl.FSame, 8, 1, 2, 0),
		fop(impl.FNot, 8, 8, 0, 0),
		fop(impl.FAddN, 3, 0, 1, 0),
		fop(impl.FSubN, 4, 4, 1, 0),
		fop(impl.FMulN, 3, 0, 4, 0),
		fop(impl.FLessN, 8, 3, 4, 0),
		fop(impl.FNew, 5, 2, 0, 0),
		fop(impl.FGet, 4, 5, 1, 0),
		fop(impl.FPut, 1, 5, 4, 0),
		fop(impl.FMade, 0, 0, 0, 0),
		fop(impl.FMake, 6, 6, 0, 0),
		fop(impl.FIsFun, 0, 4, 2, 1),
		fop(impl.FPrint, 0, 8, 0, 0),
		fop(impl.FDeep, 0, 1, 0, 2),
		fop(impl.FIf, 0, 8, 28, 0),
		fop(impl.FExit, 0, 0, 0, 2),
		fop(impl.FRet, 0, 4, 0, 0),
		fop(impl.FJump, 0, 0, 0, 0),
	}}
}

// onFullExits is code of these ops, with the registers and exits of fullCode.
func onFullExits(ops ...impl.FOp) impl.Fast {
	c := fullCode()
	c.Ops = ops
	return c
}

// rowPlace is where the op that is asked for stands in rowCode.
const rowPlace = 2

// rowCode has an op between others: ahead of it an FSafe and one that is none, behind it three more.
func rowCode(x impl.FOp) impl.Fast {
	safe, move := fop(impl.FSafe, 0, 0, 0, 3), fop(impl.FMove, 0, 1, 0, 0)
	return onFullExits(safe, move, x, safe, move, fop(impl.FRet, 0, 0, 0, 0))
}

// rowNumbers are all numbers that a field can be in rowCode, by what it is named as. No two are the same.
var rowNumbers = map[string][]int{
	"val": {0, 1, 2, 3, 4, 5, 6, 7, 8}, "num": {0, 1, 2, 3, 4}, "exit": {0, 1, 2, 3}, "size": {0, 1, 2, 3, 4, 5, 6},
	"field": {0, 1, 2, 3, 4, 5}, "fun": {0, 1, 2}, "deep": {1, 2, 3}, "op": {0, 3, 4, 5}, "": {0},
}

// rowOp is an op of this Op that is as the table says, with the greatest number in each field.
func rowOp(op int) impl.FOp {
	x := impl.FOp{Op: op, F: 1, P: 4}
	for _, name := range fieldNames {
		list := rowNumbers[namedAs(op, name)]
		*fieldOf(&x, name) = list[len(list)-1]
	}
	switch namedAs(op, "V") {
	case "any":
		x.V = text("ab")
	case "int":
		x.V = num(7)
	}
	return x
}

func TestNumbersOfCode(t *testing.T) {
	ops := []int{
		impl.FConst, impl.FMove, impl.FNum, impl.FMoveNum, impl.FOpen, impl.FBox, impl.FAdd, impl.FSub, impl.FMul, impl.FLess,
		impl.FSame, impl.FNot, impl.FAddN, impl.FSubN, impl.FMulN, impl.FLessN, impl.FNew, impl.FGet, impl.FPut, impl.FMade,
		impl.FMake, impl.FIsFun, impl.FJump, impl.FIf, impl.FSafe, impl.FExit, impl.FRet, impl.FPrint, impl.FDeep,
	}
	for i, op := range ops {
		if op != i+1 {
			t.Errorf("the Op at %d is %d", i+1, op)
		}
	}
	others := []int{impl.SrConst, impl.SrVal, impl.SrNum, impl.SrRec, impl.ExTrap, impl.ExGuard, impl.ExCall, impl.ExPause,
		impl.MaxRegs, impl.MaxOps, impl.MaxRecs, impl.MaxUp}
	if !slices.Equal(others, []int{1, 2, 3, 4, 1, 2, 3, 4, 400, 1500, 60, 4}) {
		t.Error(others)
	}
}

func TestCodeWithEachOp(t *testing.T) {
	mustBeOk(t, "all ops", codeModule(), fullCode(), true)
	came := map[int]bool{}
	for _, x := range fullCode().Ops {
		came[x.Op] = true
	}
	for op := impl.FConst; op <= impl.FDeep; op++ {
		if !came[op] {
			t.Errorf("Op %d is not in fullCode", op)
		}
		mustBeOk(t, fmt.Sprint("Op ", op), codeModule(), rowCode(rowOp(op)), true)
	}
}

// Each field by itself goes through all that it can be, and past both ends; one that the row does not name can be 0
// alone.
func TestEachFieldOfEachOp(t *testing.T) {
	m := codeModule()
	for op := impl.FConst; op <= impl.FDeep; op++ {
		for _, name := range fieldNames {
			good := rowNumbers[namedAs(op, name)]
			for _, n := range append(numbersFrom(-3, 14), 60, 400, 1500, math.MinInt, math.MaxInt) {
				x := rowOp(op)
				*fieldOf(&x, name) = n
				mustBeOk(t, fmt.Sprintf("%s of Op %d is %d", name, op, n), m, rowCode(x), slices.Contains(good, n))
			}
		}
	}
}

// numbersFrom are least .. most.
func numbersFrom(least int, most int) []int {
	var out []int
	for n := least; n <= most; n++ {
		out = append(out, n)
	}
	return out
}

// A register just past the last one is one where there is one more of its kind, and not where there is one more of
// the other kind.
func TestRegistersHangOnTheirKind(t *testing.T) {
	m := codeModule()
	for op := impl.FConst; op <= impl.FDeep; op++ {
		for _, name := range fieldNames {
			what := namedAs(op, name)
			for _, n := range []int{5, 9} {
				x := rowOp(op)
				*fieldOf(&x, name) = n
				moreVals, moreNums := rowCode(x), rowCode(x)
				moreVals.Vals, moreNums.Nums = 10, 10
				if what == "val" {
					mustBeOk(t, "a value's register", m, moreVals, true)
					mustBeOk(t, "a value's register", m, moreNums, n == 5)
				}
				if what == "num" {
					mustBeOk(t, "a bare register", m, moreVals, false)
					mustBeOk(t, "a bare register", m, moreNums, true)
				}
			}
		}
	}
}

// constants are what V of an FConst can be in code of codeModule.
func constants() []impl.Value {
	return vals(impl.Value{}, num(0), num(1000000000), num(-1000000000), truth(0), truth(1), text(""), text("nil"), text(" !#~"), text(xs(60)), fun(0), fun(2))
}

// noConstants are what V can be nowhere, records among them.
func noConstants() []impl.Value {
	return append(overfull(), rec(0), rec(1), rec(-1), num(1000000001), num(-1000000001), truth(2), truth(-1), text(xs(61)), text("\""),
		text("\x1f"), text("\x7f"), fun(3), fun(-1), impl.Value{Kind: 6}, impl.Value{Kind: -1}, impl.Value{Kind: math.MaxInt})
}

func TestVOfEachOp(t *testing.T) {
	m := codeModule()
	for op := impl.FConst; op <= impl.FDeep; op++ {
		for _, v := range constants() {
			want := op == impl.FConst || op == impl.FNum && v.Kind == impl.VInt || op != impl.FNum && v == impl.Value{}
			mustBeOk(t, fmt.Sprintf("V of Op %d is %v", op, v), m, rowCode(withV(rowOp(op), v)), want)
		}
		for _, v := range noConstants() {
			mustBeOk(t, fmt.Sprintf("V of Op %d is %v", op, v), m, rowCode(withV(rowOp(op), v)), false)
		}
	}
}

func TestOpsThatAreNone(t *testing.T) {
	m := codeModule()
	for _, op := range []int{0, 30, -1, 31, 255, math.MinInt, math.MaxInt} {
		for _, like := range append(fullCode().Ops, impl.FOp{}) {
			like.Op = op
			mustBeOk(t, fmt.Sprint("Op ", op), m, rowCode(like), false)
			mustBeOk(t, fmt.Sprint("Op ", op, " alone"), m, onFullExits(like), false)
			mustBeOk(t, fmt.Sprint("Op ", op, " at the end"), m, onFullExits(fop(impl.FSafe, 0, 0, 0, 3), like), false)
		}
	}
}

// Ops come of any instruction that there is, also of one that nobody comes to.
func TestWhereOpsComeFrom(t *testing.T) {
	m := codeModule()
	for op := impl.FConst; op <= impl.FDeep; op++ {
		for _, f := range []int{0, 1, 2, -1, 3, 4, math.MinInt, math.MaxInt} {
			for _, p := range append(numbersFrom(-2, 14), 120, math.MinInt, math.MaxInt) {
				x := rowOp(op)
				x.F, x.P = f, p
				want := f == 0 && within(p, 0, 12) || f == 1 && within(p, 0, 4) || f == 2 && within(p, 0, 3)
				mustBeOk(t, fmt.Sprintf("Op %d of %d, %d", op, f, p), m, rowCode(x), want)
			}
		}
	}
}

// Each op of code is asked, the first and the last too.
func TestEachOpIsAsked(t *testing.T) {
	m := codeModule()
	for at := range fullCode().Ops {
		for name, do := range map[string]func(x *impl.FOp){
			"Op": func(x *impl.FOp) { x.Op = 30 },
			"D":  func(x *impl.FOp) { x.D = 9 },
			"A":  func(x *impl.FOp) { x.A = 99 },
			"B":  func(x *impl.FOp) { x.B = -1 },
			"X":  func(x *impl.FOp) { x.X = 4 },
			"F":  func(x *impl.FOp) { x.F = 3 },
			"P":  func(x *impl.FOp) { x.P = 13 },
			"V":  func(x *impl.FOp) { x.V = rec(0) },
		} {
			c := fullCode()
			do(&c.Ops[at])
			mustBeOk(t, fmt.Sprint(name, " of op ", at), m, c, false)
		}
	}
}

// An op that may leave has an exit, also where there is none at all.
func TestOpsWithoutExits(t *testing.T) {
	for op := impl.FConst; op <= impl.FDeep; op++ {
		x := rowOp(op)
		x.X = 0
		c := rowCode(x)
		c.Exits = nil
		c.Ops = []impl.FOp{c.Ops[1], c.Ops[1], x, c.Ops[1], c.Ops[1], c.Ops[5]}
		mustBeOk(t, fmt.Sprint("Op ", op), codeModule(), c, namedAs(op, "X") == "")
	}
}

// jumpBase has seven ops, of which the second and the fifth are FSafe.
func jumpBase() impl.Fast {
	safe, move, end := fop(impl.FSafe, 0, 0, 0, 3), fop(impl.FMove, 0, 1, 0, 0), fop(impl.FExit, 0, 0, 0, 1)
	return onFullExits(move, safe, move, end, safe, move, end)
}

func TestJumps(t *testing.T) {
	m := codeModule()
	for at := range 7 {
		for _, to := range append(numbersFrom(-3, 12), math.MinInt, math.MaxInt) {
			fine := within(to, at+1, 6) || to == 1 && at > 1 || to == 4 && at > 4
			c := jumpBase()
			c.Ops[at] = fop(impl.FJump, 0, to, 0, 0)
			mustBeOk(t, fmt.Sprintf("a jump from %d to %d", at, to), m, c, fine)
			c.Ops[at] = fop(impl.FIf, 0, 8, to, 2)
			mustBeOk(t, fmt.Sprintf("a branch from %d to %d", at, to), m, c, fine && at < 6)
		}
	}
	// To itself, and to one that goes on at the same op.
	mustBeOk(t, "a jump to itself alone", m, onFullExits(fop(impl.FJump, 0, 0, 0, 0)), false)
	mustBeOk(t, "a jump back and forth", m, onFullExits(fop(impl.FJump, 0, 1, 0, 0), fop(impl.FJump, 0, 0, 0, 0)), false)
	mustBeOk(t, "a loop", m, onFullExits(fop(impl.FSafe, 0, 0, 0, 3), fop(impl.FJump, 0, 0, 0, 0)), true)
	mustBeOk(t, "a loop without an FSafe", m, onFullExits(fop(impl.FMade, 0, 0, 0, 3), fop(impl.FJump, 0, 0, 0, 0)), false)
}

// Only FJump, FExit and FRet, behind which nobody goes on, can be the last; any Op can stand ahead of them.
func TestTheLastOp(t *testing.T) {
	m := codeModule()
	for op := impl.FConst; op <= impl.FDeep; op++ {
		x := rowOp(op)
		for _, name := range fieldNames {
			if namedAs(op, name) == "op" {
				*fieldOf(&x, name) = 0
			}
		}
		last := slices.Contains([]int{23, 26, 27}, op)
		mustBeOk(t, fmt.Sprintf("Op %d at the end", op), m, onFullExits(fop(impl.FSafe, 0, 0, 0, 3), x), last)
		mustBeOk(t, fmt.Sprintf("Op %d behind an end", op), m, onFullExits(fop(impl.FSafe, 0, 0, 0, 3), fop(impl.FRet, 0, 0, 0, 0), x), last)
		mustBeOk(t, fmt.Sprintf("Op %d ahead of an end", op), m, onFullExits(fop(impl.FSafe, 0, 0, 0, 3), x, fop(impl.FRet, 0, 0, 0, 0)), true)
		mustBeOk(t, fmt.Sprintf("Op %d alone", op), m, onFullExits(x), op == impl.FExit || op == impl.FRet)
	}
}

func TestHowManyOps(t *testing.T) {
	m := codeModule()
	long := func(n int, last impl.FOp) impl.Fast {
		return onFullExits(append(slices.Repeat([]impl.FOp{fop(impl.FMove, 0, 1, 0, 0)}, n-1), last)...)
	}
	ret := fop(impl.FRet, 0, 0, 0, 0)
	mustBeOk(t, "none", m, onFullExits(), false)
	mustBeOk(t, "none, and no list", m, impl.Fast{Entry: 1, Vals: 9, Nums: 5}, false)
	mustBeOk(t, "one", m, long(1, ret), true)
	mustBeOk(t, "MaxOps", m, long(1500, ret), true)
	mustBeOk(t, "one more", m, long(1501, ret), false)
	mustBeOk(t, "far more", m, long(20000, ret), false)
	mustBeOk(t, "MaxOps, and no end", m, long(1500, fop(impl.FMove, 0, 1, 0, 0)), false)
	mustBeOk(t, "MaxOps, the last of them wrong", m, long(1500, fop(impl.FRet, 0, 9, 0, 0)), false)
	for to, want := range map[int]bool{1: true, 1499: true, 1500: false, 0: false} {
		c := long(1500, ret)
		c.Ops[0] = fop(impl.FJump, 0, to, 0, 0)
		mustBeOk(t, fmt.Sprint("a jump to ", to, " of MaxOps"), m, c, want)
	}
}
