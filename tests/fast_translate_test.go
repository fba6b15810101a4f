package tests

import (
	"slices"

	"loop.example/g00094/impl"
)

// style is what a translator does beside what it must.
type style struct {
	// bare has sums and the like done with bare numbers, under guards.
	bare bool
	// lay tells how deep functions are laid in.
	lay int
	// apart has records counted first and made then.
	apart bool
}

// someStyles are all ways to translate.
func someStyles() []style {
	return []style{{}, {bare: true}, {lay: 1}, {lay: 3}, {apart: true}, {bare: true, lay: 2, apart: true}, {bare: true, lay: 3, apart: true}}
}

// level is a frame that a translator is at work in: its position p is in the register first + p for values.
type level struct {
	f     int
	pc    int
	high  int
	first int
}

// translator makes code of a function, instruction by instruction: behind each of them all values stand where they
// would in the frames.
type translator struct {
	m      impl.Module
	how    style
	c      impl.Fast
	levels []level
	places []int
	jumps  []int
}

// Bare registers of a translator: the two that are opened, and what comes of them.
const firstBare, secondBare, thirdBare = 0, 1, 2

// translated is code of function f for an entry; ok is false where it would have too many ops or registers.
func translated(m impl.Module, f int, entry int, how style) (impl.Fast, bool) {
	w := translator{m: m, how: how, c: impl.Fast{Func: f, Entry: entry, Vals: 1, Nums: 3}, places: make([]int, len(m.Funcs[f].Code))}
	heights, heads := impl.DepthsOf(m, f), impl.HeadsOf(m, f)
	if entry != 0 {
		w.jumps = append(w.jumps, 0)
		w.op(impl.FOp{Op: impl.FJump, A: entry})
	}
	for pc, high := range heights {
		if high == -1 {
			continue
		}
		w.levels = []level{{f, pc, high, 0}}
		w.places[pc] = len(w.c.Ops)
		if slices.Contains(heads, pc) {
			w.leaving(impl.FOp{Op: impl.FSafe}, impl.ExPause)
		}
		w.instruction(m.Funcs[f].Code[pc])
	}
	for _, at := range w.jumps {
		x := &w.c.Ops[at]
		if x.Op == impl.FJump {
			x.A = w.places[x.A]
		} else {
			x.B = w.places[x.B]
		}
	}
	// A register more, for what two values are changed about through.
	w.c.Vals++
	return w.c, len(w.c.Ops) <= impl.MaxOps && len(w.c.Exits) <= impl.MaxOps && w.c.Vals <= impl.MaxRegs
}

func (w *translator) last() *level { return &w.levels[len(w.levels)-1] }

// at is the register of what lies so far below the top, from 1 on.
func (w *translator) at(depth int) int {
	l := w.last()
	return l.first + w.m.Funcs[l.f].Locals + l.high - depth
}

// spareVal is a register that no position has.
func (w *translator) spareVal() int {
	l := w.last()
	return l.first + w.m.Funcs[l.f].Locals + impl.MaxStack
}

func (w *translator) op(x impl.FOp) {
	if len(w.levels) > 0 {
		x.F, x.P = w.last().f, w.last().pc
		w.c.Vals = max(w.c.Vals, w.spareVal())
	}
	w.c.Ops = append(w.c.Ops, x)
}

// leaving is an op whose exit tells the frames as they are ahead of the instruction.
func (w *translator) leaving(x impl.FOp, kind int, guess ...impl.Spec) {
	e := impl.Exit{Kind: kind}
	for _, s := range guess {
		e.Spec = s
	}
	for _, l := range w.levels {
		f := exFrame(l.f, l.pc, nil, nil)
		locals := w.m.Funcs[l.f].Locals
		for p := range locals + l.high {
			if p < locals {
				f.Locals = append(f.Locals, valSrc(l.first+p))
			} else {
				f.Stack = append(f.Stack, valSrc(l.first+p))
			}
		}
		e.Frames = append(e.Frames, f)
	}
	x.X = len(w.c.Exits)
	w.c.Exits = append(w.c.Exits, e)
	w.op(x)
}

// opened lets the last exit tell the values on top as the bare registers that they were opened into.
func (w *translator) opened(list ...impl.Src) {
	e := &w.c.Exits[len(w.c.Exits)-1]
	stack := e.Frames[len(e.Frames)-1].Stack
	for i, s := range list {
		stack[len(stack)-2+i] = s
	}
}

func (w *translator) instruction(x impl.Ins) {
	v := map[int]impl.Value{impl.OpInt: num(x.A), impl.OpBool: truth(x.A), impl.OpFun: fun(x.A)}[x.Op]
	switch x.Op {
	case impl.OpInt, impl.OpBool, impl.OpFun, impl.OpNil:
		w.op(impl.FOp{Op: impl.FConst, D: w.at(0), V: v})
	case impl.OpText:
		w.op(impl.FOp{Op: impl.FConst, D: w.at(0), V: text(w.m.Texts[x.A])})
	case impl.OpLoad:
		w.op(impl.FOp{Op: impl.FMove, D: w.at(0), A: w.last().first + x.A})
	case impl.OpStore:
		w.op(impl.FOp{Op: impl.FMove, D: w.last().first + x.A, A: w.at(1)})
	case impl.OpDup:
		w.op(impl.FOp{Op: impl.FMove, D: w.at(0), A: w.at(1)})
	case impl.OpSwap:
		w.op(impl.FOp{Op: impl.FMove, D: w.spareVal(), A: w.at(1)})
		w.op(impl.FOp{Op: impl.FMove, D: w.at(1), A: w.at(2)})
		w.op(impl.FOp{Op: impl.FMove, D: w.at(2), A: w.spareVal()})
	case impl.OpAdd, impl.OpSub, impl.OpMul, impl.OpLess:
		w.two(x)
	case impl.OpSame:
		w.op(impl.FOp{Op: impl.FSame, D: w.at(2), A: w.at(2), B: w.at(1)})
	case impl.OpNot:
		w.leaving(impl.FOp{Op: impl.FNot, D: w.at(1), A: w.at(1)}, impl.ExTrap)
	case impl.OpPrint:
		w.leaving(impl.FOp{Op: impl.FPrint, A: w.at(1)}, impl.ExTrap)
	case impl.OpNew, impl.OpGet, impl.OpPut:
		w.record(x)
	case impl.OpJump, impl.OpIf, impl.OpIfNot:
		w.jump(x)
	case impl.OpCall, impl.OpInvoke:
		w.call(x)
	case impl.OpReturn:
		w.answer()
	}
}

// two works two values out, as values or as bare numbers.
func (w *translator) two(x impl.Ins) {
	number := x.Op - impl.OpAdd
	if !w.how.bare {
		w.leaving(impl.FOp{Op: impl.FAdd + number, D: w.at(2), A: w.at(2), B: w.at(1)}, impl.ExTrap)
		return
	}
	guess := spec(w.last().f, w.last().pc, impl.SpInt, 0)
	w.leaving(impl.FOp{Op: impl.FOpen, D: firstBare, A: w.at(2)}, impl.ExGuard, guess)
	w.leaving(impl.FOp{Op: impl.FOpen, D: secondBare, A: w.at(1)}, impl.ExGuard, guess)
	w.opened(numSrc(firstBare))
	if x.Op == impl.OpLess {
		w.op(impl.FOp{Op: impl.FLessN, D: w.at(2), A: firstBare, B: secondBare})
		return
	}
	w.leaving(impl.FOp{Op: impl.FAddN + number, D: thirdBare, A: firstBare, B: secondBare}, impl.ExTrap)
	w.opened(numSrc(firstBare), numSrc(secondBare))
	w.op(impl.FOp{Op: impl.FBox, D: w.at(2), A: thirdBare})
}

func (w *translator) record(x impl.Ins) {
	switch {
	case x.Op == impl.OpGet:
		w.leaving(impl.FOp{Op: impl.FGet, D: w.at(1), A: w.at(1), B: x.A}, impl.ExTrap)
	case x.Op == impl.OpPut:
		w.leaving(impl.FOp{Op: impl.FPut, D: x.A, A: w.at(2), B: w.at(1)}, impl.ExTrap)
	case w.how.apart:
		w.leaving(impl.FOp{Op: impl.FMade}, impl.ExTrap)
		w.op(impl.FOp{Op: impl.FMake, D: w.at(0), A: x.A})
	default:
		w.leaving(impl.FOp{Op: impl.FNew, D: w.at(0), A: x.A}, impl.ExTrap)
	}
}

func (w *translator) jump(x impl.Ins) {
	if x.Op == impl.OpJump {
		w.jumps = append(w.jumps, len(w.c.Ops))
		w.op(impl.FOp{Op: impl.FJump, A: x.A})
		return
	}
	from := w.at(1)
	if x.Op == impl.OpIfNot {
		from = w.spareVal()
		w.leaving(impl.FOp{Op: impl.FNot, D: from, A: w.at(1)}, impl.ExTrap)
	}
	w.jumps = append(w.jumps, len(w.c.Ops))
	w.leaving(impl.FOp{Op: impl.FIf, A: from, B: x.A}, impl.ExTrap)
}

// call lays a function in where it is straight, and leaves otherwise.
func (w *translator) call(x impl.Ins) {
	target, takes := x.A, 0
	if x.Op == impl.OpCall {
		// Any function that takes so many values is a guess.
		target = slices.IndexFunc(w.m.Funcs, func(f impl.Func) bool { return f.Params == x.A })
		takes = 1
	}
	if target == -1 || len(w.levels) > w.how.lay || !impl.Straight(w.m, target) {
		w.leaving(impl.FOp{Op: impl.FExit}, impl.ExCall)
		return
	}
	fn := w.m.Funcs[target]
	takes += fn.Params
	if x.Op == impl.OpCall {
		guess := spec(w.last().f, w.last().pc, impl.SpFun, target)
		w.leaving(impl.FOp{Op: impl.FIsFun, A: w.at(takes), B: target}, impl.ExGuard, guess)
	}
	w.leaving(impl.FOp{Op: impl.FDeep, A: len(w.levels)}, impl.ExTrap)
	first := w.spareVal() + 1
	for i := range fn.Locals {
		if i < fn.Params {
			w.op(impl.FOp{Op: impl.FMove, D: first + i, A: w.at(fn.Params - i)})
		} else {
			w.op(impl.FOp{Op: impl.FConst, D: first + i})
		}
	}
	w.last().high -= takes
	w.last().pc++
	w.levels = append(w.levels, level{target, 0, 0, first})
	w.laid(fn.Code, impl.DepthsOf(w.m, target))
}

// laid does the instructions of a function that is laid in, up to its answer.
func (w *translator) laid(code []impl.Ins, heights []int) {
	deep := len(w.levels)
	for pc, x := range code {
		w.last().pc, w.last().high = pc, heights[pc]
		w.instruction(x)
		if x.Op == impl.OpReturn || w.c.Ops[len(w.c.Ops)-1].Op == impl.FExit {
			break
		}
	}
	w.levels = w.levels[:deep-1]
}

// answer lays what a function that was laid in answers on the stack below, where nothing stands in its place.
func (w *translator) answer() {
	if len(w.levels) == 1 {
		w.op(impl.FOp{Op: impl.FRet, A: w.at(1)})
		return
	}
	from := w.at(1)
	below := w.levels[len(w.levels)-2]
	w.op(impl.FOp{Op: impl.FMove, D: below.first + w.m.Funcs[below.f].Locals + below.high, A: from})
}

// allTranslated is code for each entry of each function.
func allTranslated(m impl.Module, how style) []impl.Fast {
	var out []impl.Fast
	for f := range m.Funcs {
		for _, entry := range impl.EntriesOf(m, f) {
			if c, ok := translated(m, f, entry, how); ok {
				out = append(out, c)
			}
		}
	}
	return out
}
