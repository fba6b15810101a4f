package tests

import (
	"encoding/binary"
	"math/rand"
	"slices"
	"strings"
	"testing"

	"loop.example/g00094/impl"
)

func ins(op int, a int) impl.Ins { return impl.Ins{Op: op, A: a} }

// sample has something of each kind that an A can name: 3 texts, 2 functions, locals, instructions.
func sample() impl.Module {
	return impl.Module{
		Texts: []string{"", "ab", " !#~"},
		Funcs: []impl.Func{
			{Params: 1, Locals: 4, Code: []impl.Ins{ins(impl.OpInt, -65), ins(impl.OpText, 2), ins(impl.OpJump, 4), ins(impl.OpNil, 0), ins(impl.OpReturn, 0)}},
			{Params: 0, Locals: 2, Code: []impl.Ins{ins(impl.OpFun, 1), ins(impl.OpStore, 1), ins(impl.OpReturn, 0)}},
		},
	}
}

// one has a single function without parameters or locals.
func one(code ...impl.Ins) impl.Module {
	return impl.Module{Funcs: []impl.Func{{Code: code}}}
}

// nils is code of n instructions.
func nils(n int) []impl.Ins {
	return slices.Repeat([]impl.Ins{ins(impl.OpNil, 0)}, n)
}

// manyFuncs is a module of n functions.
func manyFuncs(n int) impl.Module {
	m := impl.Module{}
	for range n {
		m.Funcs = append(m.Funcs, impl.Func{Code: nils(1)})
	}
	return m
}

// withTexts is a module of one function and these texts.
func withTexts(texts ...string) impl.Module {
	m := one(nils(1)...)
	m.Texts = texts
	return m
}

// withRoom is a module of one function with these Params and Locals.
func withRoom(params int, locals int) impl.Module {
	return impl.Module{Funcs: []impl.Func{{Params: params, Locals: locals, Code: nils(1)}}}
}

// greatest has the most bytes that a module can have.
func greatest() impl.Module {
	m := impl.Module{Texts: slices.Repeat([]string{strings.Repeat("~", impl.MaxText)}, impl.MaxTexts)}
	for range impl.MaxFuncs {
		code := slices.Repeat([]impl.Ins{ins(impl.OpInt, -impl.MaxNum), ins(impl.OpInt, impl.MaxNum)}, impl.MaxCode/2)
		m.Funcs = append(m.Funcs, impl.Func{Params: impl.MaxParams, Locals: impl.MaxLocals, Code: code})
	}
	return m
}

// limit is a module that meets a limit, and one that passes it by one.
type limit struct {
	name string
	at   impl.Module
	past impl.Module
}

func limitsOfModules() []limit {
	return []limit{
		{"fewest functions", manyFuncs(1), manyFuncs(0)},
		{"MaxFuncs", manyFuncs(impl.MaxFuncs), manyFuncs(impl.MaxFuncs + 1)},
		{"fewest instructions", one(nils(1)...), one()},
		{"MaxCode", one(nils(impl.MaxCode)...), one(nils(impl.MaxCode + 1)...)},
		{"MaxLocals", withRoom(0, impl.MaxLocals), withRoom(0, impl.MaxLocals+1)},
		{"MaxParams", withRoom(impl.MaxParams, impl.MaxLocals), withRoom(impl.MaxParams+1, impl.MaxLocals)},
		{"MaxTexts", withTexts(make([]string, impl.MaxTexts)...), withTexts(make([]string, impl.MaxTexts+1)...)},
		{"MaxText", withTexts("", strings.Repeat("x", impl.MaxText)), withTexts("", strings.Repeat("x", impl.MaxText+1))},
		{"MaxNum", one(ins(impl.OpInt, impl.MaxNum)), one(ins(impl.OpInt, impl.MaxNum+1))},
		{"-MaxNum", one(ins(impl.OpInt, -impl.MaxNum)), one(ins(impl.OpInt, -impl.MaxNum-1))},
		{"MaxFields of new", one(ins(impl.OpNew, impl.MaxFields)), one(ins(impl.OpNew, impl.MaxFields+1))},
		{"MaxFields of get", one(ins(impl.OpGet, impl.MaxFields-1)), one(ins(impl.OpGet, impl.MaxFields))},
		{"MaxFields of put", one(ins(impl.OpPut, impl.MaxFields-1)), one(ins(impl.OpPut, impl.MaxFields))},
		{"MaxParams of call", one(ins(impl.OpCall, impl.MaxParams)), one(ins(impl.OpCall, impl.MaxParams+1))},
	}
}

// tell is the library's own form of a number in groups of 7 bits.
func tell(n int) []byte { return binary.AppendVarint(nil, int64(n)) }

// piecesOf lists what is told of a module, ok or not: numbers, and texts behind their lengths.
func piecesOf(m impl.Module) [][]byte {
	out := [][]byte{tell(len(m.Texts))}
	for _, text := range m.Texts {
		out = append(out, tell(len(text)), []byte(text))
	}
	out = append(out, tell(len(m.Funcs)))
	for _, f := range m.Funcs {
		out = append(out, tell(f.Params), tell(f.Locals), tell(len(f.Code)))
		for _, x := range f.Code {
			out = append(out, tell(x.Op), tell(x.A))
		}
	}
	return out
}

// told is what Save would give if it did not ask whether the module is ok.
func told(m impl.Module) []byte { return slices.Concat(piecesOf(m)...) }

// sameModule holds an empty list and nil for the same.
func sameModule(a impl.Module, b impl.Module) bool {
	return slices.Equal(a.Texts, b.Texts) && slices.EqualFunc(a.Funcs, b.Funcs, func(f impl.Func, g impl.Func) bool {
		return f.Params == g.Params && f.Locals == g.Locals && slices.Equal(f.Code, g.Code)
	})
}

func cloneModule(m impl.Module) impl.Module {
	out := impl.Module{Texts: slices.Clone(m.Texts), Funcs: slices.Clone(m.Funcs)}
	for i := range out.Funcs {
		out.Funcs[i].Code = slices.Clone(out.Funcs[i].Code)
	}
	return out
}

// row is a line of the table of Ops, for one function of one module.
type row struct {
	op    int
	least int
	most  int
}

func tableOf(m impl.Module, f int) []row {
	fn := m.Funcs[f]
	rows := []row{
		{1, -1000000000, 1000000000}, {2, 0, 1}, {3, 0, len(m.Texts) - 1}, {4, 0, 0}, {5, 0, len(m.Funcs) - 1},
		{6, 0, fn.Locals - 1}, {7, 0, fn.Locals - 1}, {17, 0, len(fn.Code) - 1}, {18, 0, len(fn.Code) - 1}, {19, 0, len(fn.Code) - 1},
		{20, 0, 6}, {21, 0, 5}, {22, 0, 5}, {23, 0, 6}, {24, 0, len(m.Funcs) - 1},
	}
	for _, op := range []int{8, 9, 10, 11, 12, 13, 14, 15, 16, 25, 26} {
		rows = append(rows, row{op, 0, 0})
	}
	return rows
}

// randomModule is a module that is ok, each time another one.
func randomModule(r *rand.Rand) impl.Module {
	m := impl.Module{}
	for range r.Intn(4) {
		text := ""
		for range r.Intn(8) {
			text += string(rune(35 + r.Intn(92)))
		}
		m.Texts = append(m.Texts, text)
	}
	for range 1 + r.Intn(4) {
		params := r.Intn(7)
		m.Funcs = append(m.Funcs, impl.Func{Params: params, Locals: params + r.Intn(13-params), Code: nils(1 + r.Intn(9))})
	}
	for f := range m.Funcs {
		rows := tableOf(m, f)
		for i := range m.Funcs[f].Code {
			if x := rows[r.Intn(len(rows))]; x.least <= x.most {
				m.Funcs[f].Code[i] = ins(x.op, (x.least+r.Intn(x.most-x.least+1))>>r.Intn(3))
				if x.op == impl.OpInt {
					// Numbers of every size, so that each count of groups comes about.
					m.Funcs[f].Code[i].A >>= r.Intn(31)
				}
			}
		}
	}
	return m
}

// manyModules are ok: ordinary ones, the greatest, and random ones.
func manyModules() []impl.Module {
	r := rand.New(rand.NewSource(1))
	modules := append(someModules(), greatest())
	for range 3000 {
		modules = append(modules, randomModule(r))
	}
	return modules
}

// changed is the sample with another instruction somewhere, and whether it is ok so.
type changed struct {
	m  impl.Module
	x  impl.Ins
	ok bool
}

// changedSamples have at each place each Op, with As at both ends of its row and one past them.
func changedSamples() []changed {
	var out []changed
	for f := range sample().Funcs {
		for at := range sample().Funcs[f].Code {
			for _, x := range tableOf(sample(), f) {
				for _, a := range []int{x.least - 1, x.least, x.most, x.most + 1} {
					m := sample()
					m.Funcs[f].Code[at] = ins(x.op, a)
					out = append(out, changed{m, ins(x.op, a), a >= x.least && a <= x.most})
				}
			}
		}
	}
	return out
}

func mustBeZero(t *testing.T, name string, m impl.Module, ok bool) {
	t.Helper()
	if ok || m.Texts != nil || m.Funcs != nil {
		t.Errorf("%s: loaded as %v, %v", name, m, ok)
	}
}
