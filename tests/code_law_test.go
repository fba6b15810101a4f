package tests

import (
	"fmt"
	"slices"
	"strings"
	"testing"

	"loop.example/g00094/impl"
)

func constSrc(v impl.Value) impl.Src { return impl.Src{Kind: impl.SrConst, V: v} }
func valSrc(n int) impl.Src          { return impl.Src{Kind: impl.SrVal, N: n} }
func numSrc(n int) impl.Src          { return impl.Src{Kind: impl.SrNum, N: n} }
func recSrc(n int) impl.Src          { return impl.Src{Kind: impl.SrRec, N: n} }

func srcs(list ...impl.Src) []impl.Src { return list }

// nilSrcs are n sources of nil.
func nilSrcs(n int) []impl.Src { return slices.Repeat(srcs(constSrc(impl.Value{})), n) }

func exFrame(f int, pc int, locals []impl.Src, stack []impl.Src) impl.ExFrame {
	return impl.ExFrame{Func: f, Pc: pc, Locals: locals, Stack: stack}
}

func exFrames(list ...impl.ExFrame) []impl.ExFrame { return list }

func exRec(fields ...impl.Src) impl.ExRec { return impl.ExRec{Fields: fields} }

func exRecs(list ...impl.ExRec) []impl.ExRec { return list }

// opRows is the document's table of ops: which fields each Op names, and as what.
var opRows = [30]string{
	1:  "D=val V=any",
	2:  "D=val A=val",
	3:  "D=num V=int",
	4:  "D=num A=num",
	5:  "D=num A=val X=exit",
	6:  "D=val A=num",
	7:  "D=val A=val B=val X=exit",
	8:  "D=val A=val B=val X=exit",
	9:  "D=val A=val B=val X=exit",
	10: "D=val A=val B=val X=exit",
	11: "D=val A=val B=val",
	12: "D=val A=val X=exit",
	13: "D=num A=num B=num X=exit",
	14: "D=num A=num B=num X=exit",
	15: "D=num A=num B=num X=exit",
	16: "D=val A=num B=num",
	17: "D=val A=size X=exit",
	18: "D=val A=val B=field X=exit",
	19: "D=field A=val B=val X=exit",
	20: "X=exit",
	21: "D=val A=size",
	22: "A=val B=fun X=exit",
	23: "A=op",
	24: "A=val B=op X=exit",
	25: "X=exit",
	26: "X=exit",
	27: "A=val",
	28: "A=val X=exit",
	29: "A=deep X=exit",
}

// fieldNames are the fields of an op that hang on its Op, V apart.
var fieldNames = []string{"D", "A", "B", "X"}

func fieldOf(x *impl.FOp, name string) *int {
	switch name {
	case "D":
		return &x.D
	case "A":
		return &x.A
	case "B":
		return &x.B
	}
	return &x.X
}

// namedAs is what an Op names by a field, the empty text where it does not name it.
func namedAs(op int, name string) string {
	for word := range strings.FieldsSeq(opRows[op]) {
		if field, what, _ := strings.Cut(word, "="); field == name {
			return what
		}
	}
	return ""
}

// numberByLaw tells whether n can be what a field of the op at this place is named as.
func numberByLaw(m impl.Module, c impl.Fast, at int, what string, n int) bool {
	switch what {
	case "val":
		return within(n, 0, c.Vals-1)
	case "num":
		return within(n, 0, c.Nums-1)
	case "exit":
		return within(n, 0, len(c.Exits)-1)
	case "size":
		return within(n, 0, 6)
	case "field":
		return within(n, 0, 5)
	case "fun":
		return within(n, 0, len(m.Funcs)-1)
	case "deep":
		return within(n, 1, 3)
	case "op":
		return within(n, 0, len(c.Ops)-1) && (n > at || c.Ops[n].Op == 25)
	}
	return n == 0
}

func constantByLaw(m impl.Module, what string, v impl.Value) bool {
	switch what {
	case "any":
		return okByLaw(m, v, 0)
	case "int":
		return okByLaw(m, v, 0) && v == num(v.N)
	}
	return v == impl.Value{}
}

// opByLaw asks of one op of code, whose module is good, what the table says of it.
func opByLaw(m impl.Module, c impl.Fast, at int) bool {
	x := c.Ops[at]
	if !within(x.Op, 1, 29) || opAt(m, x.F, x.P) == 0 || !constantByLaw(m, namedAs(x.Op, "V"), x.V) {
		return false
	}
	for _, name := range fieldNames {
		if !numberByLaw(m, c, at, namedAs(x.Op, name), *fieldOf(&x, name)) {
			return false
		}
	}
	return true
}

func sourceByLaw(m impl.Module, c impl.Fast, e impl.Exit, s impl.Src) bool {
	switch s {
	case constSrc(s.V):
		return okByLaw(m, s.V, 0)
	case valSrc(s.N):
		return within(s.N, 0, c.Vals-1)
	case numSrc(s.N):
		return within(s.N, 0, c.Nums-1)
	case recSrc(s.N):
		return within(s.N, 0, len(e.Recs)-1)
	}
	return false
}

// sourceLists are all lists of sources of an exit, as they lie there.
func sourceLists(e impl.Exit) [][]impl.Src {
	var out [][]impl.Src
	for _, f := range e.Frames {
		out = append(out, f.Locals, f.Stack)
	}
	for _, r := range e.Recs {
		out = append(out, r.Fields)
	}
	return out
}

// nilFrames are the frames that an exit tells, with nil for each source.
func nilFrames(e impl.Exit) []impl.Frame {
	var out []impl.Frame
	for _, f := range e.Frames {
		out = append(out, frame(f.Func, f.Pc, make([]impl.Value, len(f.Locals)), make([]impl.Value, len(f.Stack))))
	}
	return out
}

// exitByLaw asks of one exit of code, whose module is good, what the document's words say of it.
func exitByLaw(m impl.Module, c impl.Fast, e impl.Exit) bool {
	if !within(e.Kind, 1, 4) || !within(len(e.Frames), 1, 4) || len(e.Recs) > 60 || e.Frames[0].Func != c.Func {
		return false
	}
	if e.Kind == 2 && !specOkByLaw(m, e.Spec) || e.Kind != 2 && e.Spec != (impl.Spec{}) {
		return false
	}
	for _, r := range e.Recs {
		if len(r.Fields) > 6 {
			return false
		}
	}
	for _, s := range slices.Concat(sourceLists(e)...) {
		if !sourceByLaw(m, c, e, s) {
			return false
		}
	}
	return framesByLaw(m, nilFrames(e))
}

// fastOkByLaw is FastOk by the document's words.
func fastOkByLaw(m impl.Module, c impl.Fast) bool {
	if !slices.Contains(flowByLaw(m, c.Func).entries, c.Entry) {
		return false
	}
	least := m.Funcs[c.Func].Locals + depthsByLaw(m, c.Func)[c.Entry]
	if !within(c.Vals, least, 400) || !within(c.Nums, 0, 400) || !within(len(c.Ops), 1, 1500) || len(c.Exits) > 1500 {
		return false
	}
	for at := range c.Ops {
		if !opByLaw(m, c, at) {
			return false
		}
	}
	for _, e := range c.Exits {
		if !exitByLaw(m, c, e) {
			return false
		}
	}
	return slices.Contains([]int{23, 26, 27}, c.Ops[len(c.Ops)-1].Op)
}

// specsOfByLaw asks of each guess that there can be, in order, whether an exit of code that is ok has it.
func specsOfByLaw(m impl.Module, c impl.Fast) []impl.Spec {
	var out []impl.Spec
	for f, fn := range m.Funcs {
		for pc := range fn.Code {
			for target := range m.Funcs {
				for kind := 1; kind <= 2; kind++ {
					s := spec(f, pc, kind, target)
					if slices.ContainsFunc(c.Exits, func(e impl.Exit) bool { return e.Kind == 2 && e.Spec == s }) {
						out = append(out, s)
					}
				}
			}
		}
	}
	return out
}

// laidOfByLaw asks of each function whether an exit of code that is ok has a frame of it above the first.
func laidOfByLaw(m impl.Module, c impl.Fast) []int {
	var out []int
	for f := range m.Funcs {
		isOf := func(x impl.ExFrame) bool { return x.Func == f }
		if slices.ContainsFunc(c.Exits, func(e impl.Exit) bool { return slices.ContainsFunc(e.Frames[1:], isOf) }) {
			out = append(out, f)
		}
	}
	return out
}

func sourceTextByLaw(s impl.Src) string {
	return map[int]string{
		1: "=" + textByLaw(s.V, nil), 2: fmt.Sprint("v", s.N), 3: fmt.Sprint("n", s.N), 4: fmt.Sprint("r", s.N),
	}[s.Kind]
}

// listTextByLaw has a blank ahead of each source.
func listTextByLaw(list []impl.Src) string {
	out := ""
	for _, s := range list {
		out += " " + sourceTextByLaw(s)
	}
	return out
}

// fastTextByLaw is FastText of code that is ok.
func fastTextByLaw(c impl.Fast) string {
	var out strings.Builder
	fmt.Fprintf(&out, "fast %d %d %d %d\n", c.Func, c.Entry, c.Vals, c.Nums)
	for at, x := range c.Ops {
		word := textByLaw(x.V, nil)
		if word == "nil" {
			word = "-"
		}
		fmt.Fprintf(&out, "%d %d %d %d %d %d %d %d %s\n", at, x.Op, x.D, x.A, x.B, x.X, x.F, x.P, word)
	}
	for at, e := range c.Exits {
		guess := map[int]string{0: "-", 1: fmt.Sprintf("int %d %d", e.Spec.Func, e.Spec.Pc), 2: fmt.Sprintf("fun %d %d %d", e.Spec.Func, e.Spec.Pc, e.Spec.Target)}
		fmt.Fprintf(&out, "exit %d %d %s", at, e.Kind, guess[e.Spec.Kind])
		for _, f := range e.Frames {
			fmt.Fprintf(&out, " / %d %d%s |%s", f.Func, f.Pc, listTextByLaw(f.Locals), listTextByLaw(f.Stack))
		}
		for _, r := range e.Recs {
			out.WriteString(" *" + listTextByLaw(r.Fields))
		}
		out.WriteString("\n")
	}
	return out.String()
}

// specBefore tells whether a comes ahead of b: by Func, then Pc, then Target, then Kind.
func specBefore(a impl.Spec, b impl.Spec) bool {
	return slices.Compare([]int{a.Func, a.Pc, a.Target, a.Kind}, []int{b.Func, b.Pc, b.Target, b.Kind}) < 0
}

// checkTold asks promise 32 of code that is ok from both sides: what it tells comes of its exits, rises, and leaves
// out nothing.
func checkTold(t *testing.T, m impl.Module, c impl.Fast) {
	t.Helper()
	guesses, laid := impl.SpecsOf(m, c), impl.LaidOf(m, c)
	for i := 1; i < len(guesses); i++ {
		if !specBefore(guesses[i-1], guesses[i]) {
			t.Fatalf("guesses are not in order: %v", guesses)
		}
	}
	if !rises(laid) {
		t.Fatalf("functions laid in are not in order: %v", laid)
	}
	var ofExits []impl.Spec
	var above []int
	for _, e := range c.Exits {
		if e.Kind == impl.ExGuard {
			ofExits = append(ofExits, e.Spec)
		}
		for _, f := range e.Frames[1:] {
			above = append(above, f.Func)
		}
	}
	for _, s := range ofExits {
		if !slices.Contains(guesses, s) {
			t.Fatalf("%v is left out of %v", s, guesses)
		}
	}
	for _, f := range above {
		if !slices.Contains(laid, f) {
			t.Fatalf("function %d is left out of %v", f, laid)
		}
	}
	if slices.ContainsFunc(guesses, func(s impl.Spec) bool { return !slices.Contains(ofExits, s) }) {
		t.Fatalf("%v is more than %v", guesses, ofExits)
	}
	if slices.ContainsFunc(laid, func(f int) bool { return !slices.Contains(above, f) }) {
		t.Fatalf("%v is more than %v", laid, above)
	}
}

// checkCode holds all that is told of code, ok or not, against the law, asks promise 32 of it, and tells whether it is
// ok.
func checkCode(t *testing.T, m impl.Module, c impl.Fast) bool {
	t.Helper()
	ok := fastOkByLaw(m, c)
	if got := impl.FastOk(m, c); got != ok {
		t.Fatalf("FastOk of %+v\nof %v: %v", c, m, got)
	}
	guesses, laid, shown := impl.SpecsOf(m, c), impl.LaidOf(m, c), impl.FastText(m, c)
	if !ok {
		if len(guesses) != 0 || len(laid) != 0 || shown != "" {
			t.Fatalf("code that is not ok tells %v, %v, %q:\n%+v", guesses, laid, shown, c)
		}
		return false
	}
	if want := specsOfByLaw(m, c); !slices.Equal(guesses, want) {
		t.Fatalf("SpecsOf %+v: %v, not %v", c, guesses, want)
	}
	if want := laidOfByLaw(m, c); !slices.Equal(laid, want) {
		t.Fatalf("LaidOf %+v: %v, not %v", c, laid, want)
	}
	if want := fastTextByLaw(c); shown != want {
		t.Fatalf("FastText of %+v:\n%q, not\n%q", c, shown, want)
	}
	checkTold(t, m, c)
	return true
}

// mustBeOk holds code and its numbers against the law, and asks whether it is ok.
func mustBeOk(t *testing.T, name string, m impl.Module, c impl.Fast, want bool) {
	t.Helper()
	if got := checkCode(t, m, c); got != want {
		t.Errorf("%s: %v of %+v", name, got, c)
	}
	codes().checkBothWays(t, m, c, want)
}

func sameExFrame(a impl.ExFrame, b impl.ExFrame) bool {
	return a.Func == b.Func && a.Pc == b.Pc && slices.Equal(a.Locals, b.Locals) && slices.Equal(a.Stack, b.Stack)
}

func sameExRec(a impl.ExRec, b impl.ExRec) bool { return slices.Equal(a.Fields, b.Fields) }

func sameExit(a impl.Exit, b impl.Exit) bool {
	return a.Kind == b.Kind && a.Spec == b.Spec && slices.EqualFunc(a.Frames, b.Frames, sameExFrame) && slices.EqualFunc(a.Recs, b.Recs, sameExRec)
}

// sameFast holds an empty list and nil for the same.
func sameFast(a impl.Fast, b impl.Fast) bool {
	return a.Func == b.Func && a.Entry == b.Entry && a.Vals == b.Vals && a.Nums == b.Nums && slices.Equal(a.Ops, b.Ops) &&
		slices.EqualFunc(a.Exits, b.Exits, sameExit)
}

func cloneExit(e impl.Exit) impl.Exit {
	e.Frames, e.Recs = slices.Clone(e.Frames), slices.Clone(e.Recs)
	for i, f := range e.Frames {
		e.Frames[i].Locals, e.Frames[i].Stack = slices.Clone(f.Locals), slices.Clone(f.Stack)
	}
	for i, r := range e.Recs {
		e.Recs[i].Fields = slices.Clone(r.Fields)
	}
	return e
}

func cloneFast(c impl.Fast) impl.Fast {
	c.Ops, c.Exits = slices.Clone(c.Ops), slices.Clone(c.Exits)
	for i, e := range c.Exits {
		c.Exits[i] = cloneExit(e)
	}
	return c
}
