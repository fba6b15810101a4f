package tests

import (
	"bytes"
	"slices"
	"strings"
	"testing"
	"unsafe"

	"loop.example/g00094/impl"
)

const spare = "spare room"

// roomy is m with spare room behind each list, in which lies what would make it another module.
func roomy(m impl.Module) impl.Module {
	out := impl.Module{
		Texts: append(slices.Clone(m.Texts), spare, "\"")[:len(m.Texts)],
		Funcs: append(slices.Clone(m.Funcs), impl.Func{Params: -1}, impl.Func{})[:len(m.Funcs)],
	}
	for i, f := range m.Funcs {
		out.Funcs[i].Code = append(slices.Clone(f.Code), ins(-1, -1), ins(99, 99))[:len(f.Code)]
	}
	return out
}

// untouched tells whether m and the spare room behind its lists are as roomy made them.
func untouched(m impl.Module, was impl.Module) bool {
	n := len(was.Texts)
	if !sameModule(m, was) || m.Texts[:n+2][n] != spare || m.Texts[:n+2][n+1] != "\"" {
		return false
	}
	n = len(was.Funcs)
	if m.Funcs[:n+2][n].Params != -1 || m.Funcs[:n+2][n+1].Code != nil {
		return false
	}
	for _, f := range m.Funcs {
		n = len(f.Code)
		if f.Code[:n+2][n] != ins(-1, -1) || f.Code[:n+2][n+1] != ins(99, 99) {
			return false
		}
	}
	return true
}

func TestModulesAreNotWrittenInto(t *testing.T) {
	modules := append(someModules(), several(), one(dropIns), one(nilIns))
	for _, m := range wrongModules() {
		modules = append(modules, m)
	}
	for _, was := range modules {
		m := roomy(was)
		for op := range 28 {
			for _, a := range []int{-1, 0, len(was.Texts), len(was.Funcs)} {
				if impl.InsOk(m, 0, ins(op, a)) != impl.InsOk(cloneModule(was), 0, ins(op, a)) {
					t.Errorf("InsOk of %d, %d reads behind a list of %v", op, a, was)
				}
				takes, lays := usesOf(cloneModule(was), ins(op, a))
				checkUses(t, m, ins(op, a), takes, lays)
			}
		}
		if impl.ModuleOk(m) != impl.ModuleOk(cloneModule(was)) {
			t.Errorf("ModuleOk reads behind a list of %v", was)
		}
		if !bytes.Equal(impl.Save(m), impl.Save(cloneModule(was))) {
			t.Errorf("Save reads behind a list of %v", was)
		}
		if impl.ShowModule(m) != impl.ShowModule(cloneModule(was)) {
			t.Errorf("ShowModule reads behind a list of %v", was)
		}
		if impl.Verify(m) != impl.Verify(cloneModule(was)) {
			t.Errorf("Verify reads behind a list of %v", was)
		}
		for f := -1; f <= len(was.Funcs); f++ {
			if !slices.Equal(impl.DepthsOf(m, f), impl.DepthsOf(cloneModule(was), f)) {
				t.Errorf("DepthsOf reads behind a list of %v", was)
			}
		}
		for _, v := range []impl.Value{{}, fun(0), fun(len(was.Funcs) - 1), fun(len(was.Funcs)), text("a"), rec(0)} {
			if impl.ValueOk(m, v, 1) != impl.ValueOk(cloneModule(was), v, 1) {
				t.Errorf("ValueOk of %v reads behind a list of %v", v, was)
			}
		}
		if !untouched(m, was) {
			t.Errorf("%v was written into", was)
		}
	}
}

func TestBytesAreNotWrittenInto(t *testing.T) {
	inputs := [][]byte{nil, {128}, {0, 0}}
	for _, m := range someModules() {
		b := told(m)
		inputs = append(inputs, b, b[:len(b)-1], append(slices.Clone(b), 0))
	}
	for _, was := range inputs {
		wide := append(slices.Clone(was), 0, 50, 0, 7)
		b := wide[:len(was)]
		m, ok := impl.Load(b)
		x, okX := impl.Load(slices.Clip(slices.Clone(was)))
		if ok != okX || !sameModule(m, x) {
			t.Errorf("Load reads behind %v", was)
		}
		if !bytes.Equal(wide, append(slices.Clone(was), 0, 50, 0, 7)) {
			t.Errorf("Load writes into %v, or behind it", was)
		}
	}
}

func TestWhatIsLoadedIsNewMemory(t *testing.T) {
	for _, was := range someModules() {
		b := impl.Save(was)
		m, _ := impl.Load(b)
		clear(b)
		if !sameModule(m, was) {
			t.Errorf("%v hangs on the bytes it was loaded from", was)
		}
	}
}

// liesIn tells whether the bytes of x are among those of whole. A string cannot be written into, so where its
// bytes lie is asked.
func liesIn(x string, whole string) bool {
	first := uintptr(unsafe.Pointer(unsafe.StringData(whole)))
	at := uintptr(unsafe.Pointer(unsafe.StringData(x)))
	return x != "" && at >= first && at < first+uintptr(len(whole))
}

func TestWhatIsReadIsNewMemory(t *testing.T) {
	for _, was := range append(someModules(), everyOp(), greatest()) {
		text := shown(was)
		m, _ := impl.ReadModule(text)
		for _, x := range m.Texts {
			if liesIn(x, text) {
				t.Errorf("%q lies in the text it was read from", x)
			}
		}
	}
}

// makers are the ways in which a module that is answered comes about.
func makers() map[string]func(impl.Module) (impl.Module, bool) {
	return map[string]func(impl.Module) (impl.Module, bool){
		"Load":       func(m impl.Module) (impl.Module, bool) { return impl.Load(told(m)) },
		"ReadModule": func(m impl.Module) (impl.Module, bool) { return impl.ReadModule(shown(m)) },
	}
}

func TestModulesThatAreAnsweredAreKeptApart(t *testing.T) {
	for name, makeOne := range makers() {
		for _, was := range append(someModules(), everyOp(), greatest()) {
			m, _ := makeOne(was)
			other, _ := makeOne(was)
			fillLists(m)
			if !sameModule(other, was) {
				t.Errorf("%s: %v shares memory with what was answered ahead of it", name, was)
			}
			again, ok := makeOne(was)
			if !ok || !sameModule(again, was) {
				t.Errorf("%s: %v is answered otherwise later on", name, was)
			}
		}
	}
}

// fillLists writes over all that m's lists have, up to their capacity.
func fillLists(m impl.Module) {
	for _, f := range m.Funcs {
		code := f.Code[:cap(f.Code)]
		for i := range code {
			code[i] = ins(-5, -5)
		}
	}
	for i := range m.Texts[:cap(m.Texts)] {
		m.Texts[:cap(m.Texts)][i] = "other"
	}
	clear(m.Funcs[:cap(m.Funcs)])
}

func TestTheListsOfAnAnswerShareNothing(t *testing.T) {
	for name, makeOne := range makers() {
		for _, was := range append(someModules(), everyOp(), greatest()) {
			m, _ := makeOne(was)
			for f := range m.Funcs {
				code := m.Funcs[f].Code
				code = code[:cap(code)]
				for i := range code {
					code[i] = ins(-7, f)
				}
			}
			for f := range m.Funcs {
				for _, x := range m.Funcs[f].Code {
					if x != ins(-7, f) {
						t.Fatalf("%s: two lists of code share memory: %v", name, was)
					}
				}
			}
		}
	}
}

func TestWhatIsSavedIsNewMemory(t *testing.T) {
	for _, was := range someModules() {
		m := cloneModule(was)
		b := impl.Save(m)
		first := slices.Clone(b)
		clear(b[:cap(b)])
		if !sameModule(m, was) || !bytes.Equal(impl.Save(m), first) {
			t.Errorf("%v shares memory with its bytes", was)
		}
		saved := impl.Save(m)
		fillLists(m)
		if !bytes.Equal(saved, first) {
			t.Errorf("the bytes of %v hang on the module", was)
		}
	}
}

func TestWhatIsShownIsNewMemory(t *testing.T) {
	for _, was := range someModules() {
		m := cloneModule(was)
		text := impl.ShowModule(m)
		fillLists(m)
		if text != shown(was) {
			t.Errorf("the text of %v hangs on the module", was)
		}
	}
}

func TestHeightsThatAreAnsweredAreKeptApart(t *testing.T) {
	for _, was := range append(someModules(), several(), greatest()) {
		m := cloneModule(was)
		for f := range m.Funcs {
			want := depthsByLaw(was, f)
			first := impl.DepthsOf(m, f)
			other := impl.DepthsOf(m, f)
			for i := range first[:cap(first)] {
				first[:cap(first)][i] = -9
			}
			if !slices.Equal(other, want) || !slices.Equal(impl.DepthsOf(m, f), want) {
				t.Errorf("%v: heights share memory with those answered ahead of them", was)
			}
			if !sameModule(m, was) || impl.Verify(m) != verifyByLaw(was) {
				t.Errorf("%v: the module hangs on its heights", was)
			}
		}
		heights := impl.DepthsOf(m, 0)
		fillLists(m)
		if !slices.Equal(heights, depthsByLaw(was, 0)) {
			t.Errorf("the heights of %v hang on the module", was)
		}
	}
}

func TestTextsOfValuesAreNewMemory(t *testing.T) {
	for _, s := range []string{"", "a", xs(30), xs(60)} {
		// A copy, as the compiler keeps texts of the program's own in one place.
		a, b := strings.Clone(s), strings.Clone(s)
		if v := impl.ValueText(text(a), nil); v != s || liesIn(v, a) {
			t.Errorf("the text %q is answered with its own memory", s)
		}
		for _, x := range [][2]string{{a, ""}, {"", a}, {a, b}} {
			v, _ := impl.AddOf(text(x[0]), text(x[1]))
			if liesIn(v.S, x[0]) || liesIn(v.S, x[1]) {
				t.Errorf("%q and %q: the sum is in their memory", x[0], x[1])
			}
		}
	}
}

func TestHeapsAreNotWrittenInto(t *testing.T) {
	was := someHeap()
	wide := append(someHeap(), impl.Rec{Fields: []impl.Value{num(1), num(2), num(3)}}, impl.Rec{})
	for i := range wide {
		wide[i].Fields = append(slices.Clone(wide[i].Fields), num(-1), text(spare))[:len(wide[i].Fields)]
	}
	heap := wide[:len(was)]
	for n := -1; n <= len(wide); n++ {
		if got, want := impl.ValueText(rec(n), heap), impl.ValueText(rec(n), was); got != want {
			t.Errorf("record %d: %q, not %q", n, got, want)
		}
	}
	for i, x := range was {
		n := len(x.Fields)
		if !slices.Equal(heap[i].Fields, x.Fields) || !slices.Equal(heap[i].Fields[n:n+2], []impl.Value{num(-1), text(spare)}) {
			t.Errorf("record %d was written into", i)
		}
	}
	if len(wide[len(was)].Fields) != 3 || len(wide[len(was)+1].Fields) != 0 {
		t.Error("the room behind the heap was written into")
	}
}
