package tests

import (
	"fmt"
	"slices"
	"testing"

	"loop.example/g00094/impl"
)

// Each function is rewritten as if the others were not there, but for how many values they take.
func TestEachFunctionIsRewrittenByItself(t *testing.T) {
	for i, m := range rewritables(92, 60) {
		for _, how := range rewritings() {
			all := how.do(m)
			for f := range m.Funcs {
				alone := cloneModule(m)
				for g := range alone.Funcs {
					if g != f {
						alone.Funcs[g].Code = []impl.Ins{nilIns, returnIns}
					}
				}
				got := how.do(alone)
				if !slices.Equal(got.Funcs[f].Code, all.Funcs[f].Code) {
					t.Fatalf("program %d, %s, function %d: %v, and by itself %v", i, how.name, f, all.Funcs[f], got.Funcs[f])
				}
			}
		}
	}
}

// Functions are told apart by their numbers, of which there are MaxFuncs.
func TestRewritingOfMaxFuncs(t *testing.T) {
	m := manyFuncs(impl.MaxFuncs)
	for f := range m.Funcs {
		code := append([]impl.Ins{jump(f + 1)}, slices.Repeat([]impl.Ins{ins(impl.OpSub, 0)}, f)...)
		m.Funcs[f].Code = append(code, ins(impl.OpInt, f), ins(impl.OpInt, 1), ins(impl.OpAdd, 0), jump(f+5), returnIns)
	}
	for _, how := range rewritings() {
		got := how.do(m)
		for f := range m.Funcs {
			want := map[string][]impl.Ins{
				"Cut":    {jump(1), ins(impl.OpInt, f), ins(impl.OpInt, 1), ins(impl.OpAdd, 0), jump(5), returnIns},
				"Thread": m.Funcs[f].Code,
				"Fold":   slices.Concat(m.Funcs[f].Code[:f+1], []impl.Ins{ins(impl.OpInt, f+1), jump(f + 3), returnIns}),
			}[how.name]
			if !slices.Equal(got.Funcs[f].Code, want) {
				t.Errorf("%s, function %d: %v, not %v", how.name, f, got.Funcs[f].Code, want)
			}
		}
	}
	checkRewritings(t, m)
}

// Modules that are not good are rewritten to nothing, whether they are ModuleOk or not.
func TestRewritingOfModulesThatAreNotGood(t *testing.T) {
	wrong := notGood()
	for _, x := range limitsOfModules() {
		wrong["past "+x.name] = x.past
	}
	// Only what nobody comes to is at fault.
	wrong["a fault of form that would go"] = one(nilIns, returnIns, jump(3))
	wrong["texts, and a fault of form"] = impl.Module{Texts: []string{"a"}, Funcs: []impl.Func{{Code: []impl.Ins{ins(impl.OpText, 1)}}}}
	// Cut, threaded or folded they would be good.
	wrong["a sum too high, which would be folded"] = one(append(append(nils(15), ins(impl.OpInt, 1), ins(impl.OpInt, 2), ins(impl.OpAdd, 0)), returnIns)...)
	wrong["a join that threading would part"] = one(trueIns, ifTo(3), nilIns, jump(4), jump(4))
	// Only the last function is at fault.
	for name, m := range map[string]impl.Module{"stack": one(dropIns), "end": one(nilIns), "join": one(nilIns, jump(0))} {
		good := manyFuncs(impl.MaxFuncs - 1)
		for f := range good.Funcs {
			good.Funcs[f].Code = []impl.Ins{jump(2), nilIns, nilIns, returnIns}
		}
		good.Funcs = append(good.Funcs, m.Funcs[0])
		wrong[fmt.Sprint("a fault in the last: ", name)] = good
	}
	oks := map[bool]int{}
	for name, m := range wrong {
		for _, how := range rewritings() {
			if got := how.do(m); got.Texts != nil || got.Funcs != nil {
				t.Errorf("%s: %s gives %v", name, how.name, got)
			}
		}
		if goodByLaw(m) {
			t.Errorf("%s: good", name)
		}
		oks[impl.ModuleOk(m)]++
	}
	if oks[true] < 5 || oks[false] < 10 {
		t.Errorf("ModuleOk or not %v times: they try too little", oks)
	}
}

// What is at a limit is taken.
func TestRewritingAtEachLimit(t *testing.T) {
	for _, x := range limitsOfModules() {
		m := cloneModule(x.at)
		for f := range m.Funcs {
			m.Funcs[f].Code = passedOver(m.Funcs[f].Code)
		}
		if !goodByLaw(m) {
			t.Errorf("%s: not good", x.name)
		}
		for _, two := range checkRewritings(t, m) {
			if len(two.got.Funcs) != len(m.Funcs) || len(two.got.Texts) != len(m.Texts) {
				t.Errorf("%s: %s gives %v", x.name, two.name, two.got)
			}
		}
	}
}

// passedOver is code between two jumps to the last one of them; where there is no room for them, they stand at its ends.
func passedOver(code []impl.Ins) []impl.Ins {
	if len(code)+2 > impl.MaxCode {
		code = code[1 : len(code)-1]
	}
	end := jump(len(code) + 1)
	return slices.Concat([]impl.Ins{end}, code, []impl.Ins{end})
}
