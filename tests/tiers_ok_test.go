package tests

import (
	"fmt"
	"math"
	"slices"
	"testing"

	"loop.example/g00094/impl"
)

func TestNumbersOfTiers(t *testing.T) {
	if impl.AcRun != 1 || impl.AcTier != 2 || impl.AcLoop != 3 || impl.AcDrop != 4 || impl.AcForge != 5 {
		t.Error(impl.AcRun, impl.AcTier, impl.AcLoop, impl.AcDrop, impl.AcForge)
	}
	if impl.MaxDeopt != 3 || impl.MaxCodes != 8 || impl.MaxRun != 500 || impl.MaxCount != 1000000 {
		t.Error(impl.MaxDeopt, impl.MaxCodes, impl.MaxRun, impl.MaxCount)
	}
}

func checkAct(t *testing.T, name string, a impl.Act, want bool) {
	t.Helper()
	if got := impl.ActOk(a); got != want || actOkByLaw(a) != want {
		t.Errorf("%s: %+v is %v", name, a, got)
	}
}

// greatestActs have in each field the most that there can be.
func greatestActs() []impl.Act {
	return acts(runAct(500), tierAct(11, 3, true), loopAct(11, 119, 3, true), dropAct(11), forgeAct(make([]impl.Site, 150)...))
}

// actChange is what is done to an act.
type actChange struct {
	name string
	do   func(a *impl.Act)
}

func TestActsAtTheirLimits(t *testing.T) {
	for _, most := range greatestActs() {
		checkAct(t, "the greatest", most, true)
		checkAct(t, "the least", impl.Act{Kind: most.Kind}, true)
		checkAct(t, "without Sites that are not there", impl.Act{Kind: most.Kind, Sites: []impl.Site{}}, true)
		least := impl.Act{Kind: most.Kind}
		for _, x := range []actChange{
			{"A past its end", func(a *impl.Act) { a.A++ }}, {"B past its end", func(a *impl.Act) { a.B++ }}, {"Lay past its end", func(a *impl.Act) { a.Lay++ }},
			{"a Site too many", func(a *impl.Act) { a.Sites = append(a.Sites, impl.Site{}) }},
			{"far too many", func(a *impl.Act) { a.Sites = make([]impl.Site, 100000) }},
			{"A far past it", func(a *impl.Act) { a.A = math.MaxInt }}, {"B far past it", func(a *impl.Act) { a.B = math.MaxInt }}, {"Lay far past it", func(a *impl.Act) { a.Lay = math.MaxInt }},
			{"A below 0", func(a *impl.Act) { a.A = -1 }}, {"B below 0", func(a *impl.Act) { a.B = -1 }}, {"Lay below 0", func(a *impl.Act) { a.Lay = -1 }},
			{"A far below", func(a *impl.Act) { a.A = math.MinInt }}, {"B far below", func(a *impl.Act) { a.B = math.MinInt }}, {"Lay far below", func(a *impl.Act) { a.Lay = math.MinInt }},
		} {
			a := cloneAct(most)
			x.do(&a)
			checkAct(t, x.name, a, false)
		}
		bare := least
		bare.Bare = true
		checkAct(t, "Bare alone", bare, most.Bare)
		if a := cloneAct(most); !most.Bare {
			a.Bare = true
			checkAct(t, "Bare where it is not asked", a, false)
		}
	}
}

func TestActsOfNoKind(t *testing.T) {
	for _, kind := range []int{0, 6, -1, 7, -5, math.MinInt, math.MaxInt} {
		checkAct(t, "no Kind", impl.Act{Kind: kind}, false)
		for _, a := range greatestActs() {
			a.Kind = kind
			checkAct(t, "no Kind", a, false)
		}
	}
	checkAct(t, "the zero act", impl.Act{}, false)
}

// actsAtEdges does something with each combination of what is at a limit or beside it, of each Kind.
func actsAtEdges(do func(x impl.Act)) {
	edges := []int{-1, 0, 1, 11, 12, 119, 120, 500, 501}
	for kind := -1; kind <= 6; kind++ {
		for _, a := range edges {
			for _, b := range edges {
				for lay := -1; lay <= 4; lay++ {
					for _, n := range []int{0, 1, 150, 151} {
						for _, bare := range []bool{false, true} {
							do(impl.Act{Kind: kind, A: a, B: b, Lay: lay, Bare: bare, Sites: make([]impl.Site, n)})
						}
					}
				}
			}
		}
	}
}

// oksAtEdges is how many of them are ok.
const oksAtEdges = 7 + 3*4*2 + 3*5*4*2 + 3 + 3

func TestActsOfEachKind(t *testing.T) {
	oks := 0
	actsAtEdges(func(x impl.Act) {
		checkAct(t, "a combination", x, actOkByLaw(x))
		if actOkByLaw(x) {
			oks++
		}
	})
	if oks != oksAtEdges {
		t.Errorf("%d are ok", oks)
	}
}

// What the Sites of an act are, ActOk does not ask: that hangs on the module.
func TestActsWithAnySites(t *testing.T) {
	for _, list := range [][]impl.Site{sites(site(0, 2, 1, 0)), sites(site(-1, -1, 9, 9)), sites(site(0, 2, 1, 0), site(0, 2, 1, 0)), allSums(150, 3)} {
		checkAct(t, "Sites", forgeAct(list...), true)
		for kind := impl.AcRun; kind <= impl.AcDrop; kind++ {
			checkAct(t, "Sites where they are not asked", impl.Act{Kind: kind, Sites: list}, false)
		}
	}
}

// loopsModule has so many functions, each with a loop: code can be entered at 0 and at 2.
func loopsModule(n int) impl.Module {
	m := impl.Module{}
	for range n {
		m.Funcs = append(m.Funcs, mod("func 0 0; nil; drop; bool 1; if 2; nil; return").Funcs...)
	}
	return m
}

// tierModule has four sums, calls, functions to be called, and a loop.
func tierModule() impl.Module {
	return mod("func 2 2; load 0; load 1; add; load 1; sub; load 1; mul; load 1; less; drop; load 0; call 0; drop; load 1; load 0; call 1; jump 16; return; " +
		"func 1 1; load 0; call 0; return; func 0 0; int 1; dup; add; return; func 1 1; load 0; load 0; less; return")
}

// fullTier is a Tier of tierModule with something of everything.
func fullTier() impl.Tier {
	m := tierModule()
	vm, _ := impl.Start(m, vals(num(3), num(4)))
	list := sites(site(0, 2, 1, 0), site(0, 4, 2, 0), site(0, 11, 1, 2), site(2, 2, 1, 0), site(3, 2, 3, 0))
	p := impl.PlanOf(m, list, nil, 2, true)
	x := impl.Tier{Vm: vm, Sites: list, Guards: 1000006, Entered: 17, Fails: fails(fail(3, 2, 1, 2), fail(0, 11, 2, 1000000), fail(0, 2, 1, 1), fail(1, 1, 2, 3))}
	for _, at := range [][2]int{{0, 0}, {2, 0}, {0, 16}, {1, 0}, {3, 0}} {
		c, _ := impl.Make(m, at[0], at[1], p)
		x.Codes = append(x.Codes, c)
	}
	return x
}

// tierChange is what is done to a Tier.
type tierChange struct {
	name string
	do   func(x *impl.Tier)
}

func checkTiers(t *testing.T, list []tierChange, want bool) {
	t.Helper()
	for _, change := range list {
		x := fullTier()
		change.do(&x)
		if got := checkTierOk(t, tierModule(), x); got != want {
			t.Errorf("%s: %v of %+v", change.name, got, x)
		}
	}
}

func TestTiersThatAreOk(t *testing.T) {
	if len(fullTier().Codes) != 5 {
		t.Fatal("the Tier is not as told")
	}
	checkTiers(t, []tierChange{
		{"as it is", func(x *impl.Tier) {}},
		{"no Sites", func(x *impl.Tier) { x.Sites = nil }},
		{"no Codes", func(x *impl.Tier) { x.Codes = []impl.Fast{} }},
		{"no Fails", func(x *impl.Tier) { x.Fails, x.Guards = nil, 0 }},
		{"never entered", func(x *impl.Tier) { x.Entered = 0 }},
		{"Entered MaxNum", func(x *impl.Tier) { x.Entered = 1000000000 }},
		{"Codes in another order", func(x *impl.Tier) { slices.Reverse(x.Codes) }},
		{"Fails in another order", func(x *impl.Tier) { slices.Reverse(x.Fails) }},
		{"trapped", func(x *impl.Tier) { x.Vm = trappedIn(x.Vm) }},
		{"done", func(x *impl.Tier) { x.Vm = doneWith(x.Vm, num(1)) }},
		{"no step left", func(x *impl.Tier) { x.Vm.Steps = impl.MaxSteps }},
		{"swept code", func(x *impl.Tier) { x.Codes[0] = impl.Sweep(tierModule(), x.Codes[0]) }},
		{"code that nobody made", func(x *impl.Tier) { x.Codes[1] = retCode(2, 0, 1, 0) }},
		{"a loop's code alone", func(x *impl.Tier) { x.Codes = x.Codes[2:3] }},
	}, true)
	for _, m := range append([]impl.Module{several(), planModule(), sample()}, loopsModule(3)) {
		if vm, ok := impl.Start(m, make([]impl.Value, m.Funcs[0].Params)); ok && !checkTierOk(t, m, impl.Tier{Vm: vm}) {
			t.Errorf("%v: its beginning is refused", m)
		}
	}
	if !checkTierOk(t, one(nilIns, returnIns), impl.Tier{Vm: impl.Vm{Status: impl.StDone}}) {
		t.Error("a program that is done is refused")
	}
}

func TestTiersWhoseStateOrSitesAreNotOk(t *testing.T) {
	checkTiers(t, []tierChange{
		{"the zero state", func(x *impl.Tier) { x.Vm = impl.Vm{} }},
		{"a step too many", func(x *impl.Tier) { x.Vm.Steps = impl.MaxSteps + 1 }},
		{"a record that is not there", func(x *impl.Tier) { x.Vm.Frames[0].Locals[1] = rec(0) }},
		{"a stack that is too high", func(x *impl.Tier) { x.Vm.Frames[0].Stack = vals(num(1)) }},
		{"a trap in a state that runs", func(x *impl.Tier) { x.Vm.Trap = 1 }},
		{"more made than can be", func(x *impl.Tier) { x.Vm.Made = impl.MaxMade + 1 }},
		{"two Sites of one instruction", func(x *impl.Tier) { x.Sites = append(x.Sites, x.Sites[4]) }},
		{"Sites in another order", func(x *impl.Tier) { slices.Reverse(x.Sites) }},
		{"a Site that saw nothing", func(x *impl.Tier) { x.Sites[1].Seen = 0 }},
		{"a Site of no instruction", func(x *impl.Tier) { x.Sites[4].Pc = 4 }},
		{"a Site of a function that is none", func(x *impl.Tier) { x.Sites[4].Func = 4 }},
	}, false)
	many := manySites(impl.MaxSites + 1)
	vm, _ := impl.Start(many, vals(num(0), num(0)))
	for n, want := range map[int]bool{149: true, 150: true, 151: false} {
		if checkTierOk(t, many, impl.Tier{Vm: vm, Sites: allSums(n, 1)}) != want {
			t.Errorf("%d Sites: %v", n, !want)
		}
	}
}

func TestTiersWhoseCodesAreNotOk(t *testing.T) {
	for at := range fullTier().Codes {
		checkTiers(t, []tierChange{
			{"no ops", func(x *impl.Tier) { x.Codes[at].Ops = nil }},
			{"the zero code", func(x *impl.Tier) { x.Codes[at] = impl.Fast{} }},
			{"a function that is none", func(x *impl.Tier) { x.Codes[at].Func = 4 }},
			{"no entry", func(x *impl.Tier) { x.Codes[at].Entry = 1 }},
			{"too few registers", func(x *impl.Tier) { x.Codes[at].Vals = 0 }},
			{"no end", func(x *impl.Tier) {
				ops := x.Codes[at].Ops
				x.Codes[at].Ops = append(slices.Clone(ops), impl.FOp{Op: impl.FNum, P: ops[0].P, F: ops[0].F, V: num(1)})
			}},
			{"an exit of no Kind", func(x *impl.Tier) {
				x.Codes[at].Exits = append(slices.Clone(x.Codes[at].Exits), impl.Exit{})
			}},
			{"twice", func(x *impl.Tier) { x.Codes = append(x.Codes, cloneFast(x.Codes[at])) }},
			{"twice, first", func(x *impl.Tier) { x.Codes = slices.Insert(x.Codes, 0, cloneFast(x.Codes[at])) }},
			{"another one for the same entry", func(x *impl.Tier) { x.Codes = append(x.Codes, retCode(x.Codes[at].Func, x.Codes[at].Entry, 20, 0)) }},
		}, false)
	}
}

// Codes of one function for its two entries, and of two functions for the same entry, are different ones.
func TestTiersWithMaxCodesAndOneMore(t *testing.T) {
	m := loopsModule(12)
	vm, _ := impl.Start(m, nil)
	code := func(f int, entry int) impl.Fast { return retCode(f, entry, 1, 0) }
	for n := range 12 {
		var first, both []impl.Fast
		for i := range n {
			first, both = append(first, code(i, 0)), append(both, code(i/2, i%2*2))
		}
		for _, list := range [][]impl.Fast{first, both} {
			if got := checkTierOk(t, m, impl.Tier{Vm: vm, Codes: list}); got != (n <= 8) {
				t.Errorf("%d codes: %v", n, got)
			}
			if n > 1 {
				list[n-1] = list[0]
				if checkTierOk(t, m, impl.Tier{Vm: vm, Codes: list}) {
					t.Errorf("%d codes, the last one as the first: taken", n)
				}
			}
		}
	}
}

func TestFailsOfTiers(t *testing.T) {
	m := tierModule()
	vm, _ := impl.Start(m, vals(num(1), num(2)))
	ask := func(name string, want bool, guards int, list ...impl.Fail) {
		t.Helper()
		if got := checkTierOk(t, m, impl.Tier{Vm: vm, Fails: list, Guards: guards}); got != want {
			t.Errorf("%s: %v of %v", name, got, list)
		}
	}
	// Each instruction, with each Kind.
	fits := 0
	for f := -1; f <= 5; f++ {
		for pc := -1; pc <= 20; pc++ {
			for _, kind := range []int{-1, 0, 1, 2, 3, math.MaxInt} {
				want := kind > 0 && kind == kindAt(m, f, pc)
				ask("a guess", want, 3, fail(f, pc, kind, 3))
				if want {
					fits++
				}
			}
		}
	}
	if fits != 9 {
		t.Errorf("%d guesses", fits)
	}
	for _, far := range []int{math.MinInt, math.MaxInt} {
		ask("a function far away", false, 1, fail(far, 2, 1, 1))
		ask("an instruction far away", false, 1, fail(0, far, 1, 1))
	}
	for count, want := range map[int]bool{1: true, 2: true, 3: true, 4: true, 999999: true, 1000000: true, 0: false, -1: false, 1000001: false, math.MaxInt: false, math.MinInt: false} {
		ask(fmt.Sprint("Count ", count), want, count, fail(0, 2, 1, count))
		ask(fmt.Sprint("Count of a call ", count), want, count, fail(0, 15, 2, count))
	}
	ask("two of one instruction", false, 2, fail(0, 2, 1, 1), fail(0, 2, 1, 1))
	ask("two of one instruction, other Counts", false, 5, fail(0, 2, 1, 1), fail(0, 4, 1, 1), fail(0, 2, 1, 3))
	ask("two of one instruction, the other of no Kind", false, 2, fail(0, 2, 1, 1), fail(0, 2, 2, 1))
	ask("the same Pc of several functions", true, 9, fail(2, 2, 1, 1), fail(0, 2, 1, 3), fail(3, 2, 1, 5))
	ask("the last of several", false, 4, fail(2, 2, 1, 1), fail(0, 2, 1, 3), fail(3, 2, 1, 0))
	ask("the first of several", false, 8, fail(2, 2, 2, 1), fail(0, 2, 1, 3), fail(3, 2, 1, 4))
	// Of a call for which there is no function with as many parameters there may be a Fail as well.
	calls := mod("func 0 0; nil; call 0; return; func 0 0; nil; nil; nil; call 2; return")
	own, _ := impl.Start(calls, nil)
	if !checkTierOk(t, calls, impl.Tier{Vm: own, Fails: fails(fail(0, 1, 2, 1), fail(1, 3, 2, 1)), Guards: 2}) {
		t.Error("a Fail of a call is refused")
	}
}

func TestGuardsOfTiers(t *testing.T) {
	checkTiers(t, []tierChange{
		{"one more", func(x *impl.Tier) { x.Guards++ }}, {"one fewer", func(x *impl.Tier) { x.Guards-- }}, {"none", func(x *impl.Tier) { x.Guards = 0 }},
		{"how many Fails there are", func(x *impl.Tier) { x.Guards = 4 }}, {"the last alone", func(x *impl.Tier) { x.Guards = 3 }}, {"the greatest alone", func(x *impl.Tier) { x.Guards = 1000000 }},
		{"turned about", func(x *impl.Tier) { x.Guards = -x.Guards }}, {"far more", func(x *impl.Tier) { x.Guards = math.MaxInt }},
		{"some without a Fail", func(x *impl.Tier) { x.Fails = nil }}, {"a Fail less", func(x *impl.Tier) { x.Fails = x.Fails[:3] }},
		{"Entered below 0", func(x *impl.Tier) { x.Entered = -1 }}, {"Entered past MaxNum", func(x *impl.Tier) { x.Entered = 1000000001 }},
		{"Entered far past it", func(x *impl.Tier) { x.Entered = math.MaxInt }}, {"Entered far below", func(x *impl.Tier) { x.Entered = math.MinInt }},
	}, false)
	checkTiers(t, []tierChange{
		{"a Count more, and Guards", func(x *impl.Tier) { x.Guards, x.Fails[0].Count = x.Guards+1, 3 }},
		{"a Fail less, and Guards", func(x *impl.Tier) { x.Guards, x.Fails = x.Guards-3, x.Fails[:3] }},
	}, true)
}

// sumFails are Fails of so many sums of manySites.
func sumFails(n int, count int) []impl.Fail {
	var out []impl.Fail
	for _, s := range allSums(n, 1) {
		out = append(out, fail(s.Func, s.Pc, 1, count))
	}
	return out
}

func TestTiersWithMaxSitesFailsAndOneMore(t *testing.T) {
	m := manySites(impl.MaxSites + 1)
	vm, _ := impl.Start(m, vals(num(0), num(0)))
	for n, want := range map[int]bool{149: true, 150: true, 151: false} {
		for _, count := range []int{1, 1000000} {
			x := impl.Tier{Vm: vm, Fails: sumFails(n, count), Guards: n * count}
			if checkTierOk(t, m, x) != want {
				t.Errorf("%d Fails of %d each: %v", n, count, !want)
			}
		}
	}
	// More of them than any module has instructions, with a sum that wraps round to Guards.
	far := slices.Repeat(fails(fail(1, 2, 1, math.MaxInt)), 200000)
	if checkTierOk(t, m, impl.Tier{Vm: vm, Fails: far, Guards: -200000}) {
		t.Error("far too many Fails are taken")
	}
}

func TestTiersOfModulesThatAreNotGood(t *testing.T) {
	modules := notGood()
	for _, x := range limitsOfModules() {
		modules["past "+x.name] = x.past
	}
	done := impl.Tier{Vm: impl.Vm{Status: impl.StDone}}
	for name, m := range modules {
		for _, x := range []impl.Tier{{}, done, fullTier(), {Vm: at(0, nil, nil, 0)}} {
			if checkTierOk(t, m, x) {
				t.Errorf("%s: %+v is taken", name, x)
			}
		}
		for _, args := range [][]impl.Value{nil, vals(num(1)), vals(num(1), num(2))} {
			if checkNewTier(t, m, args) || !sameTier(impl.Play(m, args, acts(runAct(1))), impl.Tier{}) {
				t.Errorf("%s: begins with %v", name, args)
			}
		}
	}
	if checkTierOk(t, codeModule(), fullTier()) || checkTierOk(t, tierModule(), impl.Tier{}) {
		t.Error("a Tier of another module, or the zero one, is taken")
	}
}

func TestNewTiers(t *testing.T) {
	for _, x := range append(wholeRuns(), recordRuns()...) {
		if !checkNewTier(t, x.m, x.args) {
			t.Errorf("%s does not begin", x.name)
		}
		checkNewTier(t, x.m, append(slices.Clone(x.args), num(1)))
	}
	for _, x := range wrongStarts() {
		if checkNewTier(t, x.m, x.args) {
			t.Errorf("%s: begins", x.name)
		}
		for _, script := range [][]impl.Act{nil, acts(runAct(500)), acts(tierAct(0, 0, false), impl.Act{}, runAct(9))} {
			if got := impl.Play(x.m, x.args, script); !sameTier(got, impl.Tier{}) {
				t.Errorf("%s: comes to %+v", x.name, got)
			}
		}
	}
}

func TestBlackOf(t *testing.T) {
	for count, want := range map[int]bool{math.MinInt: false, -1: false, 0: false, 1: false, 2: false, 3: true, 4: true, 1000000: true, 1000001: true, math.MaxInt: true} {
		got := impl.BlackOf(impl.Tier{Fails: fails(fail(1, 2, 1, count))})
		if (len(got) == 1) != want || want && got[0] != spec(1, 2, 1, 0) {
			t.Errorf("Count %d: %v", count, got)
		}
	}
	if got := impl.BlackOf(impl.Tier{Guards: 9, Entered: 3}); len(got) != 0 {
		t.Errorf("no Fails: %v", got)
	}
	// In the order of the Fails, whatever that is, without Target, also of calls.
	list := fails(fail(3, 2, 1, 3), fail(0, 12, 2, 7), fail(0, 4, 1, 2), fail(0, 2, 1, 3), fail(1, 1, 2, 1), fail(2, 2, 1, 1000000))
	want := specs(spec(3, 2, 1, 0), spec(0, 12, 2, 0), spec(0, 2, 1, 0), spec(2, 2, 1, 0))
	if got := impl.BlackOf(impl.Tier{Fails: list}); !slices.Equal(got, want) {
		t.Errorf("%v, not %v", got, want)
	}
	slices.Reverse(list)
	slices.Reverse(want)
	if got := impl.BlackOf(impl.Tier{Fails: list}); !slices.Equal(got, want) {
		t.Errorf("%v, not %v", got, want)
	}
	// It asks nothing else of them: neither that there is such an instruction, nor that there is one Fail of it.
	odd := fails(fail(-1, -1, 9, 3), fail(0, 2, 1, 3), fail(0, 2, 1, 4), fail(0, 2, 2, 5), fail(99, 999, 0, 3))
	if got := impl.BlackOf(impl.Tier{Fails: odd}); !slices.Equal(got, specs(spec(-1, -1, 9, 0), spec(0, 2, 1, 0), spec(0, 2, 1, 0), spec(0, 2, 2, 0), spec(99, 999, 0, 0))) {
		t.Errorf("%v of %v", got, odd)
	}
	if got := impl.BlackOf(fullTier()); !slices.Equal(got, specs(spec(0, 11, 2, 0), spec(1, 1, 2, 0))) {
		t.Errorf("%v of the full Tier", got)
	}
	if got := impl.BlackOf(impl.Tier{Fails: sumFails(5000, 3)}); len(got) != 5000 {
		t.Errorf("%d of 5000", len(got))
	}
}
