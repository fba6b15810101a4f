package tests

import (
	"fmt"
	"math"
	"slices"
	"testing"

	"loop.example/g00094/impl"
)

func TestNumbersOfWatching(t *testing.T) {
	if impl.MaxSites != 150 {
		t.Error(impl.MaxSites)
	}
}

// standing is a state that is about to do instruction pc of function f, with these values on top of the stack.
func standing(m impl.Module, f int, pc int, top ...impl.Value) impl.Vm {
	stack := make([]impl.Value, impl.DepthsOf(m, f)[pc])
	copy(stack[len(stack)-len(top):], top)
	return impl.Vm{Frames: frames(frame(f, pc, make([]impl.Value, m.Funcs[f].Locals), stack))}
}

// watchModule has a Site of each kind in function 0, at 2, 4, 6, 8 and 11, the same in function 1, and in function
// 2 a sum and a call that nobody comes to, at 2 and 3. Instruction 9 of the first two is none of these.
func watchModule() impl.Module {
	each := "func 2 2; load 0; load 1; add; load 1; sub; load 1; mul; load 1; less; not; load 0; call 1; return; "
	return mod(each + each + "func 0 0; nil; return; add; call 0; return")
}

// callPc is where the calls of watchModule's first functions stand.
const callPc = 11

// fullProfile has all Sites of watchModule, with what each kind may have seen.
func fullProfile() []impl.Site {
	return sites(site(0, 2, 1, 0), site(0, 4, 2, 0), site(0, 6, 3, 0), site(0, 8, 1, 0), site(0, callPc, 1, 2),
		site(1, 2, 3, 0), site(1, 4, 1, 0), site(1, 6, 2, 0), site(1, 8, 3, 0), site(1, callPc, 2, 0),
		site(2, 2, 1, 0), site(2, 3, 1, 0))
}

func TestProfilesThatAreOk(t *testing.T) {
	m := watchModule()
	list := [][]impl.Site{nil, {}, fullProfile(), fullProfile()[3:8], fullProfile()[11:]}
	for _, s := range fullProfile() {
		for seen := 1; seen <= 3; seen++ {
			if opAt(m, s.Func, s.Pc) != impl.OpCall {
				list = append(list, sites(site(s.Func, s.Pc, seen, 0)))
			}
		}
	}
	for _, pc := range [][2]int{{0, callPc}, {1, callPc}, {2, 3}} {
		list = append(list, sites(site(pc[0], pc[1], 2, 0)))
		for target := range 3 {
			// Function 2 takes another number of values than the calls hand over.
			list = append(list, sites(site(pc[0], pc[1], 1, target)))
		}
	}
	for _, p := range list {
		if !impl.ProfileOk(m, p) || !profileOkByLaw(m, p) {
			t.Errorf("%v is refused", p)
		}
		checkMerged(t, m, p, nil)
	}
}

// wrongProfiles break one word of ProfileOk each.
func wrongProfiles() map[string][]impl.Site {
	out := map[string][]impl.Site{
		"two at one instruction":              sites(site(0, 2, 1, 0), site(0, 2, 1, 0)),
		"two calls at one instruction":        sites(site(0, callPc, 1, 1), site(0, callPc, 1, 2)),
		"two at one instruction, at the end":  append(fullProfile(), fullProfile()[11]),
		"in a wrong order by Pc":              sites(site(0, 4, 1, 0), site(0, 2, 1, 0)),
		"in a wrong order by Func":            sites(site(1, 2, 1, 0), site(0, 4, 1, 0)),
		"in a wrong order by Func, Pc rising": sites(site(1, 2, 1, 0), site(0, 8, 1, 0)),
		"the last two in a wrong order":       sites(site(0, 2, 1, 0), site(1, 4, 1, 0), site(1, 2, 1, 0)),
		"a function below":                    sites(site(-1, 2, 1, 0)),
		"a function behind":                   sites(site(3, 2, 1, 0)),
		"far below":                           sites(site(math.MinInt, 2, 1, 0)),
		"far behind":                          sites(site(math.MaxInt, 2, 1, 0)),
		"an instruction below":                sites(site(0, -1, 1, 0)),
		"an instruction behind":               sites(site(0, 13, 1, 0)),
		"an instruction of another function":  sites(site(2, 8, 1, 0)),
		"an instruction far below":            sites(site(0, math.MinInt, 1, 0)),
		"an instruction far behind":           sites(site(0, math.MaxInt, 1, 0)),
	}
	for _, pc := range []int{0, 1, 3, 9, 10, 12} {
		out[fmt.Sprint("an instruction of another kind, ", pc)] = sites(site(0, pc, 1, 0))
	}
	for _, s := range fullProfile()[:5] {
		call := s.Pc == callPc
		for _, seen := range []int{0, -1, 4, 5, math.MaxInt, math.MinInt} {
			out[fmt.Sprint("Seen of ", s.Pc, ": ", seen)] = sites(site(0, s.Pc, seen, 0))
		}
		for seen := 1; seen <= 3; seen++ {
			for target := -1; target <= 4; target++ {
				if ok := !call && target == 0 || call && seen == 1 && within(target, 0, 2) || call && seen == 2 && target == 0; !ok {
					out[fmt.Sprint("Seen and Target of ", s.Pc, ": ", seen, ", ", target)] = sites(site(0, s.Pc, seen, target))
				}
			}
		}
	}
	return out
}

func TestProfilesThatBreakOneWord(t *testing.T) {
	m, whole := watchModule(), fullProfile()
	vm := standing(m, 0, 2, num(1), num(2))
	for name, p := range wrongProfiles() {
		if impl.ProfileOk(m, p) || profileOkByLaw(m, p) {
			t.Errorf("%s: %v is taken", name, p)
		}
		for _, other := range [][]impl.Site{nil, whole[:1], whole, p} {
			checkSites(t, name, impl.MergeSites(m, p, other), nil)
			checkSites(t, name, impl.MergeSites(m, other, p), nil)
		}
		for _, x := range []impl.Vm{vm, trappedIn(vm), standing(m, 0, 0)} {
			checkSites(t, name, impl.Observe(m, p, x), nil)
		}
	}
}

// One Site of an ordinary profile is changed so that this alone is wrong.
func TestEachSiteOfAProfileIsAsked(t *testing.T) {
	m := watchModule()
	for i, was := range fullProfile() {
		for _, s := range sites(site(-1, was.Pc, was.Seen, was.Target), site(was.Func, 1, 1, 0), site(was.Func, was.Pc, 0, 0),
			site(was.Func, was.Pc, 4, 0), site(was.Func, was.Pc, was.Seen, 3), site(was.Func, was.Pc, 2, -1)) {
			p := fullProfile()
			p[i] = s
			if impl.ProfileOk(m, p) {
				t.Errorf("%v is taken", p)
			}
		}
	}
}

func TestProfilesOfModulesThatAreNotGood(t *testing.T) {
	sum := mod("func 0 0; int 1; int 2; add; return; func 0 0; nil")
	modules := notGood()
	modules["a module with a Site"] = sum
	modules["no module"] = impl.Module{}
	for name, m := range modules {
		for _, p := range [][]impl.Site{nil, {}, sites(site(0, 2, 1, 0)), {{}}} {
			if impl.ProfileOk(m, p) {
				t.Errorf("%s: %v is taken", name, p)
			}
			checkSites(t, name, impl.MergeSites(m, p, nil), nil)
			checkSites(t, name, impl.MergeSites(m, p, p), nil)
			for _, vm := range []impl.Vm{at(2, nil, vals(num(1), num(2)), 0), {Status: impl.StDone}, {}} {
				checkSites(t, name, impl.Observe(m, p, vm), nil)
			}
		}
		checkSites(t, name, impl.ProfileOf(m, nil, 100), nil)
	}
	good := mod("func 0 0; int 1; int 2; add; return; func 0 0; nil; return")
	if p := sites(site(0, 2, 1, 0)); !impl.ProfileOk(good, p) || !impl.ProfileOk(good, nil) {
		t.Error("a good module has no profile")
	}
}

func TestSiteAt(t *testing.T) {
	odd := sites(site(1, 2, 7, 7), site(0, 3, 1, 4), site(1, 2, 1, 0), site(-1, -2, 5, 6), site(0, 3, 2, 0), site(0, 0, 0, 9), impl.Site{})
	for _, x := range []struct {
		p    []impl.Site
		f    int
		pc   int
		want impl.Site
	}{
		{nil, 0, 0, impl.Site{}},
		{sites(), 1, 2, impl.Site{}},
		{odd, 1, 2, site(1, 2, 7, 7)},
		{odd, 0, 3, site(0, 3, 1, 4)},
		{odd[1:], 1, 2, site(1, 2, 1, 0)},
		{odd[2:], 0, 3, site(0, 3, 2, 0)},
		{odd, -1, -2, site(-1, -2, 5, 6)},
		{odd, 0, 0, site(0, 0, 0, 9)},
		{odd, 0, 2, impl.Site{}},
		{odd, 1, 3, impl.Site{}},
		{odd, 2, 1, impl.Site{}},
		{odd[:1], 0, 3, impl.Site{}},
		{odd, math.MinInt, math.MaxInt, impl.Site{}},
	} {
		if got := impl.SiteAt(x.p, x.f, x.pc); got != x.want {
			t.Errorf("at %d, %d of %v: %v, not %v", x.f, x.pc, x.p, got, x.want)
		}
	}
	for _, s := range fullProfile() {
		if got := impl.SiteAt(fullProfile(), s.Func, s.Pc); got != s {
			t.Errorf("%v, not %v", got, s)
		}
	}
	many := slices.Repeat(sites(site(0, 1, 1, 0)), 1000)
	if got := impl.SiteAt(append(many, site(5, 5, 2, 1)), 5, 5); got != site(5, 5, 2, 1) {
		t.Error("the last of many:", got)
	}
}

// kindsOnTop are values of each kind that is no function.
func kindsOnTop() []impl.Value {
	return vals(impl.Value{}, num(0), num(-1000000000), truth(0), truth(1), text(""), text("a"), rec(0))
}

// together is what two Sites of one instruction come to.
type together struct{ a, b, want impl.Site }

// checkTogether merges the two by MergeSites, with other Sites on both sides, and by Observe, where b is what one
// step can see by itself.
func checkTogether(t *testing.T, x together, tops map[int][]impl.Value) {
	t.Helper()
	m := watchModule()
	before, behind := site(0, 2, 3, 0), site(2, 2, 1, 0)
	checkSites(t, "alone", impl.MergeSites(m, sites(x.a), sites(x.b)), sites(x.want))
	checkSites(t, "the other way round", impl.MergeSites(m, sites(x.b), sites(x.a)), sites(x.want))
	checkSites(t, "with others", impl.MergeSites(m, sites(before, x.a), sites(x.b, behind)), sites(before, x.want, behind))
	checkMerged(t, m, sites(before, x.a, behind), sites(x.b, behind))
	for kind, top := range tops {
		if kind != x.b.Seen {
			continue
		}
		vm := standing(m, x.a.Func, x.a.Pc, top...)
		vm.Heap, vm.Made = []impl.Rec{record()}, 1
		checkSites(t, "observed alone", impl.Observe(m, sites(x.a), vm), sites(x.want))
		checkSites(t, "observed with others", impl.Observe(m, sites(before, x.a, behind), vm), sites(before, x.want, behind))
		checkSites(t, "observed for the first time", impl.Observe(m, nil, vm), sites(x.b))
	}
}

func TestTwoSitesOfASumTogether(t *testing.T) {
	for _, f := range []int{0, 1} {
		for _, pc := range []int{4, 6, 8} {
			s := func(seen int) impl.Site { return site(f, pc, seen, 0) }
			for _, v := range kindsOnTop() {
				for _, two := range [][]impl.Value{{v, num(5)}, {num(5), v}, {v, v}, {fun(0), v}} {
					tops := map[int][]impl.Value{2: two}
					if two[0].Kind == impl.VInt && two[1].Kind == impl.VInt {
						tops = map[int][]impl.Value{1: two}
					}
					for _, x := range []together{
						{s(1), s(1), s(1)}, {s(1), s(2), s(3)}, {s(1), s(3), s(3)},
						{s(2), s(1), s(3)}, {s(2), s(2), s(2)}, {s(2), s(3), s(3)},
						{s(3), s(1), s(3)}, {s(3), s(2), s(3)}, {s(3), s(3), s(3)},
					} {
						checkTogether(t, x, tops)
					}
				}
			}
		}
	}
}

func TestTwoSitesOfACallTogether(t *testing.T) {
	for _, f := range []int{0, 1} {
		one := func(target int) impl.Site { return site(f, callPc, 1, target) }
		other := site(f, callPc, 2, 0)
		for target := range 3 {
			for _, v := range kindsOnTop() {
				// The function stands below the value that is handed over.
				tops := map[int][]impl.Value{1: {fun(target), v}, 2: {v, fun(target)}}
				checkTogether(t, together{one(target), one(target), one(target)}, tops)
				checkTogether(t, together{one((target + 1) % 3), one(target), other}, tops)
				checkTogether(t, together{one((target + 2) % 3), one(target), other}, tops)
				checkTogether(t, together{other, one(target), other}, tops)
				checkTogether(t, together{one(target), other, other}, tops)
				checkTogether(t, together{other, other, other}, tops)
			}
		}
	}
}

// What is one behind the other several times ends as it should, whatever came first.
func TestManySightsOfOneCall(t *testing.T) {
	m := watchModule()
	saw := func(list ...impl.Value) []impl.Site {
		var p []impl.Site
		for _, v := range list {
			p = impl.Observe(m, p, standing(m, 0, callPc, v, num(1)))
		}
		return p
	}
	for _, x := range []struct {
		list []impl.Value
		want impl.Site
	}{
		{vals(fun(0)), site(0, callPc, 1, 0)},
		{vals(fun(0), fun(0), fun(0)), site(0, callPc, 1, 0)},
		{vals(fun(2), fun(2), fun(2)), site(0, callPc, 1, 2)},
		{vals(fun(2), fun(0)), site(0, callPc, 2, 0)},
		{vals(fun(0), fun(2)), site(0, callPc, 2, 0)},
		{vals(fun(2), fun(0), fun(2), fun(2)), site(0, callPc, 2, 0)},
		{vals(fun(1), fun(2), fun(1), fun(1)), site(0, callPc, 2, 0)},
		{vals(num(0)), site(0, callPc, 2, 0)},
		{vals(num(0), fun(0)), site(0, callPc, 2, 0)},
		{vals(num(0), fun(1), fun(1)), site(0, callPc, 2, 0)},
		{vals(fun(0), num(0), fun(0)), site(0, callPc, 2, 0)},
		{vals(fun(1), impl.Value{}, fun(1)), site(0, callPc, 2, 0)},
	} {
		if got := saw(x.list...); len(got) != 1 || got[0] != x.want {
			t.Errorf("%v: %v", x.list, got)
		}
	}
}

// A new Site comes ahead of all, between two, and behind all: each of all of them is the last one to come in.
func TestTheOrderOfSites(t *testing.T) {
	m, all := watchModule(), fullProfile()[:10]
	for i, s := range all {
		others := slices.Delete(fullProfile()[:10], i, i+1)
		want := slices.Clone(all)
		want[i].Seen, want[i].Target = 2, 0
		vm := standing(m, s.Func, s.Pc, truth(1), num(1))
		checkSites(t, "observed", impl.Observe(m, others, vm), want)
		checkSites(t, "merged", impl.MergeSites(m, others, sites(want[i])), want)
		checkSites(t, "merged into it", impl.MergeSites(m, sites(want[i]), others), want)
	}
	var even, odd []impl.Site
	for i, s := range fullProfile() {
		if i%2 == 0 {
			even = append(even, s)
		} else {
			odd = append(odd, s)
		}
	}
	checkSites(t, "each second one", checkMerged(t, m, even, odd), fullProfile())
	checkSites(t, "the first half", checkMerged(t, m, fullProfile()[6:], fullProfile()[:6]), fullProfile())
	checkSites(t, "Func goes ahead of Pc", impl.MergeSites(m, sites(site(1, 2, 1, 0)), sites(site(0, callPc, 2, 0))), sites(site(0, callPc, 2, 0), site(1, 2, 1, 0)))
}

// Each subset of a profile, merged with each other one.
func TestMergingOfAllSubsets(t *testing.T) {
	m, all := watchModule(), fullProfile()[3:9]
	subset := func(n int, other bool) []impl.Site {
		var p []impl.Site
		for i, s := range all {
			if n>>i&1 == 1 {
				if other {
					s.Seen, s.Target = 2, 0
				}
				p = append(p, s)
			}
		}
		return p
	}
	for n := range 1 << len(all) {
		for k := range 1 << len(all) {
			got := checkMerged(t, m, subset(n, false), subset(k, true))
			if len(got) != len(subset(n|k, false)) {
				t.Fatalf("%v of %v and %v", got, subset(n, false), subset(k, true))
			}
		}
	}
}

// What stands beside the last frame is not looked at, nor what lies below the values that are taken.
func TestOnlyTheLastFrameIsWatched(t *testing.T) {
	m := watchModule()
	vm := standing(m, 1, 4, num(1), num(2))
	below := frame(0, 12, vals(text("a"), text("b")), nil)
	vm.Frames = append(frames(below, below), vm.Frames...)
	checkSites(t, "two frames below", impl.Observe(m, nil, vm), sites(site(1, 4, 1, 0)))
	deep := mod("func 0 0; nil; nil; int 1; int 2; add; return; return; return")
	checkSites(t, "values below", impl.Observe(deep, nil, standing(deep, 0, 4, text("a"), text("b"), num(1), num(2))), sites(site(0, 4, 1, 0)))
	checkSites(t, "numbers below", impl.Observe(deep, nil, standing(deep, 0, 4, num(1), num(2), text("a"), text("b"))), sites(site(0, 4, 2, 0)))
	// The function of a call stands below all values that are handed over, six of them too.
	six := mod("func 0 0; nil; fun 0; nil; nil; nil; nil; nil; nil; call 6; return")
	top := vals(fun(0), num(1), num(2), num(3), num(4), num(5), num(6))
	checkSites(t, "six values", impl.Observe(six, nil, standing(six, 0, 8, top...)), sites(site(0, 8, 1, 0)))
	slices.Reverse(top)
	checkSites(t, "a function on top", impl.Observe(six, nil, standing(six, 0, 8, top...)), sites(site(0, 8, 2, 0)))
	checkSites(t, "a function below", impl.Observe(six, nil, standing(six, 0, 8, append(vals(fun(0)), top...)...)), sites(site(0, 8, 2, 0)))
}

// p itself is answered where nothing runs, or where what runs is not watched.
func TestWhatIsNotWatched(t *testing.T) {
	m := watchModule()
	for _, p := range [][]impl.Site{nil, fullProfile(), fullProfile()[1:4]} {
		for pc := range 13 {
			vm := standing(m, 0, pc, vals(num(1), num(2))[:min(2, impl.DepthsOf(m, 0)[pc])]...)
			for trap := 1; trap <= 8; trap++ {
				stopped := trappedIn(vm)
				stopped.Trap = trap
				checkSites(t, "trapped", impl.Observe(m, p, stopped), p)
			}
			if !within(opAt(m, 0, pc), 11, 14) && pc != callPc {
				checkSites(t, "another instruction", impl.Observe(m, p, vm), p)
			}
		}
		checkSites(t, "done", impl.Observe(m, p, impl.Vm{Status: impl.StDone, Value: num(1)}), p)
	}
	// Of all instructions only these five.
	for _, x := range eachOp(8) {
		m := atHeight(8, x)
		watched := within(x.Op, 11, 14) || x.Op == 23
		for _, v := range vals(impl.Value{}, num(1), fun(0)) {
			got := impl.Observe(m, nil, standing(m, 0, 8, slices.Repeat(vals(v), 8)...))
			if (len(got) == 1) != watched {
				t.Errorf("%v is watched: %v", x, got)
			}
		}
	}
}

func TestObserveOfWrongStates(t *testing.T) {
	m := watchModule()
	base := func() impl.Vm { return standing(m, 0, 4, num(1), num(2)) }
	for _, x := range []change{
		{"Made", func(vm *impl.Vm) { vm.Made = -1 }},
		{"Steps", func(vm *impl.Vm) { vm.Steps = impl.MaxSteps + 1 }},
		{"Status", func(vm *impl.Vm) { vm.Status = 3 }},
		{"Trap", func(vm *impl.Vm) { vm.Trap = 1 }},
		{"Pc", func(vm *impl.Vm) { vm.Frames[0].Pc = 99 }},
		{"Func", func(vm *impl.Vm) { vm.Frames[0].Func = -1 }},
		{"a stack too low", func(vm *impl.Vm) { vm.Frames[0].Stack = nil }},
		{"a stack too high", func(vm *impl.Vm) { vm.Frames[0].Stack = vals(num(1), num(2), num(3)) }},
		{"a value that is none", func(vm *impl.Vm) { vm.Frames[0].Stack[0].Kind = 9 }},
		{"a function that is none", func(vm *impl.Vm) { vm.Frames[0].Locals[0] = fun(3) }},
		{"no frames", func(vm *impl.Vm) { vm.Frames = nil }},
		{"the zero state", func(vm *impl.Vm) { *vm = impl.Vm{} }},
	} {
		vm := base()
		x.do(&vm)
		for _, p := range [][]impl.Site{nil, fullProfile(), sites(site(0, 4, 2, 0))} {
			checkSites(t, x.name, impl.Observe(m, p, vm), nil)
			checkSitesByLaw(t, m, p, vm)
		}
	}
	checkSites(t, "the state unchanged", impl.Observe(m, nil, base()), sites(site(0, 4, 1, 0)))
}

// Steps of a state that runs are not asked for, up to MaxSteps.
func TestObserveHangsNotOnSteps(t *testing.T) {
	m := watchModule()
	for _, steps := range []int{0, 1, impl.MaxSteps - 1, impl.MaxSteps} {
		vm := standing(m, 0, 4, num(1), num(2))
		vm.Steps = steps
		checkSites(t, "so many steps", impl.Observe(m, sites(site(0, 4, 2, 0)), vm), sites(site(0, 4, 3, 0)))
	}
}
