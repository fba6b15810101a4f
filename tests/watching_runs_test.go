package tests

import (
	"math/rand"
	"slices"
	"strconv"
	"strings"
	"testing"

	"loop.example/g00094/impl"
)

// checkTells asks promise 6 of a run: what was watched tells of each step what it saw, and nothing that no step
// saw. The run must not come to more than MaxSites Sites.
func checkTells(t *testing.T, m impl.Module, args []impl.Value, fuel int) {
	t.Helper()
	p := impl.ProfileOf(m, args, fuel)
	saw := map[[2]int][]impl.Site{}
	vm, _ := impl.Start(m, args)
	for ; fuel > 0 && vm.Status == impl.StRun; fuel-- {
		if s, watched := sightByLaw(m, vm); watched {
			at := [2]int{s.Func, s.Pc}
			saw[at] = append(saw[at], s)
		}
		vm = impl.Step(m, vm)
	}
	if len(p) != len(saw) || !impl.ProfileOk(m, p) {
		t.Fatalf("%v with %v: %v tells of %v", m, args, p, saw)
	}
	for at, list := range saw {
		if got := impl.SiteAt(p, at[0], at[1]); got != allSeen(m, at, list) {
			t.Fatalf("%v with %v: %v tells of %v", m, args, got, list)
		}
	}
}

// allSeen is the Site of an instruction that saw these, each by itself: asked of all of them at once.
func allSeen(m impl.Module, at [2]int, list []impl.Site) impl.Site {
	out := site(at[0], at[1], 0, 0)
	fits := func(s impl.Site) bool { return s.Seen == 1 }
	unlike := func(s impl.Site) bool { return s != list[0] }
	some := slices.ContainsFunc(list, fits)
	all := !slices.ContainsFunc(list, func(s impl.Site) bool { return s.Seen != 1 })
	switch {
	case opAt(m, at[0], at[1]) == impl.OpCall && all && !slices.ContainsFunc(list, unlike):
		return list[0]
	case opAt(m, at[0], at[1]) == impl.OpCall || !some:
		out.Seen = 2
	case all:
		out.Seen = 1
	default:
		out.Seen = 3
	}
	return out
}

// watchedFrom is what is seen from a state on, in so many steps.
func watchedFrom(m impl.Module, vm impl.Vm, steps int) []impl.Site {
	var p []impl.Site
	for ; steps > 0 && vm.Status == impl.StRun; steps-- {
		p = impl.Observe(m, p, vm)
		vm = impl.Step(m, vm)
	}
	return p
}

// checkWatchedRun holds what is watched in a run against the law, against its steps, and against the same run cut
// in two.
func checkWatchedRun(t *testing.T, m impl.Module, args []impl.Value, fuel int, cuts ...int) []impl.Site {
	t.Helper()
	whole := impl.ProfileOf(m, args, fuel)
	mustBeSites(t, "ProfileOf", whole, profileOfByLaw(m, args, fuel), m, args, fuel)
	start, _ := impl.Start(m, args)
	mustBeSites(t, "observed ahead of each step", watchedFrom(m, start, fuel), whole, m, args, fuel)
	checkTells(t, m, args, fuel)
	for _, cut := range cuts {
		cut = min(max(cut, 0), fuel)
		first := impl.ProfileOf(m, args, cut)
		second := watchedFrom(m, impl.Run(m, args, cut), fuel-cut)
		mustBeSites(t, "cut in two", checkMerged(t, m, first, second), whole, m, args, fuel, cut)
		mustBeSites(t, "what is told already", checkMerged(t, m, whole, second), whole, m, args, fuel, cut)
	}
	return whole
}

// watchedRun is a program, and what is watched when it has ended.
type watchedRun struct {
	code string
	args []impl.Value
	trap int
	want []impl.Site
}

// checkWatched cuts each run at each of its steps.
func checkWatched(t *testing.T, list []watchedRun) {
	t.Helper()
	for _, x := range list {
		m := mod(x.code)
		vm := impl.Run(m, x.args, 1000)
		if vm.Trap != x.trap || vm.Status == impl.StRun {
			t.Errorf("%s: ends as %+v", x.code, vm)
		}
		var cuts []int
		for cut := range vm.Steps + 2 {
			cuts = append(cuts, cut)
		}
		for _, fuel := range []int{vm.Steps, vm.Steps + 1} {
			checkSites(t, x.code, checkWatchedRun(t, m, x.args, fuel, cuts...), x.want)
		}
		checkSites(t, x.code+", all fuel", impl.ProfileOf(m, x.args, impl.MaxSteps), x.want)
		for fuel := range vm.Steps {
			mustBeSites(t, "less fuel", impl.ProfileOf(m, x.args, fuel), profileOfByLaw(m, x.args, fuel), m, fuel)
		}
	}
}

// layings lay a value of each kind.
var layings = []string{"int 5", "int -1000000000", "nil", "bool 1", "text 0", "new 1", "fun 0"}

// Each two kinds of values come to each of the four; all but two numbers are something else, trap or not.
func TestWhatSumsSee(t *testing.T) {
	for _, op := range []string{"add", "sub", "mul", "less"} {
		for i, a := range layings {
			for j, b := range layings {
				seen := 2
				if i < 2 && j < 2 {
					seen = 1
				}
				m := mod(`text "a"; func 0 0; ` + a + "; " + b + "; " + op + "; return")
				want := sites(site(0, 2, seen, 0))
				for _, fuel := range []int{3, 4, 5, 100, impl.MaxSteps} {
					checkSites(t, a+", "+b+", "+op, checkWatchedRun(t, m, nil, min(fuel, 100), 1, 2, 3, 4), want)
					checkSites(t, a+", "+b+", "+op, impl.ProfileOf(m, nil, fuel), want)
				}
				for fuel := range 3 {
					checkSites(t, "ahead of it", impl.ProfileOf(m, nil, fuel), nil)
				}
			}
		}
	}
}

func TestRunsOfSums(t *testing.T) {
	takesTwo := "; return; func 2 2; load 0; load 1; "
	trapType, trapOver, trapText := impl.TrType, impl.TrOver, impl.TrText
	var list []watchedRun
	for _, op := range []string{"add", "sub", "mul", "less"} {
		end := takesTwo + op + "; return"
		list = append(list,
			watchedRun{"func 0 0; int 1; int 2; invoke 1; drop; int 3; int 4; invoke 1" + end, nil, 0, sites(site(1, 2, 1, 0))},
			watchedRun{"func 0 0; int 1; int 2; invoke 1; drop; int 3; nil; invoke 1" + end, nil, trapType, sites(site(1, 2, 3, 0))},
			watchedRun{"func 0 0; int 1; int 2; invoke 1; drop; fun 0; int 3; invoke 1" + end, nil, trapType, sites(site(1, 2, 3, 0))},
			watchedRun{"func 0 0; int 1; int 2; invoke 1; drop; new 2; dup; invoke 1" + end, nil, trapType, sites(site(1, 2, 3, 0))},
			watchedRun{"func 0 0; bool 0; bool 1; invoke 1; drop; int 1; int 2; invoke 1" + end, nil, trapType, sites(site(1, 2, 2, 0))})
		if op == "add" || op == "less" {
			list = append(list,
				watchedRun{`text "a"; func 0 0; text 0; text 0; invoke 1; drop; text 0; text 0; invoke 1` + end, nil, 0, sites(site(1, 2, 2, 0))},
				watchedRun{`text "a"; func 0 0; text 0; text 0; invoke 1; drop; int 3; int 4; invoke 1` + end, nil, 0, sites(site(1, 2, 3, 0))},
				watchedRun{`text "a"; func 0 0; int 3; int 4; invoke 1; drop; text 0; text 0; invoke 1` + end, nil, 0, sites(site(1, 2, 3, 0))},
				watchedRun{`text "a"; func 0 0; text 0; int 4; invoke 1; drop; int 0; int 0; invoke 1` + end, nil, trapType, sites(site(1, 2, 2, 0))})
		}
	}
	checkWatched(t, append(list,
		// What comes out does not matter: two numbers, or two texts, that trap are seen as what they are.
		watchedRun{"func 0 0; int 1000000000; int 1; add; return", nil, trapOver, sites(site(0, 2, 1, 0))},
		watchedRun{"func 0 0; int -1000000000; int 1; sub; return", nil, trapOver, sites(site(0, 2, 1, 0))},
		watchedRun{"func 0 0; int 1000000000; int 2; mul; return", nil, trapOver, sites(site(0, 2, 1, 0))},
		watchedRun{`text "` + xs(31) + `"; func 0 0; text 0; text 0; add; return`, nil, trapText, sites(site(0, 2, 2, 0))},
		// The same values are not watched where they are compared otherwise.
		watchedRun{"func 0 0; int 1; int 2; same; not; return", nil, 0, nil},
		watchedRun{"func 1 2; load 0; store 1; load 1; int 3; add; load 0; mul; load 1; less; return", vals(num(4)), 0, sites(site(0, 4, 1, 0), site(0, 6, 1, 0), site(0, 8, 1, 0))},
		watchedRun{"func 1 2; load 0; store 1; load 1; int 3; less; load 0; add; return", vals(num(4)), trapType, sites(site(0, 4, 1, 0), site(0, 6, 2, 0))},
	))
}

func TestRunsOfCalls(t *testing.T) {
	// Function 1 calls what it is given, without a value; function 2 with one.
	callers := "; return; func 1 1; load 0; call 0; return; func 1 1; load 0; load 0; call 1; return; " +
		"func 0 0; nil; return; func 0 0; int 1; return; func 1 1; load 0; return"
	trapType, trapArgs, trapDeep := impl.TrType, impl.TrArgs, impl.TrDeep
	checkWatched(t, []watchedRun{
		{"func 0 0; fun 3; invoke 1" + callers, nil, 0, sites(site(1, 1, 1, 3))},
		{"func 0 0; fun 3; invoke 1; drop; fun 3; invoke 1" + callers, nil, 0, sites(site(1, 1, 1, 3))},
		{"func 0 0; fun 3; invoke 1; drop; fun 4; invoke 1" + callers, nil, 0, sites(site(1, 1, 2, 0))},
		{"func 0 0; fun 4; invoke 1; drop; fun 3; invoke 1; drop; fun 4; invoke 1" + callers, nil, 0, sites(site(1, 1, 2, 0))},
		{"func 0 0; nil; invoke 1" + callers, nil, trapType, sites(site(1, 1, 2, 0))},
		{"func 0 0; int 3; invoke 1" + callers, nil, trapType, sites(site(1, 1, 2, 0))},
		{"func 0 0; bool 1; invoke 1" + callers, nil, trapType, sites(site(1, 1, 2, 0))},
		{"func 0 0; new 3; invoke 1" + callers, nil, trapType, sites(site(1, 1, 2, 0))},
		{`text "fun3"; func 0 0; text 0; invoke 1` + callers, nil, trapType, sites(site(1, 1, 2, 0))},
		{"func 0 0; fun 3; invoke 1; drop; int 3; invoke 1" + callers, nil, trapType, sites(site(1, 1, 2, 0))},
		// A function with another number of parameters is one function as well.
		{"func 0 0; fun 5; invoke 1" + callers, nil, trapArgs, sites(site(1, 1, 1, 5))},
		{"func 0 0; fun 3; invoke 2" + callers, nil, trapArgs, sites(site(2, 2, 1, 3))},
		{"func 0 0; fun 3; invoke 1; drop; fun 5; invoke 1" + callers, nil, trapArgs, sites(site(1, 1, 2, 0))},
		{"func 0 0; fun 5; invoke 2; drop; fun 5; invoke 2" + callers, nil, 0, sites(site(2, 2, 1, 5))},
		// One that calls itself, and function 0, whose number is also that of no Target.
		{"func 0 0; fun 2; invoke 2" + callers, nil, trapDeep, sites(site(2, 2, 1, 2))},
		{"func 0 0; fun 0; call 0; return", nil, trapDeep, sites(site(0, 1, 1, 0))},
		{"func 1 1; load 0; bool 1; call 1; return", vals(fun(0)), trapType, sites(site(0, 2, 2, 0))},
		{"func 0 1; nil; fun 0; load 0; call 1; return", nil, trapArgs, sites(site(0, 3, 1, 0))},
		// An invoke is not watched.
		{"func 0 0; invoke 1; return; func 0 0; fun 2; call 0; return; func 0 0; invoke 3; return; func 0 0; nil; return", nil, 0, sites(site(1, 1, 1, 2))},
		// Sums and calls of several functions, in another order than they were seen.
		{"func 0 0; fun 1; int 2; int 3; call 2; int 1; less; return; func 2 2; load 0; load 1; fun 2; call 0; add; mul; return; func 0 0; int 9; int 8; sub; return", nil, 0,
			sites(site(0, 3, 1, 1), site(0, 5, 1, 0), site(1, 3, 1, 2), site(1, 4, 1, 0), site(1, 5, 1, 0), site(2, 2, 1, 0))},
	})
}

func TestWatchedRunsOfOtherChapters(t *testing.T) {
	for _, x := range append(recordRuns(), wholeRuns()...) {
		vm := impl.Run(x.m, x.args, 700)
		checkWatchedRun(t, x.m, x.args, 700, 0, 1, 2, 17, vm.Steps/2, vm.Steps-1, vm.Steps, 699, 700)
	}
	checkSites(t, "counting", impl.ProfileOf(impl.Module{Funcs: []impl.Func{counting()}}, vals(num(3)), 100), sites(site(0, 4, 1, 0), site(0, 8, 1, 0)))
	checkSites(t, "counting to nothing", impl.ProfileOf(impl.Module{Funcs: []impl.Func{counting()}}, vals(num(0)), 100), sites(site(0, 4, 1, 0)))
}

// manySites has so many sums, up to 50 in a function: from function 1 on, each of them starts with its argument.
// Function 0 lets the last function have its first argument, then the one ahead of it, and so on, and then all of
// them its second one in the same order. 0 and the empty text stay what they are.
func manySites(n int) impl.Module {
	var sums []string
	for ; n > 0; n -= 50 {
		sums = append(sums, "func 1 1; load 0; "+strings.Repeat("dup; add; ", min(n, 50))+"return")
	}
	first := "func 2 2; "
	for arg := range 2 {
		for f := len(sums); f > 0; f-- {
			first += "load " + strconv.Itoa(arg) + "; invoke " + strconv.Itoa(f) + "; drop; "
		}
	}
	return mod(first + "nil; return; " + strings.Join(sums, "; "))
}

// allSums are the Sites of manySites, in order.
func allSums(n int, seen int) []impl.Site {
	var out []impl.Site
	for i := range n {
		out = append(out, site(1+i/50, 2+2*(i%50), seen, 0))
	}
	return out
}

func TestProfilesOfMaxSitesAndOneMore(t *testing.T) {
	at, past := manySites(impl.MaxSites), manySites(impl.MaxSites+1)
	for seen := 1; seen <= 3; seen++ {
		if p := allSums(150, seen); !impl.ProfileOk(at, p) || !impl.ProfileOk(past, p) {
			t.Error("MaxSites Sites are refused")
		}
		if p := allSums(151, seen); impl.ProfileOk(past, p) || impl.ProfileOk(past, append(p, p...)) {
			t.Error("one more than MaxSites is taken")
		}
		for _, i := range []int{0, 70, 150} {
			if p := slices.Delete(allSums(151, seen), i, i+1); !impl.ProfileOk(past, p) {
				t.Error("MaxSites of one more are refused")
			}
		}
	}
	checkSites(t, "one more merged", impl.MergeSites(past, allSums(151, 1), nil), nil)
	checkSites(t, "nothing merged with one more", impl.MergeSites(past, nil, allSums(151, 1)), nil)
	checkSites(t, "one more observed", impl.Observe(past, allSums(151, 1), standing(past, 1, 2, num(1), num(1))), nil)
}

// Where p has MaxSites, a new Site stays out, wherever it would come in; one that is there sees on.
func TestObserveWithMaxSites(t *testing.T) {
	m := manySites(impl.MaxSites + 1)
	for _, i := range []int{0, 1, 49, 50, 75, 149, 150} {
		all := allSums(151, 1)
		full := slices.Delete(allSums(151, 1), i, i+1)
		vm := standing(m, all[i].Func, all[i].Pc, text("a"), num(1))
		checkSites(t, "a new Site", impl.Observe(m, full, vm), full)
		for _, k := range []int{0, 74, 149} {
			want := slices.Clone(full)
			want[k].Seen = 3
			vm := standing(m, full[k].Func, full[k].Pc, text("a"), num(1))
			checkSites(t, "one that is there", impl.Observe(m, full, vm), want)
			short := slices.Delete(slices.Clone(full), k, k+1)
			want[k].Seen = 2
			checkSites(t, "the last one that there is room for", impl.Observe(m, short, vm), want)
		}
		for _, still := range []impl.Vm{trappedIn(vm), standing(m, 1, 0), standing(m, 1, 1)} {
			checkSites(t, "nothing seen", impl.Observe(m, full, still), full)
		}
	}
}

func TestMergeSitesUpToMaxSites(t *testing.T) {
	m := manySites(impl.MaxSites + 1)
	all := func() []impl.Site { return allSums(151, 1) }
	other := func() []impl.Site { return allSums(151, 2) }
	for _, cut := range []int{0, 1, 50, 75, 149, 150} {
		want := slices.Concat(all()[:cut], other()[cut:150])
		checkSites(t, "just MaxSites", checkMerged(t, m, all()[:cut], other()[cut:150]), want)
		checkSites(t, "one more", impl.MergeSites(m, all()[:cut], other()[cut+1:]), slices.Concat(all()[:cut], other()[cut+1:]))
	}
	for _, cut := range []int{1, 50, 75, 149, 150} {
		checkSites(t, "one more", impl.MergeSites(m, all()[:cut], other()[cut:]), nil)
		checkSites(t, "one more, the other way round", impl.MergeSites(m, other()[cut:], all()[:cut]), nil)
	}
	// What stands in both counts once.
	checkSites(t, "all twice", checkMerged(t, m, all()[:150], other()[:150]), allSums(150, 3))
	checkSites(t, "most twice", checkMerged(t, m, all()[:149], other()[1:150]), slices.Concat(all()[:1], allSums(149, 3)[1:], other()[149:150]))
	checkSites(t, "most twice, and one more", checkMerged(t, m, all()[:150], other()[1:]), nil)
	checkSites(t, "MaxSites and a new one", checkMerged(t, m, all()[1:], other()[:1]), nil)
	checkSites(t, "MaxSites and none", checkMerged(t, m, all()[1:], nil), all()[1:])
}

// A run that comes to more than MaxSites instructions tells of those that came first, all that they saw. The last
// function comes first, so the one that stays out is the last of function 1.
func TestRunsOfMaxSitesAndOneMore(t *testing.T) {
	numbers, both := vals(num(0), num(0)), vals(num(0), text(""))
	for n := 149; n <= 150; n++ {
		checkSites(t, "numbers", impl.ProfileOf(manySites(n), numbers, 10000), allSums(n, 1))
		checkSites(t, "both", impl.ProfileOf(manySites(n), both, 10000), allSums(n, 3))
		checkWatchedRun(t, manySites(n), both, 800, 100, 400, 700)
	}
	m := manySites(151)
	checkSites(t, "numbers", impl.ProfileOf(m, numbers, 10000), slices.Delete(allSums(151, 1), 49, 50))
	checkSites(t, "both", impl.ProfileOf(m, both, 10000), slices.Delete(allSums(151, 3), 49, 50))
	start, _ := impl.Start(m, both)
	checkSites(t, "step by step", watchedFrom(m, start, 10000), slices.Delete(allSums(151, 3), 49, 50))
	half := impl.Run(m, both, 10000).Steps / 2
	checkSites(t, "half of it", impl.ProfileOf(m, both, half), slices.Delete(allSums(151, 1), 49, 50))
	// Both halves miss the same, so they can be merged; all together cannot.
	checkSites(t, "both halves", checkMerged(t, m, impl.ProfileOf(m, both, half), watchedFrom(m, impl.Run(m, both, half), 10000)), slices.Delete(allSums(151, 3), 49, 50))
	greatest := manySites(11 * 50)
	checkSites(t, "far more", impl.ProfileOf(greatest, numbers, 10000), allSums(550, 1)[400:])
}

// The sum of a loop of 9 steps sees numbers alone; the one behind it sees two texts in step 50000.
func TestWatchingOfMaxSteps(t *testing.T) {
	m := mod(`text "a"; func 1 1; int 0; store 0; load 0; int 5554; less; ifnot 11; load 0; int 1; add; store 0; jump 2; ` +
		"jump 12; jump 13; jump 14; jump 15; jump 16; text 0; text 0; add; drop; nil; return")
	if vm := impl.Run(m, vals(num(0)), impl.MaxSteps); vm.Steps != impl.MaxSteps || vm.Frames[0].Pc != 19 {
		t.Fatalf("the module is not as told: %+v", vm)
	}
	loop := sites(site(0, 4, 1, 0), site(0, 8, 1, 0))
	checkSites(t, "MaxSteps", impl.ProfileOf(m, vals(num(0)), impl.MaxSteps), append(slices.Clone(loop), site(0, 18, 2, 0)))
	checkSites(t, "one step fewer", impl.ProfileOf(m, vals(num(0)), impl.MaxSteps-1), loop)
	for _, fuel := range []int{-1, impl.MaxSteps + 1, -impl.MaxSteps, 1 << 62, -1 << 63} {
		checkSites(t, "fuel "+strconv.Itoa(fuel), impl.ProfileOf(m, vals(num(0)), fuel), nil)
	}
	checkSites(t, "no fuel", impl.ProfileOf(m, vals(num(0)), 0), nil)
}

// With no fuel nothing is seen, also where the first instruction would be watched but for what it takes.
func TestFuelOfWatching(t *testing.T) {
	ends := mod("func 2 2; load 0; load 1; add; return")
	for _, args := range [][]impl.Value{vals(num(1), num(2)), vals(num(1), impl.Value{})} {
		vm := impl.Run(ends, args, 100)
		want := profileOfByLaw(ends, args, 100)
		for fuel := range 10 {
			if fuel < 3 {
				checkSites(t, "too little fuel", impl.ProfileOf(ends, args, fuel), nil)
			} else {
				checkSites(t, "fuel enough", impl.ProfileOf(ends, args, fuel), want)
			}
		}
		if len(want) != 1 || vm.Status == impl.StRun {
			t.Errorf("%v, %+v", want, vm)
		}
		for _, fuel := range []int{-1, impl.MaxSteps + 1} {
			checkSites(t, "wrong fuel", impl.ProfileOf(ends, args, fuel), nil)
		}
	}
}

func TestProfilesOfWrongStarts(t *testing.T) {
	for _, x := range wrongStarts() {
		for _, fuel := range []int{-1, 0, 1, 100, impl.MaxSteps} {
			checkSites(t, x.name, impl.ProfileOf(x.m, x.args, fuel), nil)
		}
	}
	m := mod("func 2 2; load 0; load 1; add; return")
	for _, args := range [][]impl.Value{nil, vals(num(1)), vals(num(1), num(2), num(3)), vals(rec(0), num(1)), vals(num(1), fun(1)), vals(num(1000000001), num(1))} {
		checkSites(t, "wrong arguments", impl.ProfileOf(m, args, 100), nil)
	}
	checkSites(t, "right arguments", impl.ProfileOf(m, vals(num(1), fun(0)), 100), sites(site(0, 2, 2, 0)))
}

// mixedProgram lets few instructions see many values, of one kind or of several.
func mixedProgram(r *rand.Rand) impl.Module {
	kinds := [][]string{{"int 1", "int 1"}, {"text 0", "text 0"}, {"fun 5"}, {"fun 6"}}
	takers := [][]string{{"1", "2"}, {"1", "2"}, {"3", "4"}, {"3", "4"}}
	code := `text "a"; func 0 0; `
	for range 1 + r.Intn(9) {
		kind := r.Intn(4)
		taker := takers[kind][r.Intn(2)]
		if r.Intn(30) == 0 {
			kind = kind ^ 1
			kinds[kind][0] = "nil"
		}
		code += strings.Join(kinds[kind], "; ") + "; invoke " + taker + "; drop; "
	}
	return mod(code + "nil; return; func 2 2; load 0; load 1; add; return; func 2 2; load 0; load 1; less; return; " +
		"func 1 1; load 0; call 0; return; func 1 1; load 0; call 0; return; " +
		"func 0 0; int 1; int 2; mul; return; func 0 0; int 3; dup; sub; return")
}

// TestManyWatchedRuns asks promise 6 of programs each of which is another one.
func TestManyWatchedRuns(t *testing.T) {
	r := rand.New(rand.NewSource(20))
	seen := map[[2]int]int{}
	for i := range 600 {
		m := randomProgram(r)
		if i%2 == 0 {
			m = mixedProgram(r)
		}
		args := randomArgs(r, m)
		fuel := r.Intn(400)
		for _, s := range checkWatchedRun(t, m, args, fuel, r.Intn(fuel+1), r.Intn(50)) {
			seen[[2]int{opAt(m, s.Func, s.Pc), s.Seen}]++
		}
		more := impl.ProfileOf(m, args, 3000)
		mustBeSites(t, "a long run", more, profileOfByLaw(m, args, 3000), m, args)
		mustBeSites(t, "a run and a longer one", checkMerged(t, m, impl.ProfileOf(m, args, fuel), more), more, m, args)
	}
	for _, want := range [][2]int{
		{impl.OpAdd, 1}, {impl.OpAdd, 2}, {impl.OpAdd, 3}, {impl.OpSub, 1}, {impl.OpSub, 2}, {impl.OpMul, 1}, {impl.OpMul, 2},
		{impl.OpLess, 1}, {impl.OpLess, 2}, {impl.OpLess, 3}, {impl.OpCall, 1}, {impl.OpCall, 2},
	} {
		if seen[want] < 3 {
			t.Errorf("Op %d saw %d in %d runs alone: the programs try too little", want[0], want[1], seen[want])
		}
	}
}

// Two runs of one program with other arguments, merged, tell of all that either saw.
func TestManyRunsOfOneProgram(t *testing.T) {
	r := rand.New(rand.NewSource(21))
	for range 200 {
		m := randomProgram(r)
		p := impl.ProfileOf(m, randomArgs(r, m), 300)
		q := impl.ProfileOf(m, randomArgs(r, m), 300)
		s := impl.ProfileOf(m, randomArgs(r, m), 300)
		both := checkMerged(t, m, p, q)
		mustBeSites(t, "three of them", checkMerged(t, m, both, s), checkMerged(t, m, p, checkMerged(t, m, q, s)), m, p, q, s)
	}
}

// TestManyProfiles holds profiles that no run need tell, and such as are not ok, against the law.
func TestManyProfiles(t *testing.T) {
	r := rand.New(rand.NewSource(22))
	oks := map[bool]int{}
	for range 300 {
		m := randomProgram(r)
		for range 10 {
			p, q := randomSites(r, m), randomSites(r, m)
			if !impl.ProfileOk(m, p) {
				t.Fatalf("%v: %v is refused", m, p)
			}
			checkMerged(t, m, p, q)
			vm := randomState(r, m)
			checkSitesByLaw(t, m, p, vm)
			checkSitesByLaw(t, m, p, spoiled(r, m, vm))
			wrong := spoiledSites(r, p)
			checkSitesByLaw(t, m, wrong, vm)
			checkMerged(t, m, wrong, q)
			oks[impl.ProfileOk(m, wrong)]++
		}
	}
	if oks[true] < 100 || oks[false] < 500 {
		t.Errorf("spoiled profiles are ok or not %v times: they try too little", oks)
	}
}

func FuzzWatching(f *testing.F) {
	r := rand.New(rand.NewSource(23))
	for _, m := range append(someModules(), several(), watchModule(), manySites(151), randomProgram(r), randomProgram(r)) {
		f.Add(told(m), int64(1), 20)
	}
	f.Fuzz(func(t *testing.T, b []byte, seed int64, fuel int) {
		m, ok := impl.Load(b)
		if !ok {
			return
		}
		r := rand.New(rand.NewSource(seed))
		args := randomArgs(r, m)
		if fuel > 300 && fuel <= impl.MaxSteps {
			fuel %= 300
		}
		mustBeSites(t, "ProfileOf", impl.ProfileOf(m, args, fuel), profileOfByLaw(m, args, fuel), m, args, fuel)
		if impl.Verify(m).Code != impl.OK {
			checkSitesByLaw(t, m, nil, impl.Vm{Status: impl.StDone})
			return
		}
		for range 5 {
			p, vm := randomSites(r, m), randomState(r, m)
			wrong := spoiledSites(r, p)
			checkSitesByLaw(t, m, p, vm)
			checkSitesByLaw(t, m, wrong, vm)
			checkSitesByLaw(t, m, p, spoiled(r, m, vm))
			checkMerged(t, m, p, randomSites(r, m))
			checkMerged(t, m, p, wrong)
		}
	})
}
