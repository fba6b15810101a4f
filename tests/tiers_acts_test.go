package tests

import (
	"slices"
	"testing"

	"loop.example/g00094/impl"
)

// wantedModule lays in functions two deep, has a record that need not be made, sums and a call to guess at, and what can
// be swept: something that nobody takes. Code can be entered at 0, and at 2, to which it jumps back.
func wantedModule() impl.Module {
	return mod("func 1 2; nil; drop; load 0; int 3; add; store 0; load 1; nil; same; drop; new 2; store 1; load 1; load 0; invoke 1; put 0; load 0; int 40; less; if 2; " +
		"load 1; get 0; return; " +
		"func 1 1; load 0; invoke 2; fun 3; call 0; mul; return; func 1 1; load 0; invoke 4; return; func 0 0; int 2; return; func 1 1; load 0; load 0; sub; return")
}

func wantedSites() []impl.Site {
	return sites(site(0, 4, 1, 0), site(0, 18, 1, 0), site(1, 3, 1, 3), site(1, 4, 1, 0), site(4, 2, 1, 0))
}

// orderedCode is what one act that asks for code is to bring.
func orderedCode(m impl.Module, x impl.Tier, f int, entry int, lay int, bare bool) (impl.Fast, impl.Fast, bool) {
	c, ok := impl.Make(m, f, entry, impl.PlanOf(m, x.Sites, blackByLaw(x), lay, bare))
	if !ok {
		return c, c, ok
	}
	return impl.Sweep(m, c), c, ok
}

// Each Lay, with Bare and without, makes other code; it is swept.
func TestOrderedCode(t *testing.T) {
	m := wantedModule()
	x := begun(t, m, vals(num(1)), forgeAct(wantedSites()...))
	swept := 0
	for _, at := range [][2]int{{0, 0}, {0, 2}} {
		var met []impl.Fast
		for lay := range 4 {
			for _, bare := range []bool{false, true} {
				want, whole, ok := orderedCode(m, x, at[0], at[1], lay, bare)
				got := behind(t, m, x, loopAct(at[0], at[1], lay, bare))
				if !ok || len(got.Codes) != 1 || !sameFast(got.Codes[0], want) {
					t.Errorf("Lay %d, Bare %v: %s", lay, bare, impl.FastText(m, got.Codes[0]))
				}
				if at[1] == 0 && !sameTier(behind(t, m, x, tierAct(at[0], lay, bare)), got) {
					t.Errorf("Lay %d, Bare %v: asked for at the beginning it is another one", lay, bare)
				}
				if slices.ContainsFunc(met, func(c impl.Fast) bool { return sameFast(c, want) }) {
					t.Errorf("Lay %d, Bare %v: there is no difference", lay, bare)
				}
				if laid := len(impl.LaidOf(m, want)); laid != lay {
					t.Errorf("Lay %d: %d functions are laid in", lay, laid)
				}
				met = append(met, want)
				swept += len(whole.Ops) - len(want.Ops)
			}
		}
	}
	if swept < 8 {
		t.Errorf("%d ops went: there is nothing to be swept", swept)
	}
}

// What was seen when code is asked for counts, not what is seen later on.
func TestOrderedCodeRestsOnWhatWasSeen(t *testing.T) {
	m := sumModule()
	x := begun(t, m, vals(num(1), num(2)))
	for _, c := range []struct {
		list    []impl.Site
		guesses int
	}{{nil, 0}, {sites(site(0, 2, 1, 0)), 1}, {sites(site(0, 2, 2, 0)), 0}, {sites(site(0, 2, 3, 0)), 0}} {
		got := behind(t, m, x, forgeAct(c.list...), tierAct(0, 0, false), forgeAct(site(0, 2, 1, 0)))
		if n := len(impl.SpecsOf(m, got.Codes[0])); n != c.guesses {
			t.Errorf("%v: %d guesses", c.list, n)
		}
	}
	// What the plain machine sees is guessed at once.
	m = mod("func 2 2; load 0; load 1; add; drop; bool 1; if 0; nil; return")
	for _, args := range [][]impl.Value{vals(num(1), num(2)), vals(text("a"), text("b"))} {
		for n := range 5 {
			got := begun(t, m, args, runAct(n), tierAct(0, 3, true))
			if want := map[bool]int{true: 1}[n > 2 && args[0].Kind == impl.VInt]; len(impl.SpecsOf(m, got.Codes[0])) != want {
				t.Errorf("behind %d steps with %v: %v", n, args, impl.SpecsOf(m, got.Codes[0]))
			}
		}
	}
}

func TestBlackGuessesAreLeftOut(t *testing.T) {
	m := mod("func 2 2; load 0; load 1; add; return; func 1 1; load 0; call 0; return; func 0 0; nil; return; func 2 2; load 1; load 0; mul; return; " +
		"func 2 2; load 0; load 1; less; return; func 2 2; load 0; load 1; sub; return")
	all := sites(site(0, 2, 1, 0), site(1, 1, 1, 2), site(3, 2, 1, 0), site(4, 2, 1, 0), site(5, 2, 1, 0))
	for count, black := range map[int]bool{1: false, 2: false, 3: true, 4: true, 1000000: true} {
		for i, s := range all {
			kind, other := kindAt(m, s.Func, s.Pc), all[(i+2)%5]
			list := fails(fail(other.Func, other.Pc, kindAt(m, other.Func, other.Pc), 4-min(count, 3)), fail(s.Func, s.Pc, kind, count))
			x := withFails(begun(t, m, vals(num(1), num(2)), forgeAct(all...)), list...)
			c := behind(t, m, x, tierAct(s.Func, 0, false)).Codes[0]
			if rests(m, c, spec(s.Func, s.Pc, kind, 0)) == black {
				t.Errorf("%d.%d failed %d times: %v", s.Func, s.Pc, count, impl.SpecsOf(m, c))
			}
			// What is black does not go from code that is there already.
			x.Codes = behind(t, m, withFails(x), tierAct(s.Func, 0, false)).Codes
			if got := behind(t, m, x, forgeAct(), dropAct(2)); !sameFast(got.Codes[0], x.Codes[0]) {
				t.Errorf("%d.%d: the code is another one", s.Func, s.Pc)
			}
		}
	}
	// Where it is laid in as well, and of several some.
	l := layingModule()
	x := withFails(begun(t, l, vals(text("a")), allGuessed()), fail(4, 2, 1, 9), fail(2, 2, 1, 2), fail(1, 2, 1, 3))
	c := behind(t, l, x, tierAct(0, 2, true)).Codes[0]
	if got := impl.SpecsOf(l, c); !slices.Equal(got, specs(spec(2, 2, 1, 0))) {
		t.Errorf("%v", got)
	}
}

// Code for an entry that has some already takes its place; other code comes to the end.
func TestThePlacesOfCodes(t *testing.T) {
	m := layingModule()
	x := begun(t, m, vals(text("a")), layingScript()...)
	for at, c := range x.Codes {
		for _, a := range acts(loopAct(c.Func, c.Entry, 0, false), loopAct(c.Func, c.Entry, 1, true), loopAct(c.Func, c.Entry, 3, false)) {
			got := behind(t, m, x, forgeAct(), a)
			if len(got.Codes) != len(x.Codes) {
				t.Fatalf("%+v: %s", a, brief(got))
			}
			for i := range got.Codes {
				want := x.Codes[i]
				if i == at {
					want, _, _ = orderedCode(m, impl.Tier{}, c.Func, c.Entry, a.Lay, a.Bare)
				}
				if !sameFast(got.Codes[i], want) {
					t.Errorf("%+v: code %d is %s", a, i, impl.FastText(m, got.Codes[i]))
				}
			}
		}
		less := behind(t, m, x, dropAct(4))
		less.Codes = slices.DeleteFunc(less.Codes, func(d impl.Fast) bool { return sameEntry(c, d) })
		got := behind(t, m, less, loopAct(c.Func, c.Entry, 1, false))
		if n := len(less.Codes); len(got.Codes) != n+1 || !sameEntry(got.Codes[n], c) || !slices.EqualFunc(got.Codes[:n], less.Codes, sameFast) {
			t.Errorf("%d@%d comes to no end: %s", c.Func, c.Entry, brief(got))
		}
	}
}

func TestMaxCodesAndOneMore(t *testing.T) {
	m := loopsModule(12)
	x := begun(t, m, nil)
	for n := range 8 {
		x = behind(t, m, x, loopAct(n/2, n%2*2, 0, false))
		if len(x.Codes) != n+1 {
			t.Fatal(brief(x))
		}
	}
	want := "0@0 steps 0 entered 0 guards 0 | | 0@0 0@2 1@0 1@2 2@0 2@2 3@0 3@2 |"
	for _, a := range acts(tierAct(4, 0, false), loopAct(11, 2, 3, true), loopAct(4, 0, 0, false), tierAct(0, 0, false), loopAct(3, 2, 0, true)) {
		mustBrief(t, m, x, a, want)
	}
	// One that is there is replaced all the same.
	x.Codes[3], x.Codes[7] = retCode(1, 2, 1, 0), retCode(3, 2, 1, 0)
	got := behind(t, m, x, loopAct(3, 2, 0, false))
	if fresh, _, _ := orderedCode(m, x, 3, 2, 0, false); !sameFast(got.Codes[7], fresh) || !sameFast(got.Codes[3], x.Codes[3]) {
		t.Error(brief(got))
	}
	// Where one went there is room for another one, at the end.
	got = mustBrief(t, m, x, dropAct(1), "0@0 steps 0 entered 0 guards 0 | | 0@0 0@2 2@0 2@2 3@0 3@2 |")
	got = mustBrief(t, m, got, tierAct(9, 0, false), "0@0 steps 0 entered 0 guards 0 | | 0@0 0@2 2@0 2@2 3@0 3@2 9@0 |")
	got = mustBrief(t, m, got, loopAct(1, 2, 0, false), "0@0 steps 0 entered 0 guards 0 | | 0@0 0@2 2@0 2@2 3@0 3@2 9@0 1@2 |")
	mustBrief(t, m, got, tierAct(1, 0, false), "0@0 steps 0 entered 0 guards 0 | | 0@0 0@2 2@0 2@2 3@0 3@2 9@0 1@2 |")
}

func TestCodeThatCannotBeMade(t *testing.T) {
	m := loopsModule(3)
	x := begun(t, m, nil, tierAct(1, 0, false), loopAct(2, 2, 0, false), runAct(1))
	x.Entered, x = 5, withFails(x)
	for f := range impl.MaxFuncs {
		for b := range 9 {
			got := behind(t, m, x, loopAct(f, b, 0, false))
			made := f < 3 && (b == 0 || b == 2)
			if grown := made && !(f == 1 && b == 0 || f == 2 && b == 2); sameTier(got, x) != !grown {
				t.Errorf("%d@%d: %s", f, b, brief(got))
			}
		}
		if got := behind(t, m, x, tierAct(f, 3, true)); sameTier(got, x) != (f == 1 || f >= 3) {
			t.Errorf("%d: %s", f, brief(got))
		}
	}
	for _, b := range []int{3, 5, 6, 119} {
		if got := behind(t, m, x, loopAct(0, b, 2, true)); !sameTier(got, x) {
			t.Errorf("0@%d: %s", b, brief(got))
		}
	}
	// Too many ops: with less laid in there are fewer.
	for n, want := range map[int]int{impl.MaxOps: 1, impl.MaxOps + 1: 0} {
		large := opsModule(n-1, "load 0; return")
		x := begun(t, large, vals(num(1)))
		for _, a := range acts(tierAct(0, 2, false), loopAct(0, 0, 3, false)) {
			if got := behind(t, large, x, a); len(got.Codes) != want {
				t.Errorf("%d ops: %s", n, brief(got))
			}
		}
		// What is there stays where nothing better can be made.
		x = behind(t, large, x, tierAct(0, 0, false))
		if got := behind(t, large, x, tierAct(0, 2, false)); sameTier(got, x) != (want == 0) {
			t.Errorf("%d ops in place of what is there: %s", n, brief(got))
		}
	}
}

func TestDropping(t *testing.T) {
	m := mod("func 1 1; load 0; invoke 1; return; func 1 1; load 0; invoke 2; return; func 1 1; load 0; not; return; func 1 1; load 0; fun 2; load 0; call 1; drop; return; func 0 0; nil; return")
	x := begun(t, m, vals(num(1)), forgeAct(site(3, 3, 1, 2)), tierAct(0, 3, false), tierAct(1, 0, false), tierAct(2, 3, false), tierAct(3, 1, false), tierAct(4, 3, true))
	laid := [][]int{{1, 2}, nil, nil, {2}, nil}
	for i, c := range x.Codes {
		if got := impl.LaidOf(m, c); !slices.Equal(got, laid[i]) {
			t.Fatalf("in %d are laid %v", i, got)
		}
	}
	for f, want := range map[int]string{0: "1@0 2@0 3@0 4@0", 1: "2@0 3@0 4@0", 2: "1@0 4@0", 3: "0@0 1@0 2@0 4@0", 4: "0@0 1@0 2@0 3@0", 5: "0@0 1@0 2@0 3@0 4@0", 11: "0@0 1@0 2@0 3@0 4@0"} {
		mustBrief(t, m, x, dropAct(f), "0@0 steps 0 entered 0 guards 0 | 3.3=1 | "+want+" |")
	}
	got := behind(t, m, x, dropAct(2), dropAct(4))
	mustBrief(t, m, got, dropAct(1), "0@0 steps 0 entered 0 guards 0 | 3.3=1 | |")
	mustBrief(t, m, got, dropAct(2), "0@0 steps 0 entered 0 guards 0 | 3.3=1 | 1@0 |")
	// Both entries of a function go, and what failed is kept in mind.
	loops := loopsModule(2)
	y := begun(t, loops, nil, tierAct(0, 0, false), tierAct(1, 0, false), loopAct(0, 2, 0, false), loopAct(1, 2, 0, false))
	mustBrief(t, loops, y, dropAct(0), "0@0 steps 0 entered 0 guards 0 | | 1@0 1@2 |")
	mustBrief(t, loops, y, dropAct(1), "0@0 steps 0 entered 0 guards 0 | | 0@0 0@2 |")
	full := fullTier()
	if got := behind(t, tierModule(), full, dropAct(0)); got.Guards != full.Guards || got.Entered != 17 || !slices.Equal(got.Fails, full.Fails) {
		t.Error(brief(got))
	}
	// What is dropped can be made again.
	if got := behind(t, m, x, dropAct(4), tierAct(4, 3, true)); !sameTier(got, x) {
		t.Error(brief(got))
	}
}

func TestForging(t *testing.T) {
	m, full := tierModule(), fullTier()
	for name, list := range map[string][]impl.Site{
		"none": nil, "an empty list": {}, "one": sites(site(0, 2, 3, 0)), "a call": sites(site(0, 15, 1, 3)), "one of which there can be no guess": sites(site(0, 15, 1, 1), site(1, 1, 2, 0)),
		"all": {site(0, 2, 1, 0), site(0, 4, 2, 0), site(0, 6, 3, 0), site(0, 8, 1, 0), site(0, 11, 1, 2), site(0, 15, 2, 0), site(1, 1, 1, 2), site(2, 2, 2, 0), site(3, 2, 1, 0)},
	} {
		got := behind(t, m, full, forgeAct(list...))
		want := full
		want.Sites = list
		if !sameTier(got, want) {
			t.Errorf("%s: %s", name, brief(got))
		}
	}
	for name, list := range map[string][]impl.Site{
		"Seen 0": sites(site(0, 2, 0, 0)), "Seen 4": sites(site(0, 2, 4, 0)), "a call that saw both": sites(site(0, 11, 3, 0)),
		"no such instruction": sites(site(0, 3, 1, 0)), "no such function": sites(site(4, 2, 1, 0)), "twice": sites(site(0, 2, 1, 0), site(0, 2, 1, 0)),
		"another order": sites(site(0, 4, 1, 0), site(0, 2, 1, 0)), "a Target of a sum": sites(site(0, 2, 1, 1)), "a Target that is none": sites(site(0, 11, 1, 4)),
		"the last of some": sites(site(0, 2, 1, 0), site(0, 4, 1, 0), site(0, 6, 9, 0)), "far too many": make([]impl.Site, 150),
	} {
		if got := behind(t, m, full, forgeAct(list...)); !sameTier(got, full) {
			t.Errorf("%s: %s", name, brief(got))
		}
	}
	// What was seen goes on from there.
	x := begun(t, sumModule(), vals(text("a"), text("b")), forgeAct(site(0, 2, 1, 0)), runAct(3))
	if !slices.Equal(x.Sites, sites(site(0, 2, 3, 0))) {
		t.Error(brief(x))
	}
	many := manySites(impl.MaxSites + 1)
	for seen := 1; seen <= 3; seen++ {
		if got := begun(t, many, vals(num(0), num(0)), forgeAct(allSums(150, seen)...)); !slices.Equal(got.Sites, allSums(150, seen)) {
			t.Error(brief(got))
		}
	}
}

// wrongActs are not ok in any module.
func wrongActs() []impl.Act {
	bare, sited := runAct(3), dropAct(0)
	bare.Bare, sited.Sites = true, sites(site(0, 2, 1, 0))
	return acts(impl.Act{}, runAct(-1), runAct(501), tierAct(12, 0, false), tierAct(-1, 0, false), tierAct(0, 4, false), loopAct(0, -1, 0, false), loopAct(0, 120, 0, false),
		dropAct(12), dropAct(-1), forgeAct(allSums(151, 1)...), bare, sited, impl.Act{Kind: 6}, impl.Act{Kind: -1}, impl.Act{Kind: impl.AcTier, B: 1})
}

func TestActsThatAreNotOk(t *testing.T) {
	full := fullTier()
	for _, a := range wrongActs() {
		if got := behind(t, tierModule(), full, a); !sameTier(got, impl.Tier{}) {
			t.Errorf("%+v: %+v", a, got)
		}
		// The zero Tier is of no program.
		if got := impl.Do(tierModule(), impl.Tier{}, a); !sameTier(got, impl.Tier{}) {
			t.Errorf("%+v of the zero Tier: %+v", a, got)
		}
	}
	for _, a := range greatestActs() {
		if got := behind(t, tierModule(), full, a); sameTier(got, impl.Tier{}) {
			t.Errorf("%+v: nothing comes of it", a)
		}
		for _, m := range []impl.Module{{}, codeModule(), sumModule(), one(dropIns)} {
			if got := impl.Do(m, full, a); !sameTier(got, impl.Tier{}) {
				t.Errorf("%+v in another module: %+v", a, got)
			}
		}
	}
}

// Each act that is not ok is passed over, wherever it stands.
func TestPlayingWithActsThatAreNotOk(t *testing.T) {
	m, args := layingModule(), vals(text("a"))
	script := append(layingScript(), runAct(1), runAct(3), dropAct(0), runAct(500))
	want := checkPlay(t, m, args, script)
	if brief(want) != "trap 1 steps 9 entered 2 guards 2 | 1.2=3 2.2=3 4.2=1 | 4@0 | 1.2:1 2.2:1" {
		t.Error(brief(want))
	}
	for n := range len(script) + 1 {
		checkPlay(t, m, args, script[:n])
		for _, a := range wrongActs() {
			if got := checkPlay(t, m, args, slices.Insert(slices.Clone(script), n, a)); !sameTier(got, want) {
				t.Errorf("%+v at %d: %s", a, n, brief(got))
			}
		}
	}
	if got := checkPlay(t, m, args, wrongActs()); brief(got) != "0@0 steps 0 entered 0 guards 0 | | |" {
		t.Error(brief(got))
	}
}

func TestPlaying(t *testing.T) {
	for _, x := range append(wholeRuns(), recordRuns()...) {
		start, _ := impl.NewTier(x.m, x.args)
		if got := checkPlay(t, x.m, x.args, nil); !sameTier(got, start) {
			t.Errorf("%s: nothing played is %+v", x.name, got)
		}
		for _, n := range []int{0, 1, 100, 500} {
			got := checkPlay(t, x.m, x.args, acts(runAct(n)))
			if want := (impl.Tier{Vm: impl.Run(x.m, x.args, n), Sites: impl.ProfileOf(x.m, x.args, n)}); !sameTier(got, want) {
				t.Errorf("%s: %d steps are %s, not %s", x.name, n, brief(got), brief(want))
			}
		}
	}
	// Arguments with which the program does not begin.
	m := sumModule()
	for _, args := range [][]impl.Value{nil, vals(num(1)), vals(num(1), num(2), num(3)), vals(num(1), rec(0)), vals(num(1), fun(1)), vals(num(1000000001), num(0)), vals(text("\n"), num(0))} {
		for _, script := range [][]impl.Act{nil, acts(runAct(500)), acts(runAct(500), tierAct(0, 0, false)), wrongActs()} {
			if got := checkPlay(t, m, args, script); !sameTier(got, impl.Tier{}) {
				t.Errorf("%v: %+v", args, got)
			}
		}
	}
}
