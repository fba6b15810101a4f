package tests

import (
	"math"
	"math/rand"
	"slices"
	"strings"
	"testing"

	"loop.example/g00094/impl"
)

// follower is the plain machine, as far as it had to go so far.
type follower struct {
	m  impl.Module
	vm impl.Vm
}

// comesBy lets it go on to a state that is alike another one, and tells whether there is one.
func (w *follower) comesBy(to impl.Vm) bool {
	for range 20000 {
		if looksAlike(w.vm, to) && impl.Alike(w.m, w.vm, to) {
			return true
		}
		if w.vm.Status != impl.StRun {
			return false
		}
		w.vm = impl.Step(w.m, w.vm)
		w.vm.Steps = 0
	}
	return false
}

// playing is a script that is played act by act, side by side with the plain machine.
type playing struct {
	m      impl.Module
	args   []impl.Value
	plain  follower
	tier   impl.Tier
	script []impl.Act
	failed map[impl.Spec]int
	what   happened
}

func playingOf(t *testing.T, m impl.Module, args []impl.Value) *playing {
	t.Helper()
	tier, ok := impl.NewTier(m, args)
	if !ok {
		t.Fatalf("%v does not begin with %v", m, args)
	}
	return &playing{m: m, args: args, tier: tier, plain: follower{m, cloneVm(tier.Vm)}, failed: map[impl.Spec]int{}}
}

// do does an act, and asks promises 17, 18 and 19 of what comes of it.
func (w *playing) do(t *testing.T, a impl.Act) {
	t.Helper()
	w.script = append(w.script, a)
	if !impl.ActOk(a) {
		return
	}
	next, what := checkDo(t, w.m, w.tier, a)
	fault := func(name string) {
		t.Fatalf("%s: %+v from\n%+v to\n%+v, of %v with %v", name, w.script, w.tier, next, w.m, w.args)
	}
	if !w.plain.comesBy(next.Vm) {
		fault("the plain machine does not come by")
	}
	if !slices.Equal(w.plain.vm.Out, next.Vm.Out) || w.plain.vm.Status != next.Vm.Status || w.plain.vm.Trap != next.Vm.Trap {
		fault("the plain machine comes to something else")
	}
	black := impl.BlackOf(next)
	for _, guess := range what.guards {
		guess.Target = 0
		if w.failed[guess]++; w.failed[guess] > impl.MaxDeopt {
			fault("a guess failed too often")
		}
	}
	for guess, count := range w.failed {
		if slices.Contains(black, guess) != (count == impl.MaxDeopt) {
			fault("not black")
		}
	}
	for _, c := range next.Codes {
		if slices.ContainsFunc(black, func(s impl.Spec) bool { return rests(w.m, c, s) }) {
			fault("code rests on what is black")
		}
	}
	w.tier = next
	w.what.add(what)
}

// played counts what came about in scripts.
type played struct {
	happened
	kinds [6]int
	black int
	ended [3]int
}

// end holds the whole script against what its acts came to one by one, and counts it.
func (w *playing) end(t *testing.T, all *played) {
	t.Helper()
	if got := impl.Play(w.m, w.args, w.script); !sameTier(got, w.tier) {
		t.Fatalf("%+v plays to\n%+v, not\n%+v, of %v with %v", w.script, got, w.tier, w.m, w.args)
	}
	all.add(w.what)
	all.black += len(impl.BlackOf(w.tier))
	all.ended[w.tier.Vm.Status]++
	for _, a := range w.script {
		if impl.ActOk(a) {
			all.kinds[a.Kind]++
		}
	}
}

// checkEnough asks that so much of each kind came about.
func (all *played) checkEnough(t *testing.T, least int) {
	t.Helper()
	counts := append(all.kinds[1:], all.ways[1:]...)
	counts = append(append(counts, all.ended[:]...), all.dropped, all.steps, all.made, all.placed, all.full, all.forged, len(all.guards), all.black)
	for _, n := range counts {
		if n < least {
			t.Errorf("kinds %v, ways %v, ends %v, %d dropped, %d steps, %d made, %d placed, %d not kept, %d forged, %d guards, %d black: the scripts try too little",
				all.kinds, all.ways, all.ended, all.dropped, all.steps, all.made, all.placed, all.full, all.forged, len(all.guards), all.black)
			return
		}
	}
}

// boldSites are Sites of all that can be watched, as if it always came to the same.
func boldSites(r *rand.Rand, m impl.Module) []impl.Site {
	var out []impl.Site
	for _, s := range boldPlan(r, m).Specs {
		out = append(out, site(s.Func, s.Pc, 1, s.Target))
	}
	return out
}

// forgedSites are such as nobody watched, or such as were watched in another run; now and then they are not ok.
func forgedSites(r *rand.Rand, m impl.Module) []impl.Site {
	switch r.Intn(6) {
	case 0:
		return randomSites(r, m)
	case 1:
		return spoiledSites(r, boldSites(r, m))
	case 2:
		return impl.ProfileOf(m, randomArgs(r, m), r.Intn(300))
	case 3:
		return nil
	}
	return boldSites(r, m)
}

// entryIn is one of a function, whether there is such a function or not; now and then it is none.
func entryIn(r *rand.Rand, m impl.Module, f int) int {
	list := impl.EntriesOf(m, f)
	if len(list) == 0 || r.Intn(10) == 0 {
		return r.Intn(impl.MaxCode)
	}
	return list[r.Intn(len(list))]
}

// randomAct is one that is ok, mostly one that comes to something.
func randomAct(r *rand.Rand, m impl.Module, most int) impl.Act {
	f := r.Intn(len(m.Funcs))
	if r.Intn(20) == 0 {
		f = r.Intn(impl.MaxFuncs)
	}
	switch n := r.Intn(20); {
	case n < 8:
		return runAct(edge(r, most))
	case n < 12:
		return tierAct(f, r.Intn(4), r.Intn(2) == 0)
	case n < 16:
		return loopAct(f, entryIn(r, m, f), r.Intn(4), r.Intn(2) == 0)
	case n < 17:
		return dropAct(f)
	}
	return forgeAct(forgedSites(r, m)...)
}

// anyAct is one that need not be ok.
func anyAct(r *rand.Rand, m impl.Module, most int) impl.Act {
	a := randomAct(r, m, most)
	if r.Intn(12) > 0 {
		return a
	}
	field := []*int{&a.Kind, &a.A, &a.B, &a.Lay}[r.Intn(4)]
	*field += []int{1, -1, 5, 500, math.MaxInt, math.MinInt}[r.Intn(6)]
	return a
}

// roundProgram goes round for long, and lets few instructions see values of several kinds in each round; so guesses fail
// again and again.
func roundProgram(r *rand.Rand) impl.Module {
	kinds := [][]string{{"int 1", "load 0"}, {"text 0", "text 0"}, {"fun 5"}, {"fun 6"}}
	takers := [][]string{{"1", "2", "7"}, {"1", "2", "7"}, {"3", "4", "8"}, {"3", "4", "8"}}
	code := `text ""; func 0 1; int 0; store 0; `
	for range 2 + r.Intn(6) {
		kind := r.Intn(4)
		code += strings.Join(kinds[kind], "; ") + "; invoke " + takers[kind][r.Intn(3)] + "; drop; "
	}
	rounds := []string{"3", "30", "300"}[r.Intn(3)]
	return mod(code + "load 0; int 1; add; store 0; load 0; int " + rounds + "; less; if 2; load 0; return; " +
		"func 2 2; load 0; load 1; add; return; func 2 2; load 0; load 1; less; return; func 1 1; load 0; call 0; return; func 1 1; load 0; call 0; return; " +
		"func 0 0; int 1; int 2; mul; return; func 0 0; text 0; dup; less; return; " +
		"func 2 2; load 0; load 1; invoke 1; load 0; load 1; invoke 2; drop; return; func 1 1; load 0; invoke 3; drop; load 0; invoke 4; return")
}

// playedProgram is one of all kinds of programs, of those that go round every other time.
func playedProgram(r *rand.Rand, n int) impl.Module {
	switch {
	case n%2 == 0:
		return roundProgram(r)
	case n%3 == 0:
		return looseProgram(r, n/2)
	}
	return anyProgram(r, n/2)
}

// playDrawn does acts of all kinds, in any order.
func (w *playing) playDrawn(t *testing.T, r *rand.Rand) {
	t.Helper()
	for range 5 + r.Intn(30) {
		w.do(t, anyAct(r, w.m, 40))
	}
}

// playStubborn forges ahead of each run that all came to the same always, and orders code for all entries: so what can
// fail does until it is black.
func (w *playing) playStubborn(t *testing.T, r *rand.Rand) {
	t.Helper()
	for range 3 + r.Intn(12) {
		w.do(t, forgeAct(boldSites(r, w.m)...))
		lay, bare := r.Intn(4), r.Intn(2) == 0
		askings := allAskings(w.m, impl.Plan{})
		r.Shuffle(len(askings), func(i int, k int) { askings[i], askings[k] = askings[k], askings[i] })
		for _, a := range askings[:min(len(askings), 10)] {
			w.do(t, loopAct(a.f, a.entry, lay, bare))
		}
		if r.Intn(5) == 0 {
			w.do(t, dropAct(r.Intn(len(w.m.Funcs))))
		}
		for range 1 + r.Intn(3) {
			w.do(t, runAct([]int{0, 1, 2, 5, 20, 60, 500}[r.Intn(7)]))
		}
	}
}

// TestManyScripts plays scripts of both kinds, with programs of all kinds.
func TestManyScripts(t *testing.T) {
	r := rand.New(rand.NewSource(90))
	var all played
	for n := range 300 {
		m := playedProgram(r, n)
		args := randomArgs(r, m)
		w := playingOf(t, m, args)
		w.playDrawn(t, r)
		w.end(t, &all)
		if n%2 == 0 {
			m = playedProgram(r, n/2)
			w = playingOf(t, m, randomArgs(r, m))
			w.playStubborn(t, r)
			w.end(t, &all)
		}
	}
	all.checkEnough(t, 30)
}

// TestScriptsOfWholePrograms plays them with programs as people write them, and lets these run to their end.
func TestScriptsOfWholePrograms(t *testing.T) {
	r := rand.New(rand.NewSource(91))
	var all played
	for _, x := range append(wholeRuns(), recordRuns()...) {
		for range 6 {
			w := playingOf(t, x.m, x.args)
			w.playDrawn(t, r)
			w.playStubborn(t, r)
			for range 40 {
				w.do(t, runAct(impl.MaxRun))
			}
			w.end(t, &all)
			plain := impl.Run(x.m, x.args, impl.MaxSteps)
			if plain.Status != impl.StRun && !impl.Alike(x.m, w.tier.Vm, plain) {
				t.Errorf("%s: ends in %+v, not in %+v", x.name, w.tier.Vm, plain)
			}
		}
	}
	if all.ended[impl.StDone] < 50 || all.ended[impl.StTrap] < 30 || all.ways[impl.LfReturn] < 50 {
		t.Errorf("ends %v, ways %v: they try too little", all.ended, all.ways)
	}
}

// A program that goes on for ever does up to MaxSteps what the plain machine does, with code and without.
func TestScriptsUpToMaxSteps(t *testing.T) {
	m := mod("func 0 2; int 0; store 0; load 0; int 1; add; dup; store 0; int 1000; less; if 2; int 0; store 0; load 0; invoke 1; drop; jump 2; func 1 1; load 0; load 0; mul; return")
	for _, script := range [][]impl.Act{nil, acts(forgeAct(boldSites(rand.New(rand.NewSource(1)), m)...), tierAct(1, 0, false)), acts(loopAct(0, 2, 0, false)), acts(loopAct(0, 2, 3, true))} {
		x := begun(t, m, nil, script...)
		for range 150 {
			x = impl.Do(m, x, runAct(impl.MaxRun))
		}
		if x.Vm.Status != impl.StRun || x.Vm.Steps != impl.MaxSteps || !impl.TierOk(m, x) {
			t.Error(brief(x))
		}
		plain := follower{m: m}
		plain.vm, _ = impl.Start(m, nil)
		for n := 0; !plain.comesBy(x.Vm); n++ {
			if n == 5 {
				t.Fatalf("the plain machine does not come to %s", brief(x))
			}
		}
		if got := impl.Do(m, x, runAct(impl.MaxRun)); !sameTier(got, x) {
			t.Errorf("goes on to %s", brief(got))
		}
	}
}

// randomTier is a Tier that is ok, whether a script comes to it or not.
func randomTier(r *rand.Rand, m impl.Module) impl.Tier {
	x := impl.Tier{Vm: randomState(r, m), Sites: forgedSites(r, m), Entered: edge(r, impl.MaxNum)}
	for !impl.ProfileOk(m, x.Sites) {
		x.Sites = forgedSites(r, m)
	}
	codes := append(allMade(m, boldPlan(r, m)), randomFast(r, m), randomFast(r, m))
	r.Shuffle(len(codes), func(i int, k int) { codes[i], codes[k] = codes[k], codes[i] })
	for _, c := range codes {
		if r.Intn(3) == 0 {
			c = turned(r, m, c)
		}
		if len(x.Codes) < impl.MaxCodes && !slices.ContainsFunc(x.Codes, func(d impl.Fast) bool { return sameEntry(c, d) }) {
			x.Codes = append(x.Codes, c)
		}
	}
	if len(x.Codes) > 0 && r.Intn(4) > 0 {
		x.Vm = stateAt(r, m, x.Codes[r.Intn(len(x.Codes))])
	}
	if x.Vm.Status == impl.StRun && r.Intn(4) == 0 {
		x.Vm = filled(r, m, x.Vm)
	}
	often := 1 + r.Intn(4)
	for _, s := range watchable(m) {
		if r.Intn(often) == 0 && len(x.Fails) < impl.MaxSites {
			x.Fails = append(x.Fails, fail(s.Func, s.Pc, kindAt(m, s.Func, s.Pc), max(edge(r, impl.MaxCount), 1)))
		}
	}
	r.Shuffle(len(x.Fails), func(i int, k int) { x.Fails[i], x.Fails[k] = x.Fails[k], x.Fails[i] })
	return withFails(x, x.Fails...)
}

// spoiledTier is a Tier with one thing changed somewhere; it is ok still now and then.
func spoiledTier(r *rand.Rand, m impl.Module, was impl.Tier) impl.Tier {
	x := cloneTier(was)
	by := []int{1, -1, 2, -2, math.MaxInt, math.MinInt}[r.Intn(6)]
	switch n := r.Intn(8); {
	case n == 0:
		x.Vm = spoiled(r, m, x.Vm)
	case n == 1:
		x.Sites = spoiledSites(r, x.Sites)
	case n == 2:
		x.Guards += by
	case n == 3:
		x.Entered += by
	case n == 4 && len(x.Codes) > 0:
		x.Codes = append(x.Codes, cloneFast(x.Codes[r.Intn(len(x.Codes))]))
	case n < 6 && len(x.Codes) > 0:
		i := r.Intn(len(x.Codes))
		x.Codes[i] = spoiledFast(r, x.Codes[i])
	case len(x.Fails) > 0:
		f := &x.Fails[r.Intn(len(x.Fails))]
		*[]*int{&f.Func, &f.Pc, &f.Kind, &f.Count}[r.Intn(4)] += by
		if r.Intn(2) == 0 {
			x = withFails(x, x.Fails...)
		}
	}
	return x
}

// TestManyTiers does acts from Tiers to which no script need come, with code that nobody made, and from such as are not
// ok.
func TestManyTiers(t *testing.T) {
	r := rand.New(rand.NewSource(92))
	var all happened
	oks := map[bool]int{}
	for n := range 250 {
		m := playedProgram(r, n)
		was := randomTier(r, m)
		if !checkTierOk(t, m, was) {
			t.Fatalf("%+v\nof %v is refused", was, m)
		}
		for range 4 {
			x := was
			for range 3 {
				next, what := checkDo(t, m, x, randomAct(r, m, impl.MaxRun))
				all.add(what)
				x = next
			}
			checkDo(t, m, was, anyAct(r, m, 20))
			wrong := spoiledTier(r, m, was)
			oks[checkTierOk(t, m, wrong)]++
			checkDo(t, m, wrong, randomAct(r, m, 20))
		}
	}
	if oks[true] < 100 || oks[false] < 300 {
		t.Errorf("spoiled Tiers are ok or not %v times: they try too little", oks)
	}
	for _, n := range append(all.ways[:], len(all.guards), all.nothing, all.dropped, all.steps, all.made, all.placed, all.full, all.forged) {
		if n < 10 {
			t.Errorf("ways %v, %d guards, %d of them not counted, %d dropped, %d steps, %d made, %d placed, %d not kept, %d forged: they try too little",
				all.ways, len(all.guards), all.nothing, all.dropped, all.steps, all.made, all.placed, all.full, all.forged)
			break
		}
	}
}

func FuzzTiers(f *testing.F) {
	r := rand.New(rand.NewSource(93))
	for _, m := range append(someModules(), several(), codeModule(), stateModule(), tierModule(), layingModule(), ringModule(), randomProgram(r), tightProgram(r), roundProgram(r)) {
		f.Add(told(m), int64(1), 20)
	}
	f.Fuzz(func(t *testing.T, b []byte, seed int64, most int) {
		m, ok := impl.Load(b)
		if !ok {
			return
		}
		r := rand.New(rand.NewSource(seed))
		args := randomArgs(r, m)
		if !checkNewTier(t, m, args) {
			checkPlay(t, m, args, acts(runAct(most)))
			checkTierOk(t, m, impl.Tier{Vm: impl.Vm{Status: impl.StDone}})
			return
		}
		most = min(max(most, 1), impl.MaxRun)
		var all played
		w := playingOf(t, m, args)
		for range 10 {
			w.do(t, anyAct(r, m, most))
		}
		w.playStubborn(t, r)
		w.end(t, &all)
		was := randomTier(r, m)
		for _, x := range []impl.Tier{was, w.tier, spoiledTier(r, m, was), spoiledTier(r, m, w.tier)} {
			checkTierOk(t, m, x)
			checkDo(t, m, x, anyAct(r, m, most))
		}
	})
}
