package tests

import (
	"math/rand"
	"runtime"
	"slices"
	"strings"
	"sync"
	"testing"

	"loop.example/g00094/impl"
)

// doing is what Do is given.
type doing struct {
	m impl.Module
	x impl.Tier
	a impl.Act
}

func (d doing) do() impl.Tier { return impl.Do(d.m, d.x, d.a) }

// spareFails lie behind a list of Fails; with them it would be another one.
func spareFails() []impl.Fail { return fails(fail(0, 2, 1, 3), fail(-1, -1, 9, -1)) }

// spareCodes lie behind a list of codes.
func spareCodes() []impl.Fast { return []impl.Fast{retCode(0, 0, 20, 0), {Func: -1}} }

// roomyTier is x with spare room behind each list, in which lies what would make it another one.
func roomyTier(x impl.Tier) impl.Tier {
	out := impl.Tier{Vm: roomyVm(x.Vm), Sites: roomySites(x.Sites), Guards: x.Guards, Entered: x.Entered}
	for _, c := range x.Codes {
		out.Codes = append(out.Codes, roomyFast(c))
	}
	out.Codes = append(out.Codes, spareCodes()...)[:len(x.Codes)]
	out.Fails = append(slices.Clone(x.Fails), spareFails()...)[:len(x.Fails)]
	return out
}

// untouchedTier tells whether x and the spare room behind its lists are as roomyTier made them.
func untouchedTier(x impl.Tier, was impl.Tier) bool {
	nc := len(was.Codes)
	for i, c := range x.Codes {
		if i >= nc || !untouchedFast(c, was.Codes[i]) {
			return false
		}
	}
	return sameTier(x, was) && untouchedVm(x.Vm, was.Vm) && untouchedSites(x.Sites, was.Sites) &&
		slices.EqualFunc(x.Codes[nc:nc+2], spareCodes(), sameFast) && slices.Equal(x.Fails[:len(was.Fails)+2], slices.Concat(was.Fails, spareFails()))
}

// fillTier writes over all that x's lists have, up to their capacity.
func fillTier(x impl.Tier) {
	fillVm(x.Vm)
	fillSites(x.Sites)
	for _, c := range x.Codes {
		fillFast(c)
	}
	for i := range x.Codes[:cap(x.Codes)] {
		x.Codes[:cap(x.Codes)][i] = retCode(9, 9, 9, 9)
	}
	for i := range x.Fails[:cap(x.Fails)] {
		x.Fails[:cap(x.Fails)][i] = fail(-5, -5, -5, -5)
	}
}

func roomyDoing(d doing) doing {
	a := d.a
	a.Sites = roomySites(a.Sites)
	return doing{roomy(d.m), roomyTier(d.x), a}
}

func untouchedDoing(d doing, was doing) bool {
	return untouched(d.m, was.m) && untouchedTier(d.x, was.x) && untouchedSites(d.a.Sites, was.a.Sites)
}

func fillDoing(d doing) {
	fillLists(d.m)
	fillTier(d.x)
	fillSites(d.a.Sites)
}

// someDoings have acts of each Kind that come to something, and such as come to nothing or are refused.
func someDoings() []doing {
	m, full := tierModule(), fullTier()
	late, wrong := cloneTier(full), cloneTier(full)
	late.Vm.Steps, wrong.Guards = impl.MaxSteps, 3
	out := []doing{{impl.Module{}, impl.Tier{}, impl.Act{}}, {m, impl.Tier{}, runAct(5)}, {codeModule(), full, runAct(5)}}
	list := append(wrongActs(), runAct(0), runAct(1), runAct(40), tierAct(0, 2, true), tierAct(2, 0, false), tierAct(11, 0, false), loopAct(0, 16, 0, false),
		loopAct(0, 5, 0, false), dropAct(0), dropAct(3), dropAct(9), forgeAct(), forgeAct(site(0, 4, 1, 0), site(3, 2, 2, 0)), forgeAct(site(0, 5, 1, 0)))
	for _, x := range []impl.Tier{full, late, wrong, {Vm: full.Vm}} {
		for _, a := range list {
			out = append(out, doing{m, x, a})
		}
	}
	for _, e := range []entering{textCode(), answering(2), answering(4), lateRing().entering()} {
		for _, n := range []int{0, 1, 10, 200} {
			out = append(out, doing{e.m, impl.Tier{Vm: e.vm, Codes: []impl.Fast{e.c}}, runAct(n)})
		}
	}
	texts := mod(`text "of the module"; text "another"; func 1 3; text 0; store 1; load 0; print; load 1; print; text 1; store 2; load 0; load 2; add; print; jump 0`)
	x, _ := impl.NewTier(texts, vals(text("an argument")))
	x = impl.Do(texts, x, tierAct(0, 0, false))
	out = append(out, doing{texts, x, runAct(100)}, doing{texts, x, forgeAct()}, doing{texts, x, tierAct(0, 1, true)})
	r := rand.New(rand.NewSource(94))
	for n := range 60 {
		p := playedProgram(r, n)
		x := randomTier(r, p)
		for _, a := range acts(runAct(1), runAct(30), tierAct(0, 2, true), loopAct(0, entryIn(r, p, 0), 1, false), dropAct(0), forgeAct(boldSites(r, p)...)) {
			out = append(out, doing{p, x, a})
		}
		out = append(out, doing{p, spoiledTier(r, p, x), runAct(9)})
	}
	return out
}

// entering is what is handmade, as RunFast is given it.
func (h handmade) entering() entering {
	vm, _ := impl.Start(h.m, vals(num(9))[:h.m.Funcs[0].Params])
	return entering{h.m, h.c, vm, 0}
}

func TestWhatTiersAreGivenIsNotWrittenInto(t *testing.T) {
	oks := map[bool]int{}
	for _, was := range someDoings() {
		d := roomyDoing(was)
		got := d.do()
		want := impl.Tier{}
		var what happened
		ok := actOkByLaw(was.a) && tierOkByLaw(was.m, was.x)
		if ok {
			want = actedByLaw(was.m, was.x, was.a, &what)
		}
		if !sameTier(got, want) {
			t.Errorf("Do reads behind a list of %+v: %+v, not %+v", was, got, want)
		}
		if impl.TierOk(d.m, d.x) != tierOkByLaw(was.m, was.x) || impl.ActOk(d.a) != actOkByLaw(was.a) || !slices.Equal(impl.BlackOf(d.x), blackByLaw(was.x)) {
			t.Errorf("behind a list of %+v is read", was)
		}
		if !untouchedDoing(d, was) {
			t.Errorf("%+v: written into", was)
		}
		oks[ok]++
	}
	if oks[true] < 300 || oks[false] < 100 {
		t.Errorf("ok or not %v times: they try too little", oks)
	}
}

// What is written into one answer does not show in what was handed in, nor in other answers, nor the other way round.
func TestWhatTiersComeToIsKeptApart(t *testing.T) {
	for _, was := range someDoings() {
		d := roomyDoing(was)
		got, other := d.do(), d.do()
		black, otherBlack := impl.BlackOf(d.x), impl.BlackOf(d.x)
		want, wantBlack := cloneTier(got), slices.Clone(black)
		fillTier(got)
		fillSpecs(black)
		if !untouchedDoing(d, was) {
			t.Errorf("%+v shares memory with what it came to", was)
		}
		if !sameTier(other, want) || !slices.Equal(otherBlack, wantBlack) {
			t.Errorf("%+v: two answers share memory", was)
		}
		if !sameTier(d.do(), want) || !slices.Equal(impl.BlackOf(d.x), wantBlack) {
			t.Errorf("%+v: comes to something else later on", was)
		}
		fillDoing(d)
		if !sameTier(other, want) || !slices.Equal(otherBlack, wantBlack) {
			t.Errorf("%+v: what it came to hangs on what was given", was)
		}
	}
}

// checkTierApart asks of a Tier, which came of something, that no two of its lists share memory.
func checkTierApart(t *testing.T, of any, x impl.Tier) {
	t.Helper()
	want := cloneTier(x)
	for i, c := range x.Codes {
		fillFast(c)
		x.Codes[i], want.Codes[i] = impl.Fast{}, impl.Fast{}
		if !sameTier(x, want) {
			t.Fatalf("%+v: code %d shares memory with something else", of, i)
		}
	}
	if fillSites(x.Sites); !sameVm(x.Vm, want.Vm) || !slices.Equal(x.Fails, want.Fails) {
		t.Fatalf("%+v: Sites share memory with something else", of)
	}
	if !listsApart(x.Vm) {
		t.Fatalf("%+v: two lists of the state share memory", of)
	}
}

func TestTheListsOfATierShareNothing(t *testing.T) {
	for _, was := range someDoings() {
		for _, c := range was.do().Codes {
			checkListsApart(t, was, c)
		}
		checkTierApart(t, was, was.do())
	}
	// Also where those of the one that was given do.
	m := mod("func 0 1; nil; drop; nil; if 2; nil; return")
	given, told := vals(num(1)), srcs(valSrc(0))
	c := retCode(0, 0, 9, 0)
	e := impl.Exit{Kind: impl.ExTrap, Frames: exFrames(exFrame(0, 1, told, told)), Recs: exRecs(exRec(told...))}
	c.Ops, c.Exits = []impl.FOp{{Op: impl.FPrint}, {Op: impl.FRet}}, []impl.Exit{e, e}
	x := impl.Tier{Codes: []impl.Fast{c, c}}
	x.Codes[1].Entry = 2
	x.Vm = impl.Vm{Frames: frames(frame(0, 0, given, nil)), Heap: []impl.Rec{record(given...), record(given...)}, Made: 2}
	x.Vm.Heap[0].Fields, x.Vm.Heap[1].Fields = given, given
	for _, a := range acts(runAct(0), runAct(1), dropAct(11), forgeAct(), loopAct(0, 0, 0, false)) {
		d := doing{m, x, a}
		if got := d.do(); len(got.Codes) != 2 {
			t.Fatalf("%+v: %+v", a, got)
		}
		for _, c := range d.do().Codes {
			checkListsApart(t, d, c)
		}
		checkTierApart(t, d, d.do())
	}
}

// What lies behind an answer's length is none of what was handed in, nor of what there was on the way.
func TestNothingIsHandedOutBehindTiers(t *testing.T) {
	for _, was := range someDoings() {
		d := roomyDoing(was)
		got := d.do()
		checkNothingBehindState(t, was, got.Vm)
		for _, c := range got.Codes {
			checkNothingBehind(t, was, c)
		}
		for _, c := range got.Codes[len(got.Codes):cap(got.Codes)] {
			if !sameFast(c, impl.Fast{}) {
				t.Errorf("%+v: code lies behind those that are told", was)
			}
		}
		if slices.ContainsFunc(got.Sites[len(got.Sites):cap(got.Sites)], func(s impl.Site) bool { return s != impl.Site{} }) ||
			slices.ContainsFunc(got.Fails[len(got.Fails):cap(got.Fails)], func(f impl.Fail) bool { return f != impl.Fail{} }) {
			t.Errorf("%+v: something lies behind Sites or Fails", was)
		}
		if black := impl.BlackOf(d.x); slices.ContainsFunc(black[len(black):cap(black)], func(s impl.Spec) bool { return s != impl.Spec{} }) {
			t.Errorf("%+v: something lies behind %v", was, black)
		}
	}
}

// textsOfTier are all texts of a Tier that have some memory.
func textsOfTier(x impl.Tier) []string {
	out := textsOfVm(x.Vm)
	for _, c := range x.Codes {
		for _, s := range textsOfFast(c) {
			out = append(out, *s)
		}
	}
	return slices.DeleteFunc(out, func(s string) bool { return s == "" })
}

func TestTextsOfTiersAreNewMemory(t *testing.T) {
	texts := 0
	for _, was := range someDoings() {
		e, given := ownedTexts(entering{m: was.m, vm: was.x.Vm})
		x := cloneTier(was.x)
		x.Vm = e.vm
		x.Vm.Value.S = strings.Clone(x.Vm.Value.S)
		for _, c := range x.Codes {
			for _, s := range textsOfFast(c) {
				*s = strings.Clone(*s)
				given = append(given, *s)
			}
		}
		for _, s := range textsOfTier(impl.Do(e.m, x, was.a)) {
			texts++
			for _, whole := range append(given, x.Vm.Value.S) {
				if liesIn(s, whole) {
					t.Fatalf("%+v: %q is in an argument's memory", was, s)
				}
			}
		}
	}
	if texts < 1000 {
		t.Errorf("%d texts alone: they try too little", texts)
	}
}

// script is what Play is given.
type script struct {
	m    impl.Module
	args []impl.Value
	acts []impl.Act
}

func (s script) play() impl.Tier { return impl.Play(s.m, s.args, s.acts) }

// someScripts have acts of all Kinds, also such as are passed over; some do not begin.
func someScripts() []script {
	texts := mod(`text "of the module"; func 2 2; text 0; load 1; add; print; load 0; load 1; add; print; jump 0`)
	out := []script{
		{impl.Module{}, nil, acts(runAct(5))}, {sumModule(), vals(num(1)), acts(runAct(5))}, {sumModule(), vals(num(1), num(2)), nil},
		{texts, vals(text("ahead"), text("behind")), acts(runAct(9), forgeAct(site(0, 6, 1, 0)), tierAct(0, 1, true), runAct(70), loopAct(0, 0, 0, false), runAct(70))},
		{layingModule(), vals(text("a")), append(layingScript(), runAct(1), runAct(3), dropAct(0), runAct(500))},
	}
	r := rand.New(rand.NewSource(95))
	for n := range 60 {
		s := script{m: playedProgram(r, n)}
		s.args = randomArgs(r, s.m)
		for range 20 {
			s.acts = append(s.acts, anyAct(r, s.m, 40))
		}
		out = append(out, s)
	}
	return out
}

func roomyScript(s script) script { return script{roomy(s.m), roomyValues(s.args), roomyActs(s.acts)} }

func untouchedScript(s script, was script) bool {
	return untouched(s.m, was.m) && slices.Equal(s.args[:len(was.args)+2], slices.Concat(was.args, spareValues())) && untouchedActs(s.acts, was.acts)
}

func TestWhatIsPlayedIsNotWrittenIntoAndKeptApart(t *testing.T) {
	for _, was := range someScripts() {
		s := roomyScript(was)
		got, other := s.play(), s.play()
		want := was.play()
		if !sameTier(got, want) || !untouchedScript(s, was) {
			t.Errorf("%+v: is written into, or something behind a list is read", was)
		}
		start, _ := impl.NewTier(s.m, s.args)
		otherStart, _ := impl.NewTier(s.m, s.args)
		wantStart := cloneTier(start)
		checkNothingBehindState(t, was, got.Vm)
		checkTierApart(t, was, s.play())
		fillTier(got)
		fillTier(start)
		if !untouchedScript(s, was) || !sameTier(other, want) || !sameTier(s.play(), want) || !sameTier(otherStart, wantStart) {
			t.Errorf("%+v: shares memory with what it came to, or two answers do", was)
		}
		fillLists(s.m)
		fillActs(s.acts)
		for i := range s.args[:cap(s.args)] {
			s.args[:cap(s.args)][i] = num(-77)
		}
		if !sameTier(other, want) || !sameTier(otherStart, wantStart) {
			t.Errorf("%+v: what it came to hangs on what was given", was)
		}
	}
}

// No call keeps anything for another one, also where others came between that were refused; with one processor and with
// several, whatever order the goroutines come in.
func TestTiersComeToTheSameAgain(t *testing.T) {
	defer runtime.GOMAXPROCS(runtime.GOMAXPROCS(0))
	doings, scripts := someDoings(), someScripts()
	var came []impl.Tier
	for _, d := range doings {
		came = append(came, d.do())
	}
	for _, s := range scripts {
		came = append(came, s.play())
	}
	for _, processors := range []int{1, 2, 8} {
		runtime.GOMAXPROCS(processors)
		for i := range came {
			// From the end on, so that something else came ahead of each.
			i = len(came) - 1 - i
			var got impl.Tier
			if i < len(doings) {
				got = doings[i].do()
			} else {
				got = scripts[i-len(doings)].play()
			}
			if !sameTier(got, came[i]) {
				t.Fatalf("with %d processors %d comes to %+v, not %+v", processors, i, got, came[i])
			}
		}
	}
}

// Several goroutines ask at once, the same and something else.
func TestScriptsAreAskedForAtOnce(t *testing.T) {
	list := someScripts()
	var came []impl.Tier
	for _, s := range list {
		came = append(came, s.play())
	}
	wrong := make([]int, 12)
	var all sync.WaitGroup
	for who := range wrong {
		all.Go(func() {
			for n := range 3 * len(list) {
				i := (n + n/len(list)*who) % len(list)
				if !sameTier(list[i].play(), came[i]) {
					wrong[who]++
				}
			}
		})
	}
	all.Wait()
	if slices.ContainsFunc(wrong, func(n int) bool { return n > 0 }) {
		t.Errorf("came to something else %v times", wrong)
	}
}

// What a call began is at its end when it answers, whatever comes of it: no goroutine is left.
func TestTiersLeaveNoGoroutineBehind(t *testing.T) {
	before := runtime.NumGoroutine()
	for _, d := range someDoings() {
		d.do()
		impl.TierOk(d.m, d.x)
	}
	for _, s := range someScripts() {
		s.play()
	}
	m, x := tierModule(), fullTier()
	for range 500 {
		impl.Do(m, x, tierAct(0, 0, false))
		impl.Do(m, x, tierAct(11, 0, false))
		impl.Do(m, x, impl.Act{})
		impl.Play(m, nil, acts(tierAct(0, 0, false)))
	}
	checkNoneLeft(t, before)
}
