package tests

import (
	"slices"
	"testing"

	"loop.example/g00094/impl"
)

func fail(f int, pc int, kind int, count int) impl.Fail {
	return impl.Fail{Func: f, Pc: pc, Kind: kind, Count: count}
}

func fails(list ...impl.Fail) []impl.Fail { return list }

func acts(list ...impl.Act) []impl.Act { return list }

func runAct(a int) impl.Act { return impl.Act{Kind: impl.AcRun, A: a} }

func tierAct(f int, lay int, bare bool) impl.Act {
	return impl.Act{Kind: impl.AcTier, A: f, Lay: lay, Bare: bare}
}

func loopAct(f int, entry int, lay int, bare bool) impl.Act {
	return impl.Act{Kind: impl.AcLoop, A: f, B: entry, Lay: lay, Bare: bare}
}

func dropAct(f int) impl.Act { return impl.Act{Kind: impl.AcDrop, A: f} }

func forgeAct(list ...impl.Site) impl.Act { return impl.Act{Kind: impl.AcForge, Sites: list} }

// sameTier holds an empty list and nil for the same.
func sameTier(a impl.Tier, b impl.Tier) bool {
	return sameVm(a.Vm, b.Vm) && slices.Equal(a.Sites, b.Sites) && slices.EqualFunc(a.Codes, b.Codes, sameFast) &&
		slices.Equal(a.Fails, b.Fails) && a.Guards == b.Guards && a.Entered == b.Entered
}

func cloneTier(t impl.Tier) impl.Tier {
	t.Vm, t.Sites, t.Codes, t.Fails = cloneVm(t.Vm), slices.Clone(t.Sites), slices.Clone(t.Codes), slices.Clone(t.Fails)
	for i, c := range t.Codes {
		t.Codes[i] = cloneFast(c)
	}
	return t
}

func cloneAct(a impl.Act) impl.Act {
	a.Sites = slices.Clone(a.Sites)
	return a
}

// actOkByLaw is ActOk by the document's words.
func actOkByLaw(a impl.Act) bool {
	noLay, noSites := a.Lay == 0 && !a.Bare, len(a.Sites) == 0
	switch a.Kind {
	case 1:
		return within(a.A, 0, 500) && a.B == 0 && noLay && noSites
	case 2:
		return within(a.A, 0, 11) && a.B == 0 && within(a.Lay, 0, 3) && noSites
	case 3:
		return within(a.A, 0, 11) && within(a.B, 0, 119) && within(a.Lay, 0, 3) && noSites
	case 4:
		return within(a.A, 0, 11) && a.B == 0 && noLay && noSites
	case 5:
		return a.A == 0 && a.B == 0 && noLay && len(a.Sites) <= 150
	}
	return false
}

// kindAt is the Kind of guess that there may be at an instruction, 0 where there is none.
func kindAt(m impl.Module, f int, pc int) int {
	switch opAt(m, f, pc) {
	case 11, 12, 13, 14:
		return 1
	case 23:
		return 2
	}
	return 0
}

// sameEntry tells whether two codes are entered at one place.
func sameEntry(a impl.Fast, b impl.Fast) bool { return a.Func == b.Func && a.Entry == b.Entry }

// tierOkByLaw is TierOk by the document's words.
func tierOkByLaw(m impl.Module, t impl.Tier) bool {
	if !vmOkByLaw(m, t.Vm) || !profileOkByLaw(m, t.Sites) || len(t.Codes) > 8 || len(t.Fails) > 150 {
		return false
	}
	for i, c := range t.Codes {
		twice := func(x impl.Fast) bool { return sameEntry(x, c) }
		if slices.ContainsFunc(t.Codes[:i], twice) || !fastOkByLaw(m, c) {
			return false
		}
	}
	all := 0
	for i, x := range t.Fails {
		twice := func(y impl.Fail) bool { return x.Func == y.Func && x.Pc == y.Pc }
		if slices.ContainsFunc(t.Fails[:i], twice) || x.Kind == 0 || x.Kind != kindAt(m, x.Func, x.Pc) || !within(x.Count, 1, 1000000) {
			return false
		}
		all += x.Count
	}
	return t.Guards == all && within(t.Entered, 0, 1000000000)
}

// blackByLaw is BlackOf by the document's words.
func blackByLaw(t impl.Tier) []impl.Spec {
	var out []impl.Spec
	for _, x := range t.Fails {
		if x.Count > 2 {
			out = append(out, spec(x.Func, x.Pc, x.Kind, 0))
		}
	}
	return out
}

// rests tells whether code does on a guess, whatever its Target is.
func rests(m impl.Module, c impl.Fast, guess impl.Spec) bool {
	return isBlack(impl.SpecsOf(m, c), guess)
}

// happened is what came about in an act.
type happened struct {
	guards  []impl.Spec
	ways    [6]int
	dropped int
	nothing int
	steps   int
	made    int
	placed  int
	full    int
	forged  int
}

// add counts what came about in another act as well.
func (h *happened) add(x happened) {
	h.guards = append(h.guards, x.guards...)
	for kind, n := range x.ways {
		h.ways[kind] += n
	}
	h.dropped, h.nothing, h.steps = h.dropped+x.dropped, h.nothing+x.nothing, h.steps+x.steps
	h.made, h.placed, h.full, h.forged = h.made+x.made, h.placed+x.placed, h.full+x.full, h.forged+x.forged
}

// actedByLaw is Do of what is ok, by the document's words; what other chapters say is asked there.
func actedByLaw(m impl.Module, was impl.Tier, a impl.Act, what *happened) impl.Tier {
	t := cloneTier(was)
	switch a.Kind {
	case 1:
		wentOnByLaw(m, &t, a.A, what)
	case 2, 3:
		madeByLaw(m, &t, a, what)
	case 4:
		t.Codes = slices.DeleteFunc(t.Codes, func(c impl.Fast) bool {
			return c.Func == a.A || slices.Contains(impl.LaidOf(m, c), a.A)
		})
		what.dropped += len(was.Codes) - len(t.Codes)
	case 5:
		if impl.ProfileOk(m, a.Sites) {
			t.Sites = slices.Clone(a.Sites)
			what.forged++
		}
	}
	return t
}

func madeByLaw(m impl.Module, t *impl.Tier, a impl.Act, what *happened) {
	entry := 0
	if a.Kind == 3 {
		entry = a.B
	}
	c, ok := impl.Make(m, a.A, entry, impl.PlanOf(m, t.Sites, blackByLaw(*t), a.Lay, a.Bare))
	if !ok {
		return
	}
	c = impl.Sweep(m, c)
	at := slices.IndexFunc(t.Codes, func(x impl.Fast) bool { return sameEntry(x, c) })
	switch {
	case at >= 0:
		t.Codes[at] = c
		what.placed++
	case len(t.Codes) < 8:
		t.Codes = append(t.Codes, c)
		what.made++
	default:
		what.full++
	}
}

func wentOnByLaw(m impl.Module, t *impl.Tier, most int, what *happened) {
	used := 0
	for t.Vm.Status == 0 && t.Vm.Steps < 50000 && used < most {
		used += enteredByLaw(m, t, most-used, what)
		if t.Vm.Status == 0 && t.Vm.Steps < 50000 && used < most {
			t.Sites = impl.Observe(m, t.Sites, t.Vm)
			t.Vm = impl.Step(m, t.Vm)
			used++
			what.steps++
		}
	}
}

// enteredByLaw is what code does, if there is some, and how much of what is left it uses.
func enteredByLaw(m impl.Module, t *impl.Tier, left int, what *happened) int {
	last := t.Vm.Frames[len(t.Vm.Frames)-1]
	at := slices.IndexFunc(t.Codes, func(c impl.Fast) bool { return c.Func == last.Func && c.Entry == last.Pc })
	if at == -1 {
		return 0
	}
	vm, told := impl.RunFast(m, t.Codes[at], t.Vm, left)
	what.ways[told.Kind]++
	if told == (impl.Left{}) {
		return 0
	}
	t.Vm = vm
	if t.Entered < 1000000000 {
		t.Entered++
	}
	if told.Kind == 2 {
		failedByLaw(m, t, told.Spec, what)
	}
	return told.Steps
}

func failedByLaw(m impl.Module, t *impl.Tier, guess impl.Spec, what *happened) {
	what.guards = append(what.guards, guess)
	at := slices.IndexFunc(t.Fails, func(x impl.Fail) bool { return x.Func == guess.Func && x.Pc == guess.Pc && x.Kind == guess.Kind })
	switch {
	case at == -1 && len(t.Fails) == 150:
		what.nothing++
	case at == -1:
		t.Fails = append(t.Fails, fail(guess.Func, guess.Pc, guess.Kind, 1))
		t.Guards++
	case t.Fails[at].Count == 1000000:
		what.nothing++
	default:
		t.Fails[at].Count++
		t.Guards++
	}
	t.Codes = slices.DeleteFunc(t.Codes, func(c impl.Fast) bool { return rests(m, c, guess) })
}

// checkDo holds Do of anything against the law, asks promise 19 of it, and gives what it answers.
func checkDo(t *testing.T, m impl.Module, was impl.Tier, a impl.Act) (impl.Tier, happened) {
	t.Helper()
	var what happened
	got, want := impl.Do(m, was, a), impl.Tier{}
	ok := impl.ActOk(a) && impl.TierOk(m, was)
	if ok {
		want = actedByLaw(m, was, a, &what)
	}
	if !sameTier(got, want) {
		t.Fatalf("Do %+v of %+v\nof %v:\n%+v, not\n%+v", a, was, m, got, want)
	}
	if ok {
		checkActed(t, m, was, a, got)
	}
	return got, what
}

// checkActed asks promises 18 and 19 of what an act came to, without the law.
func checkActed(t *testing.T, m impl.Module, was impl.Tier, a impl.Act, got impl.Tier) {
	t.Helper()
	fault := func(what string) { t.Fatalf("%s: Do %+v of %+v\nof %v: %+v", what, a, was, m, got) }
	if !impl.TierOk(m, got) {
		fault("not in order")
	}
	ran := a.Kind == impl.AcRun
	if !ran && (!sameVm(got.Vm, was.Vm) || !slices.Equal(got.Fails, was.Fails) || got.Guards != was.Guards || got.Entered != was.Entered) {
		fault("runs")
	}
	if !ran && a.Kind != impl.AcForge && !slices.Equal(got.Sites, was.Sites) {
		fault("watches")
	}
	if a.Kind == impl.AcForge && !slices.EqualFunc(got.Codes, was.Codes, sameFast) {
		fault("changes code")
	}
	for _, c := range got.Codes {
		kept := slices.ContainsFunc(was.Codes, func(x impl.Fast) bool { return sameFast(x, c) })
		asked := within(a.Kind, impl.AcTier, impl.AcLoop) && c.Func == a.A && c.Entry == a.B
		if !kept && !asked {
			fault("has other code")
		}
		if a.Kind == impl.AcDrop && (c.Func == a.A || slices.Contains(impl.LaidOf(m, c), a.A)) {
			fault("keeps what was dropped")
		}
		if asked && slices.ContainsFunc(impl.BlackOf(got), func(s impl.Spec) bool { return !kept && rests(m, c, s) }) {
			fault("guesses what is black")
		}
	}
	if len(got.Vm.Out) < len(was.Vm.Out) || !slices.Equal(got.Vm.Out[:len(was.Vm.Out)], was.Vm.Out) || got.Vm.Steps < was.Vm.Steps || got.Entered < was.Entered {
		fault("goes back")
	}
	if n := len(was.Fails); len(got.Fails) < n || !slices.EqualFunc(got.Fails[:n], was.Fails, func(x impl.Fail, y impl.Fail) bool {
		return x.Func == y.Func && x.Pc == y.Pc && x.Kind == y.Kind && x.Count >= y.Count
	}) {
		fault("forgets what failed")
	}
}

// checkTierOk holds TierOk of anything against the law, and tells what it answers. What is not ok comes to nothing.
func checkTierOk(t *testing.T, m impl.Module, x impl.Tier) bool {
	t.Helper()
	got := impl.TierOk(m, x)
	if want := tierOkByLaw(m, x); got != want {
		t.Fatalf("TierOk of %+v\nof %v: %v", x, m, got)
	}
	if black := impl.BlackOf(x); !slices.Equal(black, blackByLaw(x)) {
		t.Fatalf("BlackOf %v: %v", x.Fails, black)
	}
	for _, a := range acts(runAct(3), runAct(0), tierAct(0, 1, true), dropAct(0), forgeAct()) {
		if next := impl.Do(m, x, a); !got && !sameTier(next, impl.Tier{}) {
			t.Fatalf("Do %+v of %+v, which is not ok\nof %v: %+v", a, x, m, next)
		}
	}
	return got
}

// checkNewTier holds NewTier of anything against the law, and tells whether there is one.
func checkNewTier(t *testing.T, m impl.Module, args []impl.Value) bool {
	t.Helper()
	got, ok := impl.NewTier(m, args)
	vm, want := startByLaw(m, args)
	if ok != want || !sameTier(got, impl.Tier{Vm: vm}) {
		t.Fatalf("NewTier of %v with %v: %+v, %v", m, args, got, ok)
	}
	if ok != impl.TierOk(m, got) {
		t.Fatalf("NewTier of %v with %v is not ok: %+v", m, args, got)
	}
	return ok
}

// checkPlay holds Play against Do of each act that is ok, one behind the other.
func checkPlay(t *testing.T, m impl.Module, args []impl.Value, script []impl.Act) impl.Tier {
	t.Helper()
	got := impl.Play(m, args, script)
	want, ok := impl.NewTier(m, args)
	for _, a := range script {
		if ok && actOkByLaw(a) {
			want = impl.Do(m, want, a)
		}
	}
	if !sameTier(got, want) {
		t.Fatalf("Play %+v of %v with %v:\n%+v, not\n%+v", script, m, args, got, want)
	}
	return got
}
