package tests

import (
	"fmt"
	"slices"
	"testing"

	"loop.example/g00094/impl"
)

// withFails is x with these Fails, and as many Guards.
func withFails(x impl.Tier, list ...impl.Fail) impl.Tier {
	x.Fails, x.Guards = list, 0
	for _, f := range list {
		x.Guards += f.Count
	}
	return x
}

func TestCountsOfAGuessThatFails(t *testing.T) {
	for _, x := range []struct{ was, count, guards int }{
		{1, 2, 2}, {2, 3, 3}, {3, 4, 4}, {999998, 999999, 999999}, {999999, 1000000, 1000000}, {1000000, 1000000, 1000000},
	} {
		tier := withFails(sumTier(t, text("a"), text("b")), fail(0, 2, 1, x.was))
		want := fmt.Sprintf("0@2 steps 1 entered 1 guards %d | 0.2=1 | | 0.2:%d", x.guards, x.count)
		mustBrief(t, sumModule(), tier, runAct(1), want)
	}
	mustBrief(t, sumModule(), sumTier(t, text("a"), text("b")), runAct(1), "0@2 steps 1 entered 1 guards 1 | 0.2=1 | | 0.2:1")
	// The guess at a call: there is a Fail of it whatever function was guessed.
	m := mod("func 1 1; load 0; call 0; return; func 0 0; int 1; return; func 0 0; int 2; return")
	for _, target := range []int{1, 2} {
		for _, arg := range vals(fun(3-target), num(4), impl.Value{}) {
			x := begun(t, m, vals(arg), forgeAct(site(0, 1, 1, target)), tierAct(0, 0, false))
			mustBrief(t, m, x, runAct(1), "0@1 steps 1 entered 1 guards 1 | 0.1=1 | | 0.1:1")
			mustBrief(t, m, withFails(x, fail(0, 1, 2, 7)), runAct(1), "0@1 steps 1 entered 1 guards 8 | 0.1=1 | | 0.1:8")
			if got := behind(t, m, x, runAct(1)).Fails[0]; got != fail(0, 1, 2, 1) {
				t.Errorf("function %d, and %v: %+v", target, arg, got)
			}
		}
	}
}

// A new Fail comes to the end; of one that is there the Count alone is another one, wherever it stands.
func TestThePlacesOfFails(t *testing.T) {
	m := tierModule()
	x := begun(t, m, vals(text("a"), num(1)), forgeAct(site(0, 2, 1, 0)), tierAct(0, 0, false))
	others := fails(fail(3, 2, 1, 2), fail(0, 11, 2, 1000000), fail(1, 1, 2, 1), fail(0, 4, 1, 3))
	for n := range len(others) + 1 {
		list := slices.Clone(others[:n])
		got := behind(t, m, withFails(x, list...), runAct(1))
		if want := append(list, fail(0, 2, 1, 1)); !slices.Equal(got.Fails, want) {
			t.Errorf("new behind %v: %v", list, got.Fails)
		}
		list = slices.Insert(slices.Clone(others), n, fail(0, 2, 1, 5))
		was := withFails(x, slices.Clone(list)...)
		got = behind(t, m, was, runAct(1))
		list[n].Count = 6
		if !slices.Equal(got.Fails, list) || got.Guards != was.Guards+1 {
			t.Errorf("at %d: %v, with %d Guards of %d", n, got.Fails, got.Guards, was.Guards)
		}
	}
}

// lastFirst is a program of 151 sums, with code of the function that comes first, which is the last one and has the last
// sum, or of the one that comes last, which has the first sum.
func lastFirst(t *testing.T, f int) (impl.Module, impl.Tier) {
	m := manySites(impl.MaxSites + 1)
	return m, begun(t, m, vals(text(""), num(0)), forgeAct(site(f, 2, 1, 0)), tierAct(f, 0, false))
}

func TestFailsUpToMaxSites(t *testing.T) {
	m, x := lastFirst(t, 4)
	for n, want := range map[int]int{0: 1, 1: 1, 148: 1, 149: 1, 150: 0} {
		list := sumFails(n, 2)
		got := behind(t, m, withFails(x, list...), runAct(3))
		if len(got.Fails) != n+want || got.Guards != 2*n+want || got.Entered != 1 || len(got.Codes) != 0 {
			t.Errorf("%d others: %s", n, brief(got))
		}
		if !slices.Equal(got.Fails[:n], list) || want == 1 && got.Fails[n] != fail(4, 2, 1, 1) {
			t.Errorf("%d others: %v", n, got.Fails)
		}
	}
	// A guess that is among them counts on, though there are MaxSites.
	for at := range 150 {
		if at%30 > 0 && at != 149 {
			continue
		}
		list := slices.Insert(sumFails(149, 1), at, fail(4, 2, 1, 2))
		got := behind(t, m, withFails(x, slices.Clone(list)...), runAct(3))
		list[at].Count = 3
		if !slices.Equal(got.Fails, list) || got.Guards != 152 || len(got.Codes) != 0 {
			t.Errorf("at %d of MaxSites: %s", at, brief(got))
		}
	}
	m, x = lastFirst(t, 1)
	got := behind(t, m, withFails(x, sumFails(150, 1)...), runAct(500))
	if got.Guards != 151 || len(got.Fails) != 150 || got.Fails[0] != fail(1, 2, 1, 2) || len(got.Codes) != 0 {
		t.Errorf("the first one: %s", brief(got))
	}
	// Where neither is counted, the code goes all the same, and so it is each time anew.
	m, x = lastFirst(t, 4)
	x = withFails(x, sumFails(150, 1000000)...)
	got = behind(t, m, x, runAct(3))
	if !slices.Equal(got.Fails, x.Fails) || got.Guards != x.Guards || len(got.Codes) != 0 || got.Entered != 1 {
		t.Errorf("MaxSites others: %s", brief(got))
	}
	got = behind(t, m, got, tierAct(4, 0, false))
	if len(impl.SpecsOf(m, got.Codes[0])) != 1 {
		t.Error("a guess that was not counted is not made again")
	}
}

// layingModule has a sum in function 1 and a product in function 2; function 0 calls the first of them ahead of its loop,
// and the second within it, function 3 calls the first as well. Function 4 has a sum of its own.
func layingModule() impl.Module {
	sum := "; func 1 1; load 0; load 0; add; return"
	return mod("func 1 1; load 0; invoke 1; drop; load 0; invoke 2; drop; bool 1; if 3; nil; return" + sum +
		"; func 1 1; load 0; load 0; mul; return; func 1 1; load 0; invoke 1; return" + sum)
}

func allGuessed() impl.Act { return forgeAct(site(1, 2, 1, 0), site(2, 2, 1, 0), site(4, 2, 1, 0)) }

// layingScript has code made for each entry of layingModule, with what is called laid in.
func layingScript() []impl.Act {
	return acts(allGuessed(), tierAct(0, 1, false), loopAct(0, 3, 1, false), tierAct(1, 1, false), tierAct(2, 1, false), tierAct(3, 1, false), tierAct(4, 1, false))
}

func TestWhichCodeGoes(t *testing.T) {
	m := layingModule()
	x := begun(t, m, vals(text("a")), layingScript()...)
	if brief(x) != "0@0 steps 0 entered 0 guards 0 | 1.2=1 2.2=1 4.2=1 | 0@0 0@3 1@0 2@0 3@0 4@0 |" {
		t.Fatal(brief(x))
	}
	// The sum fails where it was laid in: all goes in which it is. What stays keeps its order.
	got := mustBrief(t, m, x, runAct(1), "1@2 steps 2 entered 1 guards 1 | 1.2=1 2.2=1 4.2=1 | 0@3 2@0 4@0 | 1.2:1")
	for i, old := range []int{1, 3, 5} {
		if !sameFast(got.Codes[i], x.Codes[old]) {
			t.Errorf("code %d is another one", i)
		}
	}
	// Then it is watched, and the product fails, where it was laid in as well.
	got = behind(t, m, got, runAct(3))
	got = mustBrief(t, m, got, runAct(1), "2@2 steps 8 entered 2 guards 2 | 1.2=3 2.2=1 4.2=1 | 4@0 | 1.2:1 2.2:1")
	mustBrief(t, m, got, runAct(1), "trap 1 steps 9 entered 2 guards 2 | 1.2=3 2.2=3 4.2=1 | 4@0 | 1.2:1 2.2:1")
	// In whatever order they are.
	slices.Reverse(x.Codes)
	mustBrief(t, m, x, runAct(1), "1@2 steps 2 entered 1 guards 1 | 1.2=1 2.2=1 4.2=1 | 4@0 2@0 0@3 | 1.2:1")
	// What fails alone is another one's part: the code that is entered is not the one that has the function as its own.
	x.Codes = slices.DeleteFunc(x.Codes, func(c impl.Fast) bool { return c.Func == 0 })
	got = behind(t, m, x, runAct(1))
	mustBrief(t, m, got, runAct(2), "1@2 steps 3 entered 1 guards 1 | 1.2=1 2.2=1 4.2=1 | 4@0 2@0 | 1.2:1")
}

// Code in which the same instruction is, but no guess at it, stays; so does code that guesses at the same place of another
// function.
func TestCodeThatStaysWhereAGuessFails(t *testing.T) {
	m := layingModule()
	x := begun(t, m, vals(text("a")), tierAct(0, 1, false), tierAct(3, 1, true), tierAct(1, 0, true), allGuessed(), tierAct(4, 0, false), tierAct(2, 0, false))
	x = mustBrief(t, m, x, runAct(1), "0@3 steps 4 entered 1 guards 0 | 1.2=1 2.2=1 4.2=1 | 0@0 3@0 1@0 4@0 2@0 |")
	mustBrief(t, m, x, runAct(3), "2@2 steps 7 entered 2 guards 1 | 1.2=1 2.2=1 4.2=1 | 0@0 3@0 1@0 4@0 | 2.2:1")
	x = begun(t, m, vals(text("a")), tierAct(3, 1, true), tierAct(0, 0, true), allGuessed(), tierAct(4, 0, false), tierAct(2, 0, false), tierAct(1, 0, false))
	x = behind(t, m, x, runAct(2))
	mustBrief(t, m, x, runAct(1), "1@2 steps 3 entered 2 guards 1 | 1.2=1 2.2=1 4.2=1 | 3@0 0@0 4@0 2@0 | 1.2:1")
}

// All code goes that guesses at a call, whichever function it guesses.
func TestCodeThatGuessesAnotherTarget(t *testing.T) {
	m := mod("func 1 1; load 0; call 0; return; func 0 0; int 1; return; func 0 0; int 2; return; func 1 1; load 0; invoke 0; return; func 1 1; load 0; call 0; return")
	x := begun(t, m, vals(fun(2)), forgeAct(site(0, 1, 1, 1), site(4, 1, 1, 1)), tierAct(0, 0, false), tierAct(4, 0, false),
		forgeAct(site(0, 1, 1, 2)), tierAct(3, 3, false), tierAct(2, 0, false))
	if specs := impl.SpecsOf(m, x.Codes[2]); len(specs) != 1 || specs[0] != spec(0, 1, 2, 2) {
		t.Fatal(specs)
	}
	mustBrief(t, m, x, runAct(1), "0@1 steps 1 entered 1 guards 1 | 0.1=1 | 4@0 2@0 | 0.1:1")
}

// againModule calls function 1 for ever, and that adds its argument to itself, or calls it.
func againModule(does string) impl.Module {
	return mod("func 1 1; load 0; invoke 1; drop; bool 1; if 0; nil; return; func 1 1; load 0; " + does + "; return; func 0 0; nil; return; func 0 0; int 1; return")
}

// A guess fails MaxDeopt times, however often it is forged; from then on code is made without it, and stays.
func TestAGuessThatFailsAgainAndAgain(t *testing.T) {
	for _, x := range []struct {
		does string
		arg  impl.Value
		seen impl.Site
	}{
		{"load 0; add", text(""), site(1, 2, 1, 0)},
		{"call 0", fun(2), site(1, 1, 1, 3)},
	} {
		m := againModule(x.does)
		for _, order := range acts(tierAct(1, 0, false), tierAct(1, 3, true), loopAct(1, 0, 1, false), tierAct(0, 1, false), loopAct(0, 0, 2, true)) {
			tier := begun(t, m, vals(x.arg))
			for n := 1; n <= 7; n++ {
				tier = behind(t, m, tier, forgeAct(x.seen), order)
				if guesses := len(impl.SpecsOf(m, tier.Codes[0])); guesses != map[bool]int{true: 1}[n <= impl.MaxDeopt] {
					t.Fatalf("%s, %+v: %d guesses behind %d rounds", x.does, order, guesses, n-1)
				}
				tier = behind(t, m, tier, runAct(40))
				if tier.Guards != min(n, impl.MaxDeopt) || tier.Fails[0].Count != tier.Guards || len(tier.Codes) != map[bool]int{true: 1}[n > impl.MaxDeopt] {
					t.Fatalf("%s, %+v: behind %d rounds %s", x.does, order, n, brief(tier))
				}
			}
		}
	}
}

// Code that was made ahead of it, and that rests on the guess too, is gone at once: it cannot fail a time more.
func TestNoCodeIsLeftThatCouldFailMore(t *testing.T) {
	m := againModule("load 0; add")
	x := begun(t, m, vals(text("")))
	for range impl.MaxDeopt {
		x = behind(t, m, x, forgeAct(site(1, 2, 1, 0)), tierAct(0, 1, false), tierAct(1, 0, false), runAct(40))
		if len(x.Codes) != 0 {
			t.Fatal(brief(x))
		}
		x = behind(t, m, x, runAct(100), runAct(100))
	}
	if x.Guards != impl.MaxDeopt {
		t.Error(brief(x))
	}
}
