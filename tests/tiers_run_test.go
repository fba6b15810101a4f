package tests

import (
	"fmt"
	"slices"
	"strings"
	"testing"

	"loop.example/g00094/impl"
)

// brief tells of a Tier in one line: where the program stands, or how it has ended, its Steps, Entered and Guards; then
// the Sites, where code is entered, and the Fails.
func brief(x impl.Tier) string {
	out := []string{}
	say := func(format string, args ...any) { out = append(out, fmt.Sprintf(format, args...)) }
	switch x.Vm.Status {
	case impl.StDone:
		say("done %s", impl.ValueText(x.Vm.Value, x.Vm.Heap))
	case impl.StTrap:
		say("trap %d", x.Vm.Trap)
	default:
		last := x.Vm.Frames[len(x.Vm.Frames)-1]
		say("%d@%d", last.Func, last.Pc)
	}
	say("steps %d entered %d guards %d |", x.Vm.Steps, x.Entered, x.Guards)
	for _, s := range x.Sites {
		say("%d.%d=%d", s.Func, s.Pc, s.Seen)
	}
	say("|")
	for _, c := range x.Codes {
		say("%d@%d", c.Func, c.Entry)
	}
	say("|")
	for _, f := range x.Fails {
		say("%d.%d:%d", f.Func, f.Pc, f.Count)
	}
	return strings.Join(out, " ")
}

// behind is what comes of a script from a Tier on; each act is held against the law.
func behind(t *testing.T, m impl.Module, x impl.Tier, script ...impl.Act) impl.Tier {
	t.Helper()
	for _, a := range script {
		x, _ = checkDo(t, m, x, a)
	}
	return x
}

// begun is a Tier at the beginning of a program, and behind a script.
func begun(t *testing.T, m impl.Module, args []impl.Value, script ...impl.Act) impl.Tier {
	t.Helper()
	x, ok := impl.NewTier(m, args)
	if !ok {
		t.Fatalf("%v does not begin with %v", m, args)
	}
	return behind(t, m, x, script...)
}

// mustBrief does an act, and holds what comes of it against what is written.
func mustBrief(t *testing.T, m impl.Module, x impl.Tier, a impl.Act, want string) impl.Tier {
	t.Helper()
	got := behind(t, m, x, a)
	if brief(got) != want {
		t.Errorf("%+v of %s:\n  %s, not\n  %s", a, brief(x), brief(got), want)
	}
	return got
}

// sumModule adds its two arguments.
func sumModule() impl.Module { return mod("func 2 2; load 0; load 1; add; return") }

// sumTier has code for it that guesses two numbers. The code has five ops, the first of which asks for the first one.
func sumTier(t *testing.T, a impl.Value, b impl.Value) impl.Tier {
	t.Helper()
	return begun(t, sumModule(), vals(a, b), forgeAct(site(0, 2, 1, 0)), tierAct(0, 0, false))
}

// What code uses may be more than was left; behind it comes a step of the plain machine, if there is one left.
func TestRunningSoFar(t *testing.T) {
	numbers := func() impl.Tier { return sumTier(t, num(3), num(4)) }
	mustBrief(t, sumModule(), numbers(), runAct(0), "0@0 steps 0 entered 0 guards 0 | 0.2=1 | 0@0 |")
	for _, a := range []int{1, 2, 4, 5, 6, 500} {
		mustBrief(t, sumModule(), numbers(), runAct(a), "done 7 steps 5 entered 1 guards 0 | 0.2=1 | 0@0 |")
	}
	texts := func() impl.Tier { return sumTier(t, text("a"), text("b")) }
	for a, want := range []string{
		"0@0 steps 0 entered 0 guards 0 | 0.2=1 | 0@0 |",
		"0@2 steps 1 entered 1 guards 1 | 0.2=1 | | 0.2:1",
		"0@3 steps 2 entered 1 guards 1 | 0.2=3 | | 0.2:1",
		"done ab steps 3 entered 1 guards 1 | 0.2=3 | | 0.2:1",
		"done ab steps 3 entered 1 guards 1 | 0.2=3 | | 0.2:1",
	} {
		mustBrief(t, sumModule(), texts(), runAct(a), want)
	}
	// The second one is asked for by the second op.
	mixed := sumTier(t, num(3), text("b"))
	for a, want := range []string{
		"0@0 steps 0 entered 0 guards 0 | 0.2=1 | 0@0 |",
		"0@2 steps 2 entered 1 guards 1 | 0.2=1 | | 0.2:1",
		"0@2 steps 2 entered 1 guards 1 | 0.2=1 | | 0.2:1",
		"trap 1 steps 3 entered 1 guards 1 | 0.2=3 | | 0.2:1",
	} {
		mustBrief(t, sumModule(), mixed, runAct(a), want)
	}
	plain := begun(t, sumModule(), vals(num(3), num(4)))
	for a, want := range []string{"0@0 steps 0", "0@1 steps 1", "0@2 steps 2", "0@3 steps 3", "done 7 steps 4", "done 7 steps 4"} {
		seen := " entered 0 guards 0 | | |"
		if a > 2 {
			seen = " entered 0 guards 0 | 0.2=1 | |"
		}
		mustBrief(t, sumModule(), plain, runAct(a), want+seen)
	}
}

// loopTier counts to 9, with code for the loop: it stands two steps ahead of it. Each round has eight ops; the one that
// asks for fuel is the first of them, and one of the steps also where there is none.
func loopTier(t *testing.T) impl.Tier {
	t.Helper()
	return begun(t, countModule(), vals(num(9)), loopAct(0, 2, 0, false))
}

// Code is entered with what is left behind the steps that come ahead of it.
func TestRunningWithWhatIsLeft(t *testing.T) {
	for a, want := range map[int]string{
		0:   "0@0 steps 0 entered 0 guards 0 | | 0@2 |",
		1:   "0@1 steps 1 entered 0 guards 0 | | 0@2 |",
		2:   "0@2 steps 2 entered 0 guards 0 | | 0@2 |",
		3:   "0@2 steps 11 entered 1 guards 0 | | 0@2 |",
		10:  "0@2 steps 11 entered 1 guards 0 | | 0@2 |",
		11:  "0@2 steps 19 entered 1 guards 0 | | 0@2 |",
		18:  "0@2 steps 19 entered 1 guards 0 | | 0@2 |",
		19:  "0@2 steps 27 entered 1 guards 0 | | 0@2 |",
		74:  "0@2 steps 75 entered 1 guards 0 | | 0@2 |",
		75:  "done 9 steps 79 entered 1 guards 0 | | 0@2 |",
		500: "done 9 steps 79 entered 1 guards 0 | | 0@2 |",
	} {
		mustBrief(t, countModule(), loopTier(t), runAct(a), want)
	}
	// Behind a pause nothing is left: the next run enters the code once more.
	x := behind(t, countModule(), loopTier(t), runAct(3))
	x = mustBrief(t, countModule(), x, runAct(1), "0@2 steps 20 entered 2 guards 0 | | 0@2 |")
	x = mustBrief(t, countModule(), x, runAct(1), "0@2 steps 29 entered 3 guards 0 | | 0@2 |")
	mustBrief(t, countModule(), x, runAct(500), "done 9 steps 82 entered 4 guards 0 | | 0@2 |")
}

// Code that leaves where it was entered is followed by a step of the plain machine, so that the program goes on.
func TestRunningBehindCode(t *testing.T) {
	// The code for the beginning leaves at once, as function 1 is not laid in, and function 1 traps where it begins.
	m := mod("func 0 0; invoke 1; return; func 0 1; load 0; not; return")
	x := begun(t, m, nil, tierAct(0, 0, false), tierAct(1, 0, false))
	for a, want := range []string{
		"0@0 steps 0 entered 0 guards 0 | | 0@0 1@0 |",
		"0@0 steps 1 entered 1 guards 0 | | 0@0 1@0 |",
		"1@0 steps 2 entered 1 guards 0 | | 0@0 1@0 |",
		"1@1 steps 3 entered 2 guards 0 | | 0@0 1@0 |",
		"trap 1 steps 4 entered 2 guards 0 | | 0@0 1@0 |",
		"trap 1 steps 4 entered 2 guards 0 | | 0@0 1@0 |",
	} {
		mustBrief(t, m, x, runAct(a), want)
	}
	// One step alone is used up by the code each time; two let the plain machine do one.
	x = behind(t, m, x, runAct(1), runAct(1), runAct(1))
	mustBrief(t, m, x, runAct(2), "1@0 steps 5 entered 4 guards 0 | | 0@0 1@0 |")
	// What is behind a call is a loop that has code: it is entered where the loop comes back to it, not where the function
	// has answered.
	m = mod("func 0 0; invoke 1; drop; bool 1; jump 1; func 0 0; nil; return")
	x = begun(t, m, nil, loopAct(0, 1, 0, false), tierAct(1, 0, false))
	for a, want := range []string{
		"0@0 steps 0 entered 0 guards 0 | | 0@1 1@0 |",
		"1@0 steps 1 entered 0 guards 0 | | 0@1 1@0 |",
		"0@1 steps 3 entered 1 guards 0 | | 0@1 1@0 |",
		"0@1 steps 3 entered 1 guards 0 | | 0@1 1@0 |",
		"0@2 steps 4 entered 1 guards 0 | | 0@1 1@0 |",
		"0@3 steps 5 entered 1 guards 0 | | 0@1 1@0 |",
		"0@1 steps 6 entered 1 guards 0 | | 0@1 1@0 |",
		"0@1 steps 10 entered 2 guards 0 | | 0@1 1@0 |",
	} {
		mustBrief(t, m, x, runAct(a), want)
	}
}

// What has ended, or has no step left, does not go on, and is not entered either.
func TestRunningWhatHasEnded(t *testing.T) {
	late := sumTier(t, text("a"), text("b"))
	late.Vm.Steps = impl.MaxSteps
	done, trapped := sumTier(t, num(1), num(2)), sumTier(t, num(1), num(2))
	done.Vm, trapped.Vm = doneWith(done.Vm, num(3)), trappedIn(trapped.Vm)
	for _, x := range []impl.Tier{late, done, trapped} {
		for _, a := range []int{0, 1, 2, 500} {
			if got := behind(t, sumModule(), x, runAct(a)); !sameTier(got, x) {
				t.Errorf("%d: %s, not %s", a, brief(got), brief(x))
			}
		}
	}
}

// Where code takes Steps to MaxSteps, no step of the plain machine follows, and nothing is observed.
func TestRunningUpToMaxSteps(t *testing.T) {
	for left, want := range []string{
		"0@0 steps 50000 entered 0 guards 0 | 0.2=1 | 0@0 |",
		"0@2 steps 50000 entered 1 guards 1 | 0.2=1 | | 0.2:1",
		"0@3 steps 50000 entered 1 guards 1 | 0.2=3 | | 0.2:1",
		"done ab steps 50000 entered 1 guards 1 | 0.2=3 | | 0.2:1",
		"done ab steps 49999 entered 1 guards 1 | 0.2=3 | | 0.2:1",
	} {
		x := sumTier(t, text("a"), text("b"))
		x.Vm.Steps = impl.MaxSteps - left
		mustBrief(t, sumModule(), x, runAct(500), want)
	}
	// Code may need more than there are: it goes on to its end all the same.
	for left, want := range map[int]string{1: "done 3 steps 50000", 4: "done 3 steps 50000", 5: "done 3 steps 50000", 6: "done 3 steps 49999"} {
		x := sumTier(t, num(1), num(2))
		x.Vm.Steps = impl.MaxSteps - left
		mustBrief(t, sumModule(), x, runAct(500), want+" entered 1 guards 0 | 0.2=1 | 0@0 |")
	}
	// In a loop it is not entered once more, though it stands where it could be.
	for left, want := range map[int]string{
		2: "0@2 steps 50000 entered 0", 3: "0@2 steps 50000 entered 1", 11: "0@2 steps 50000 entered 1", 12: "0@2 steps 50000 entered 1",
	} {
		x := loopTier(t)
		x.Vm.Steps = impl.MaxSteps - left
		x = mustBrief(t, countModule(), x, runAct(left+1), want+" guards 0 | | 0@2 |")
		mustBrief(t, countModule(), x, runAct(500), want+" guards 0 | | 0@2 |")
	}
}

func TestEnteredStaysAtMaxNum(t *testing.T) {
	for was, want := range map[int]int{0: 2, 999999997: 999999999, 999999998: 1000000000, 999999999: 1000000000, 1000000000: 1000000000} {
		x := loopTier(t)
		x.Entered = was
		if got := behind(t, countModule(), x, runAct(3), runAct(1)); got.Entered != want {
			t.Errorf("%d becomes %d, not %d", was, got.Entered, want)
		}
	}
}

// comesToNothing is code for the loop of countModule that gives the zero Left: it makes a record that nobody counted,
// leaves by frames for which there is no room, or by more records than there can be.
func comesToNothing() map[string]impl.Fast {
	uncounted := retCode(0, 2, 3, 0)
	uncounted.Ops = append([]impl.FOp{{Op: impl.FMake, D: 2}}, uncounted.Ops...)
	late := retCode(0, 2, 3, 0)
	late.Ops = []impl.FOp{{Op: impl.FPrint}, {Op: impl.FNew, D: 2}, {Op: impl.FMake, D: 2}, {Op: impl.FMake, D: 2}, {Op: impl.FRet}}
	late.Exits = []impl.Exit{exitAt(impl.ExTrap, 2, "v0 v1", "")}
	records := retCode(0, 2, 3, 0)
	records.Ops = []impl.FOp{{Op: impl.FExit}}
	records.Exits = []impl.Exit{exitAt(impl.ExTrap, 2, "r0 v1", "", "1")}
	return map[string]impl.Fast{"a record that is not counted": uncounted, "one behind others": late, "a record too many": records}
}

// Code that comes to nothing is as if it were not there, at each round.
func TestRunningCodeThatComesToNothing(t *testing.T) {
	m := countModule()
	for name, c := range comesToNothing() {
		x := begun(t, m, vals(num(30)))
		x.Codes, x.Entered = []impl.Fast{c}, 5
		for _, a := range []int{0, 1, 2, 3, 4, 12, 13, 100, 500} {
			got := behind(t, m, x, runAct(a))
			want := impl.Tier{Vm: impl.Run(m, vals(num(30)), a), Sites: impl.ProfileOf(m, vals(num(30)), a), Codes: x.Codes, Entered: 5}
			if !sameTier(got, want) {
				t.Errorf("%s, %d: %s, not %s", name, a, brief(got), brief(want))
			}
		}
	}
	// Where there are fewer frames, the same code leaves by them.
	two := impl.Fast{Vals: 1, Ops: []impl.FOp{{Op: impl.FExit}}, Exits: []impl.Exit{{Kind: impl.ExPause, Frames: exFrames(exFrame(0, 1, nil, nil), exFrame(0, 0, nil, nil))}}}
	m = mod("func 0 0; invoke 0; return")
	for depth := 21; depth <= 24; depth++ {
		x := begun(t, m, nil)
		x.Vm.Frames = append(slices.Repeat(frames(frame(0, 1, nil, nil)), depth-1), frame(0, 0, nil, nil))
		x.Codes = []impl.Fast{two}
		got := behind(t, m, x, runAct(1))
		if got.Entered != min(24-depth, 1) || got.Vm.Steps != 1 || (got.Vm.Trap == impl.TrDeep) != (depth == 24) {
			t.Errorf("%d frames: %s", depth, brief(got))
		}
	}
}

// What the plain machine does is watched, what code does is not.
func TestWhatIsWatchedInARun(t *testing.T) {
	m := mod("func 2 2; load 0; load 1; add; drop; load 1; load 1; less; return")
	x := begun(t, m, vals(num(1), num(2)))
	mustBrief(t, m, x, runAct(2), "0@2 steps 2 entered 0 guards 0 | | |")
	mustBrief(t, m, x, runAct(3), "0@3 steps 3 entered 0 guards 0 | 0.2=1 | |")
	mustBrief(t, m, x, runAct(500), "done false steps 8 entered 0 guards 0 | 0.2=1 0.6=1 | |")
	x.Sites = sites(site(0, 2, 2, 0), site(0, 6, 1, 0))
	mustBrief(t, m, x, runAct(500), "done false steps 8 entered 0 guards 0 | 0.2=3 0.6=1 | |")
	mustBrief(t, m, behind(t, m, x, tierAct(0, 0, false)), runAct(500), "done false steps 4 entered 1 guards 0 | 0.2=2 0.6=1 | 0@0 |")
	// Where there are MaxSites Sites, a new one stays out: that is the first one that is come to.
	many := manySites(impl.MaxSites + 1)
	full := begun(t, many, vals(num(0), num(0)), forgeAct(allSums(150, 2)...), runAct(5))
	if full.Vm.Frames[1].Func != 4 || full.Vm.Frames[1].Pc != 3 || !slices.Equal(full.Sites, allSums(150, 2)) {
		t.Errorf("a Site too many: %s", brief(full))
	}
	full = behind(t, many, full, runAct(90))
	if len(full.Sites) != 150 || full.Sites[99].Seen != 2 || full.Sites[100].Seen != 3 {
		t.Error(brief(full))
	}
}
