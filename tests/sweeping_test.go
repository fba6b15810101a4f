package tests

import (
	"fmt"
	"slices"
	"strings"
	"testing"

	"loop.example/g00094/impl"
)

// sweeping is code of sweepModule, and what it is swept to.
type sweeping struct {
	name string
	code string
	want string
}

// checkSwept holds it against the law and against what is written of it, and runs both.
func checkSwept(t *testing.T, list []sweeping) {
	t.Helper()
	for _, x := range list {
		c := unspelled(x.code)
		mustBeOk(t, x.name, sweepModule(), c, true)
		swept := checkSweep(t, sweepModule(), c)
		got, want := spelled(impl.Sweep(sweepModule(), c)), spelled(unspelled(x.want))
		if !slices.Equal(got, want) {
			t.Errorf("%s: swept to\n%s", x.name, strings.Join(got, "\n"))
		}
		vm, _ := impl.Start(sweepModule(), nil)
		for _, v := range vals(impl.Value{}, num(4), truth(0), truth(1)) {
			vm.Frames[0].Locals[0] = v
			for _, fuel := range []int{0, 1, 2, 3, 4, 7, 20} {
				checkSweptRun(t, entering{sweepModule(), c, vm, fuel}, swept)
			}
		}
	}
}

// itself is for code that is swept to itself.
func itself(name string, code string) sweeping { return sweeping{name, code, code} }

func TestCodeInWhichNothingIsIdle(t *testing.T) {
	checkSwept(t, []sweeping{
		itself("an answer", "1 0\nret v0"),
		itself("an exit", "1 0\nexit x0\nx0 call / 0 0 v0 |"),
		itself("more registers than are used", "9 7\nret v0"),
		itself("each of the seven, held", `9 9
			const v1 5
			move v2 v1
			num n1 6
			movenum n2 n1
			box v3 n2
			same v4 v2 v3
			lessn v5 n1 n2
			if v4 8 x0
			exit x1
			x0 trap / 0 0 v0 |
			x1 pause / 0 2 v0 | v4 v5`),
		itself("what is never idle", `9 9
			new v1 2 x0
			make v2 3
			open n1 v0 x0
			not v3 v0 x0
			addn n2 n1 n1 x0
			get v4 v1 0 x0
			ret v0
			x0 trap / 0 0 v0 |`),
		itself("two that take from each other", "9 9\nmove v3 v4\nmove v4 v3\nexit x0\nx0 trap / 0 0 v0 |"),
	})
	vm, _ := impl.Start(sweepModule(), nil)
	if c := unspelled("1 0\nret v0"); !impl.Enters(sweepModule(), impl.Sweep(sweepModule(), c), vm) {
		t.Error("what is swept is not entered where it was")
	}
}

func TestExitsThatGo(t *testing.T) {
	checkSwept(t, []sweeping{
		{"the only one", "9 9\nret v0\nx0 trap / 0 0 v0 |", "9 9\nret v0"},
		{"all of them", "9 9\nret v0\nx0 trap / 0 0 v0 |\nx1 pause / 0 1 v0 | v1\nx2 call / 0 0 v0 |", "9 9\nret v0"},
		{"the first of two", "9 9\nexit x1\nx0 trap / 0 0 v0 |\nx1 call / 0 1 v0 | v3", "9 9\nexit x0\nx0 call / 0 1 v0 | v3"},
		{"the last of two", "9 9\nexit x0\nx0 trap / 0 0 v0 |\nx1 call / 0 1 v0 | v3", "9 9\nexit x0\nx0 trap / 0 0 v0 |"},
		{"one between others", `9 9
			safe x2
			print v0 x0
			exit x4
			x0 trap / 0 0 v0 |
			x1 trap / 0 1 v0 | v1
			x2 pause / 0 2 v0 | v1 v2
			x3 trap / 0 1 v0 | v3
			x4 call / 0 1 v0 | v4`, `9 9
			safe x1
			print v0 x0
			exit x2
			x0 trap / 0 0 v0 |
			x1 pause / 0 2 v0 | v1 v2
			x2 call / 0 1 v0 | v4`},
		{"several ops share one, in another order than they are told", `9 9
			safe x3
			print v0 x1
			print v0 x3
			made x1
			exit x3
			x0 trap / 0 0 v0 |
			x1 trap / 0 1 v0 | v1
			x2 pause / 0 2 v0 | v1 v2
			x3 pause / 0 1 v0 | v3`, `9 9
			safe x1
			print v0 x0
			print v0 x1
			made x0
			exit x1
			x0 trap / 0 1 v0 | v1
			x1 pause / 0 1 v0 | v3`},
		{"those that are alike stay apart", "9 9\nsafe x0\nexit x2\nx0 trap / 0 0 v0 |\nx1 trap / 0 0 v0 |\nx2 trap / 0 0 v0 |",
			"9 9\nsafe x0\nexit x1\nx0 trap / 0 0 v0 |\nx1 trap / 0 0 v0 |"},
		{"with frames and records", "9 9\nexit x1\nx0 trap / 0 0 v0 |\nx1 pause / 0 4 r1 | v1 n1 5 / 1 2 _ r0 | v8 n8 * r1 n3 * r0 r1 7",
			"9 9\nexit x0\nx0 pause / 0 4 r1 | v1 n1 5 / 1 2 _ r0 | v8 n8 * r1 n3 * r0 r1 7"},
		{"ops that have none keep 0", `9 9
			const v1 1
			num n1 1
			make v2 0
			same v3 v1 v2
			lessn v4 n1 n1
			box v5 n1
			move v6 v5
			movenum n2 n1
			jump 9
			exit x2
			x0 trap / 0 0 v0 |
			x1 trap / 0 0 v0 |
			x2 trap / 0 4 v0 | v3 v4 v6 n2`, `9 9
			const v1 1
			num n1 1
			make v2 0
			same v3 v1 v2
			lessn v4 n1 n1
			box v5 n1
			move v6 v5
			movenum n2 n1
			jump 9
			exit x0
			x0 trap / 0 4 v0 | v3 v4 v6 n2`},
	})
}

func TestOpsThatGo(t *testing.T) {
	checkSwept(t, []sweeping{
		{"each of the seven", `9 9
			const v1 5
			print v0 x0
			move v2 v0
			num n1 6
			print v0 x0
			movenum n2 n0
			box v3 n0
			same v4 v0 v0
			lessn v5 n0 n0
			ret v0
			x0 trap / 0 0 v0 |`, "9 9\nprint v0 x0\nprint v0 x0\nret v0\nx0 trap / 0 0 v0 |"},
		{"the first", "9 9\nconst v1 1\nprint v0 x0\nret v0\nx0 trap / 0 0 v0 |", "9 9\nprint v0 x0\nret v0\nx0 trap / 0 0 v0 |"},
		{"all but the last", "9 9\nconst v1 1\nnum n1 1\nmove v2 v2\nret v0", "9 9\nret v0"},
		{"one that takes from its own register", "9 9\nmove v1 v1\nsame v2 v2 v2\nmovenum n1 n1\nret v0", "9 9\nret v0"},
		{"by turns, and those that are left keep their order and what they come from", `9 9
			const v1 1 @1
			print v0 x0 @2
			const v2 2 @3
			const v3 3 @4
			print v3 x1 @3
			const v4 4 @2
			ret v3 @1
			x0 trap / 0 0 v0 |
			x1 trap / 0 1 v0 | v3`, `9 9
			print v0 x0 @2
			const v3 3 @4
			print v3 x1 @3
			ret v3 @1
			x0 trap / 0 0 v0 |
			x1 trap / 0 1 v0 | v3`},
		{"those that become idle because one went", `9 9
			const v1 1
			move v2 v1
			move v3 v2
			ret v0`, "9 9\nret v0"},
		{"those that become idle, from the last to the first", `9 9
			num n1 1
			movenum n2 n1
			box v1 n2
			same v2 v1 v0
			same v3 v0 v2
			num n3 1
			lessn v4 n2 n3
			ret v0`, "9 9\nret v0"},
		{"those that two others took from", "9 9\nconst v1 1\nmove v2 v1\nmove v3 v1\nsame v4 v2 v3\nret v0", "9 9\nret v0"},
		{"but not what another one takes from still", "9 9\nconst v1 1\nmove v2 v1\nmove v3 v1\nret v3", "9 9\nconst v1 1\nmove v3 v1\nret v3"},
		{"nor what an exit takes from still", "9 9\nconst v1 1\nmove v2 v1\nexit x0\nx0 trap / 0 0 v1 |", "9 9\nconst v1 1\nexit x0\nx0 trap / 0 0 v1 |"},
		{"two with one D, of which the one takes from it", "9 9\nconst v1 1\nmove v1 v1\nret v0", "9 9\nret v0"},
		{"but not where both do", "9 9\nconst v1 1\nmove v1 v1\nsame v1 v1 v1\nret v0", "9 9\nconst v1 1\nmove v1 v1\nsame v1 v1 v1\nret v0"},
		{"what takes from two that take from each other", "9 9\nconst v1 1\nmove v2 v3\nmove v3 v2\nmove v4 v2\nsame v5 v1 v4\nret v0", "9 9\nmove v2 v3\nmove v3 v2\nret v0"},
		{"what takes from them, and they take from", "9 9\nconst v2 1\nmove v2 v3\nmove v3 v2\nmove v4 v2\nret v0", "9 9\nconst v2 1\nmove v2 v3\nmove v3 v2\nret v0"},
		{"what an exit would hold that is X of no op", "9 9\nconst v1 1\nmove v2 v1\nexit x1\nx0 trap / 0 2 v0 | v1 v2\nx1 trap / 0 0 v0 |", "9 9\nexit x0\nx0 trap / 0 0 v0 |"},
		{"what exit 0 would hold, were it X of those that go", "9 9\nconst v1 1\nmove v2 v1\nnum n1 1\nbox v3 n1\nret v0\nx0 trap / 0 4 v0 | v1 v2 n1 v3", "9 9\nret v0"},
		{"what stands where nobody comes to", "9 9\njump 2\nconst v1 1\nret v0\nconst v2 1\nmove v3 v2\nret v0", "9 9\njump 1\nret v0\nret v0"},
		{"what a record of an exit holds stays", "9 9\nnum n1 1\nmovenum n2 n1\nmade x0\nexit x1\nx0 trap / 0 0 v0 |\nx1 call / 0 0 r0 | * n1 r0",
			"9 9\nnum n1 1\nmade x0\nexit x1\nx0 trap / 0 0 v0 |\nx1 call / 0 0 r0 | * n1 r0"},
		{"with exits and ops by turns", `9 9
			const v1 1
			safe x3
			move v2 v1
			print v0 x1
			box v3 n1
			exit x3
			x0 trap / 0 1 v0 | v1
			x1 trap / 0 0 v0 |
			x2 trap / 0 1 v0 | v3
			x3 pause / 0 1 v0 | n1`, `9 9
			safe x1
			print v0 x0
			exit x1
			x0 trap / 0 0 v0 |
			x1 pause / 0 1 v0 | n1`},
	})
}

func TestWhereOpsGoOn(t *testing.T) {
	checkSwept(t, []sweeping{
		{"at one that is left", "9 9\njump 2\nconst v1 1\nprint v0 x0\nret v0\nx0 trap / 0 0 v0 |", "9 9\njump 1\nprint v0 x0\nret v0\nx0 trap / 0 0 v0 |"},
		{"at one that went", "9 9\njump 2\nprint v0 x0\nconst v1 1\nret v0\nx0 trap / 0 0 v0 |", "9 9\njump 2\nprint v0 x0\nret v0\nx0 trap / 0 0 v0 |"},
		{"at one that went, and several behind it", "9 9\njump 2\nprint v0 x0\nconst v1 1\nmove v2 v1\nmove v3 v2\nnum n1 1\nret v0\nx0 trap / 0 0 v0 |", "9 9\njump 2\nprint v0 x0\nret v0\nx0 trap / 0 0 v0 |"},
		{"amid several that went", "9 9\njump 3\nprint v0 x0\nconst v1 1\nmove v2 v1\nmove v3 v2\nnum n1 1\nret v0\nx0 trap / 0 0 v0 |", "9 9\njump 2\nprint v0 x0\nret v0\nx0 trap / 0 0 v0 |"},
		{"at the next one, which went", "9 9\njump 1\nconst v1 1\nret v0", "9 9\njump 1\nret v0"},
		{"at the last one", "9 9\nconst v1 1\njump 4\nconst v2 1\nprint v0 x0\nret v0\nx0 trap / 0 0 v0 |", "9 9\njump 2\nprint v0 x0\nret v0\nx0 trap / 0 0 v0 |"},
		{"behind others that went, ahead of the jump", "9 9\nconst v1 1\nconst v2 1\njump 4\nprint v0 x0\nret v0\nx0 trap / 0 0 v0 |", "9 9\njump 2\nprint v0 x0\nret v0\nx0 trap / 0 0 v0 |"},
		{"where ops went far behind", "9 9\njump 2\nprint v0 x0\nprint v0 x0\nconst v1 1\nret v0\nx0 trap / 0 0 v0 |", "9 9\njump 2\nprint v0 x0\nprint v0 x0\nret v0\nx0 trap / 0 0 v0 |"},
		{"back, at the first one", "9 9\nsafe x0\nconst v1 1\njump 0\nx0 pause / 0 0 v0 |", "9 9\nsafe x0\njump 0\nx0 pause / 0 0 v0 |"},
		{"back, behind one that went", "9 9\nconst v1 1\nnum n1 1\nsafe x0\nconst v2 1\njump 2\nx0 pause / 0 0 v0 |", "9 9\nsafe x0\njump 0\nx0 pause / 0 0 v0 |"},
		{"at itself, which asks for fuel", "9 9\nconst v1 1\nsafe x0\njump 1\nx0 pause / 0 0 v0 |", "9 9\nsafe x0\njump 0\nx0 pause / 0 0 v0 |"},
		{"an FIf, at one that is left", "9 9\nif v0 3 x0\nconst v1 1\nprint v0 x0\nret v0\nx0 trap / 0 0 v0 |", "9 9\nif v0 2 x0\nprint v0 x0\nret v0\nx0 trap / 0 0 v0 |"},
		{"an FIf, at one that went", "9 9\nif v0 2 x0\nprint v0 x0\nconst v1 1\nret v0\nx0 trap / 0 0 v0 |", "9 9\nif v0 2 x0\nprint v0 x0\nret v0\nx0 trap / 0 0 v0 |"},
		{"an FIf, at one that went, and several behind it", "9 9\nif v0 2 x0\nprint v0 x0\nconst v1 1\nmove v2 v1\nmove v3 v2\nret v0\nx0 trap / 0 0 v0 |", "9 9\nif v0 2 x0\nprint v0 x0\nret v0\nx0 trap / 0 0 v0 |"},
		{"an FIf, back", "9 9\nconst v1 1\nsafe x0\nmove v2 v1\nprint v0 x0\nif v0 1 x0\nconst v3 1\nret v0\nx0 trap / 0 0 v0 |", "9 9\nsafe x0\nprint v0 x0\nif v0 0 x0\nret v0\nx0 trap / 0 0 v0 |"},
		{"an FIf that takes its truth from what is left", "9 9\nconst v1 1\nsame v2 v0 v0\nif v2 4 x1\nconst v3 1\nret v0\nx0 trap / 0 0 v0 |\nx1 trap / 0 1 v0 | v2",
			"9 9\nsame v2 v0 v0\nif v2 2 x0\nret v0\nx0 trap / 0 1 v0 | v2"},
		{"several, over each other", `9 9
			const v1 1
			if v0 7 x0
			const v2 1
			if v0 9 x0
			const v3 1
			jump 8
			safe x0
			const v4 1
			const v5 1
			print v0 x0
			const v6 1
			jump 6
			x0 trap / 0 0 v0 |`, `9 9
			if v0 4 x0
			if v0 4 x0
			jump 4
			safe x0
			print v0 x0
			jump 3
			x0 trap / 0 0 v0 |`},
	})
	// A field, a size, a function and a depth are no places of ops, nor is a register, though ops ahead of that went.
	checkSwept(t, []sweeping{
		{"numbers that are no places", `9 9
			const v8 1
			num n8 1
			const v7 1
			new v4 4 x1
			get v5 v4 4 x1
			put 4 v4 v5 x1
			make v6 4
			isfun v5 2 x1
			deep 3 x1
			addn n4 n5 n6 x1
			exit x1
			x0 trap / 0 0 v0 |
			x1 trap / 0 2 v0 | v4 v6`, `9 9
			new v4 4 x0
			get v5 v4 4 x0
			put 4 v4 v5 x0
			make v6 4
			isfun v5 2 x0
			deep 3 x0
			addn n4 n5 n6 x0
			exit x0
			x0 trap / 0 2 v0 | v4 v6`},
	})
}

// Func and Entry stay, also where they are not 0.
func TestWhatSweepKeeps(t *testing.T) {
	m := mod("func 0 0; nil; return; func 1 2; nil; load 0; drop; jump 1")
	for _, entry := range []int{0, 1} {
		c := impl.Fast{Func: 1, Entry: entry, Vals: 400, Nums: 399, Ops: []impl.FOp{
			{Op: impl.FConst, D: 399, V: text("a b"), F: 1, P: 2}, {Op: impl.FConst, D: 7, V: text("c d"), F: 1, P: 3}, {Op: impl.FRet, A: 7, F: 1, P: 1},
		}}
		want := c
		want.Ops = c.Ops[1:]
		checkSweep(t, m, c)
		if got := impl.Sweep(m, c); !sameFast(got, want) || !slices.Equal(impl.IdleOps(m, c), places(0)) {
			t.Errorf("entry %d: %+v", entry, got)
		}
	}
	full := checkSweep(t, codeModule(), fullCode())
	if len(full.exits) != 4 || len(full.ops) == len(fullCode().Ops) {
		t.Errorf("code with an op of each kind: %+v", full)
	}
	// A guess is told behind that as it was.
	c := unspelled("9 9\nconst v1 1\nopen n1 v0 x1\nret v0\nx0 trap / 0 0 v0 |\nx1 trap / 0 2 v0 | v0 v0")
	c.Exits[1].Kind, c.Exits[1].Spec = impl.ExGuard, spec(0, 2, impl.SpInt, 0)
	sum := mod("func 1 1; load 0; load 0; add; return")
	checkSweep(t, sum, c)
	if got := impl.Sweep(sum, c); len(got.Exits) != 1 || got.Exits[0].Kind != impl.ExGuard || !slices.Equal(impl.SpecsOf(sum, got), specs(c.Exits[1].Spec)) {
		t.Errorf("a guess: %+v", got)
	}
}

// chained is code of n ops, each of which but the first takes from the one ahead of it: 400 of them with bare numbers,
// and the rest with values. It leaves by an exit that tells the last one's register, if it is held.
func chained(n int, held bool) impl.Fast {
	c := impl.Fast{Vals: 400, Nums: 400, Exits: []impl.Exit{exitAt(impl.ExTrap, 1, "v0", "_")}}
	last := impl.Src{}
	for i := range n {
		x := impl.FOp{Op: impl.FMove, D: i - 399, A: i - 400}
		last = valSrc(x.D)
		switch {
		case i < 400:
			x = impl.FOp{Op: impl.FMoveNum, D: i, A: i - 1}
			last = numSrc(i)
		case i == 400:
			x = impl.FOp{Op: impl.FBox, D: 1, A: 399}
		}
		c.Ops = append(c.Ops, x)
	}
	c.Ops[0] = impl.FOp{Op: impl.FNum, V: num(1)}
	c.Ops = append(c.Ops, impl.FOp{Op: impl.FExit})
	if held {
		c.Exits[0].Frames[0].Stack[0] = last
	}
	return c
}

// However long a chain is, one op of it is idle at a time, and all go; where the last one is taken from, none does.
func TestChains(t *testing.T) {
	for _, n := range []int{1, 2, 3, 10, 100, 399, 400, 401, 402, 799} {
		c := chained(n, false)
		mustIdle(t, fmt.Sprint("a chain of ", n), c, n-1)
		if got := impl.Sweep(sweepModule(), c); !slices.Equal(got.Ops, c.Ops[n:]) || len(got.Exits) != 1 {
			t.Errorf("a chain of %d is swept to %v", n, spelled(got))
		}
		held := chained(n, true)
		mustIdle(t, fmt.Sprint("a chain of ", n, " that is held"), held)
		if got := impl.Sweep(sweepModule(), held); !sameFast(got, held) {
			t.Errorf("a chain of %d that is held is swept to %v", n, spelled(got))
		}
		// The other way round: those that are ahead take from those behind.
		slices.Reverse(c.Ops[:n])
		mustIdle(t, fmt.Sprint("a chain of ", n, ", turned about"), c, 0)
		// A ring, whose first one takes from the last one, stays, unless it is a single op that takes from itself.
		ring := chained(min(n, 400), false)
		ring.Ops[0] = impl.FOp{Op: impl.FMoveNum, A: min(n, 400) - 1}
		if got := impl.Sweep(sweepModule(), ring); n > 1 && !sameFast(got, ring) || n == 1 && len(got.Ops) != 1 {
			t.Errorf("a ring of %d is swept to %v", n, spelled(got))
		}
	}
}

// The greatest code: as many ops, exits and registers as there may be.
func TestSweepingOfTheGreatestCode(t *testing.T) {
	c := unspelled("400 400\nret v0")
	idle := slices.Repeat([]impl.FOp{{Op: impl.FConst, D: 399, V: text(xs(60))}, {Op: impl.FNum, D: 399, V: num(1)}}, 750)[:impl.MaxOps-1]
	c.Ops = append(idle, c.Ops...)
	for range impl.MaxOps {
		c.Exits = append(c.Exits, impl.Exit{Kind: impl.ExTrap, Frames: exFrames(exFrame(0, 2, srcs(valSrc(399)), srcs(numSrc(399), valSrc(0))))})
	}
	checkSweep(t, sweepModule(), c)
	if got := impl.Sweep(sweepModule(), c); !slices.Equal(spelled(got), []string{"400 400", "ret v0 @0"}) || len(impl.IdleOps(sweepModule(), c)) != impl.MaxOps-1 {
		t.Errorf("swept to %d ops and %d exits", len(got.Ops), len(got.Exits))
	}
	// The last exit holds the last registers, and every op of them.
	c.Ops[impl.MaxOps-1] = impl.FOp{Op: impl.FExit, X: impl.MaxOps - 1}
	checkSweep(t, sweepModule(), c)
	if got := impl.Sweep(sweepModule(), c); len(got.Ops) != impl.MaxOps || len(got.Exits) != 1 || got.Ops[impl.MaxOps-1].X != 0 || len(impl.IdleOps(sweepModule(), c)) != 0 {
		t.Errorf("swept to %d ops and %d exits", len(got.Ops), len(got.Exits))
	}
	// One op more, one exit more, one register more: it is not ok, and there is nothing.
	ops, exits, vals, nums := cloneFast(c), cloneFast(c), cloneFast(c), cloneFast(c)
	ops.Ops = append(ops.Ops, ops.Ops[impl.MaxOps-1])
	exits.Exits = append(exits.Exits, exits.Exits[0])
	vals.Vals, nums.Nums = 401, 401
	for _, past := range []impl.Fast{ops, exits, vals, nums} {
		mustNotSweep(t, "past a limit", sweepModule(), past)
	}
}

// mustNotSweep asks for nothing, and for the zero Fast.
func mustNotSweep(t *testing.T, name string, m impl.Module, c impl.Fast) {
	t.Helper()
	checkSweep(t, m, c)
	if got := impl.Sweep(m, c); impl.FastOk(m, c) || len(impl.IdleOps(m, c)) != 0 || !sameFast(got, impl.Fast{}) {
		t.Errorf("%s: idle ops %v, swept to %+v", name, impl.IdleOps(m, c), got)
	}
}

// idleCode has idle ops and an exit by which nothing leaves.
func idleCode() impl.Fast {
	return unspelled("9 9\nconst v1 1\nmove v2 v1\nret v0\nx0 trap / 0 0 v0 |")
}

// refusedCodes are not ok: of modules that are not good, of another module, and with one thing wrong in idleCode.
func refusedCodes(t *testing.T) map[string]coded {
	t.Helper()
	modules := notGood()
	for _, x := range limitsOfModules() {
		modules["past "+x.name] = x.past
	}
	broken := sweepModule()
	broken.Funcs[2].Code = broken.Funcs[2].Code[:1]
	modules["another function runs past its end"] = broken
	out := map[string]coded{"the zero code": {sweepModule(), impl.Fast{}}, "code of another module": {codeModule(), idleCode()}}
	for name, m := range modules {
		for which, c := range []impl.Fast{idleCode(), {}, retCode(0, 0, 20, 0), fullCode()} {
			out[fmt.Sprint(name, ", code ", which)] = coded{m, c}
		}
	}
	for name, do := range map[string]func(c *impl.Fast){
		"an idle op of no register":       func(c *impl.Fast) { c.Ops[0].D = 9 },
		"an idle op of a register below":  func(c *impl.Fast) { c.Ops[0].D = -1 },
		"an op that takes from none":      func(c *impl.Fast) { c.Ops[1].A = 9 },
		"an op of no instruction":         func(c *impl.Fast) { c.Ops[0].P = 5 },
		"an idle op with an exit":         func(c *impl.Fast) { c.Exits = append(c.Exits, c.Exits[0]); c.Ops[0].X = 1 },
		"an op that is none":              func(c *impl.Fast) { c.Ops[0].Op = 30 },
		"an op of Op 0":                   func(c *impl.Fast) { c.Ops[0] = impl.FOp{} },
		"an op far from any":              func(c *impl.Fast) { c.Ops[0].Op = -5 },
		"the last op is none":             func(c *impl.Fast) { c.Ops[2].Op = 30 },
		"no end":                          func(c *impl.Fast) { c.Ops = c.Ops[:2] },
		"no ops":                          func(c *impl.Fast) { c.Ops = nil },
		"an exit that nobody has, wrong":  func(c *impl.Fast) { c.Exits[0].Frames[0].Locals[0] = valSrc(9) },
		"an exit that nobody has, no way": func(c *impl.Fast) { c.Exits[0].Kind = 5 },
		"a jump past the end":             func(c *impl.Fast) { c.Ops[2] = impl.FOp{Op: impl.FJump, A: 3} },
		"a jump back to an idle op":       func(c *impl.Fast) { c.Ops[2] = impl.FOp{Op: impl.FJump, A: 1} },
		"an entry that is none":           func(c *impl.Fast) { c.Entry = 1 },
		"a function that is none":         func(c *impl.Fast) { c.Func = 3 },
		"no registers":                    func(c *impl.Fast) { c.Vals = 0 },
	} {
		c := idleCode()
		mustBeOk(t, "ahead of "+name, sweepModule(), c, true)
		do(&c)
		out[name] = coded{sweepModule(), c}
	}
	return out
}

func TestCodeThatIsNotSwept(t *testing.T) {
	for name, x := range refusedCodes(t) {
		mustNotSweep(t, name, x.m, x.c)
	}
}
