package tests

import (
	"fmt"
	"testing"

	"loop.example/g00094/impl"
)

// Functions that are known and straight are laid in, as deep as the plan says.
func TestMakingOfInvokes(t *testing.T) {
	pair := "func 1 1; load 0; int 7; invoke 1; return; func 2 4; load 1; load 3; print; return"
	deep := "func 1 1; load 0; invoke 1; return; func 1 1; load 0; invoke 2; return; func 1 1; load 0; invoke 3; return; func 1 1; load 0; invoke 4; return; func 1 1; load 0; return"
	checkSpelled(t, []spelling{
		{"not laid in", pair, 0, impl.Plan{}, `
			3 3
			exit x0 @2
			x0 call / 0 2 v0 | v0 =7`},
		{"laid in, with more Locals than Params", pair, 0, layOn(1), `
			5 3
			deep 1 x0 @2
			const v3 =nil @1.2
			print v3 x1 @1.2
			const v4 =7 @3
			ret v4 @3
			x0 trap / 0 2 v0 | v0 =7
			x1 trap / 0 3 v0 | / 1 2 v0 =7 =nil =nil | =7 =nil`},
		{"laid in, with no Params", "func 0 0; invoke 1; invoke 1; print; return; func 0 1; load 0; return", 0, layOn(1), `
			4 2
			deep 1 x0 @0
			deep 1 x1 @1
			const v2 =nil @2
			print v2 x2 @2
			const v3 =nil @3
			ret v3 @3
			x0 trap / 0 0 |
			x1 trap / 0 1 | =nil
			x2 trap / 0 2 | =nil =nil`},
		{"one in another one, Lay of 1", deep, 0, layOn(1), `
			2 2
			deep 1 x0 @1
			exit x1 @1.1
			x0 trap / 0 1 v0 | v0
			x1 call / 0 2 v0 | / 1 1 v0 | v0`},
		{"one in another one, Lay of 2", deep, 0, layOn(2), `
			2 2
			deep 1 x0 @1
			deep 2 x1 @1.1
			exit x2 @2.1
			x0 trap / 0 1 v0 | v0
			x1 trap / 0 2 v0 | / 1 1 v0 | v0
			x2 call / 0 2 v0 | / 1 2 v0 | / 2 1 v0 | v0`},
		{"one in another one, Lay of 3", deep, 0, layOn(3), `
			2 2
			deep 1 x0 @1
			deep 2 x1 @1.1
			deep 3 x2 @2.1
			exit x3 @3.1
			x0 trap / 0 1 v0 | v0
			x1 trap / 0 2 v0 | / 1 1 v0 | v0
			x2 trap / 0 2 v0 | / 1 2 v0 | / 2 1 v0 | v0
			x3 call / 0 2 v0 | / 1 2 v0 | / 2 2 v0 | / 3 1 v0 | v0`},
		{"itself", "func 1 1; load 0; invoke 0; return", 0, layOn(3), `
			2 2
			deep 1 x0 @1
			deep 2 x1 @1
			deep 3 x2 @1
			exit x3 @1
			x0 trap / 0 1 v0 | v0
			x1 trap / 0 2 v0 | / 0 1 v0 | v0
			x2 trap / 0 2 v0 | / 0 2 v0 | / 0 1 v0 | v0
			x3 call / 0 2 v0 | / 0 2 v0 | / 0 2 v0 | / 0 1 v0 | v0`},
		{"one that is not straight", "func 1 1; load 0; invoke 1; return; func 1 1; load 0; if 0; nil; return", 0, layOn(3), `
			2 2
			exit x0 @1
			x0 call / 0 1 v0 | v0`},
		{"one with a jump that nobody comes to", "func 1 1; load 0; invoke 1; return; func 1 1; load 0; return; jump 0", 0, layOn(1), `
			2 2
			deep 1 x0 @1
			ret v0 @2
			x0 trap / 0 1 v0 | v0`},
		{"one behind another one", "func 1 1; load 0; invoke 1; invoke 1; return; func 1 1; load 0; not; return", 0, layOn(1), `
			4 2
			deep 1 x0 @1
			not v2 v0 x1 @1.1
			deep 1 x2 @2
			not v3 v2 x3 @1.1
			ret v3 @3
			x0 trap / 0 1 v0 | v0
			x1 trap / 0 2 v0 | / 1 1 v0 | v0
			x2 trap / 0 2 v0 | v2
			x3 trap / 0 3 v0 | / 1 1 v2 | v2`},
		{"a function that leaves within", "func 1 1; load 0; invoke 1; return; func 1 1; load 0; nil; put 0; load 0; invoke 0; return", 0, layOn(1), `
			3 2
			deep 1 x0 @1
			const v2 =nil @1.2
			put 0 v0 v2 x1 @1.2
			exit x2 @1.4
			x0 trap / 0 1 v0 | v0
			x1 trap / 0 2 v0 | / 1 2 v0 | v0 =nil
			x2 call / 0 2 v0 | / 1 4 v0 | v0`},
		{"a trap within", "func 1 1; load 0; int 2; invoke 1; return; func 2 2; load 0; load 1; mul; return", 0, layOn(1), `
			5 3
			deep 1 x0 @2
			const v3 =2 @1.2
			mul v4 v0 v3 x1 @1.2
			ret v4 @3
			x0 trap / 0 2 v0 | v0 =2
			x1 trap / 0 3 v0 | / 1 2 v0 =2 | v0 =2`},
		{"a guess of numbers within", "func 1 1; load 0; int 2; invoke 1; print; load 0; return; func 2 2; load 0; load 1; mul; return", 0, layOn(1, spec(1, 2, 1, 0)), `
			5 6
			deep 1 x0 @2
			open n3 v0 x1 @1.2
			num n4 =2 @1.2
			muln n5 n3 n4 x2 @1.2
			box v3 n5 @3
			print v3 x3 @3
			box v4 n3 @5
			ret v4 @5
			x0 trap / 0 2 v0 | v0 =2
			x1 guard / 0 3 v0 | / 1 2 v0 =2 | v0 =2
			x2 trap / 0 3 n3 | / 1 2 n3 =2 | n3 =2
			x3 trap / 0 3 n3 | n5`},
		{"a guess within that cannot be", "func 0 0; int 2; nil; invoke 1; return; func 2 2; load 0; load 1; mul; return", 0, layOn(1, spec(1, 2, 1, 0)), `
			2 2
			deep 1 x0 @2
			exit x1 @1.2
			x0 trap / 0 2 | =2 =nil
			x1 guard / 0 3 | / 1 2 =2 =nil | =2 =nil`},
		{"what waits below the call", "func 2 2; load 0; load 1; load 0; load 1; invoke 1; add; return; func 2 2; load 0; load 1; less; return", 0, layOn(1), `
			8 6
			deep 1 x0 @4
			less v6 v0 v1 x1 @1.2
			add v7 v1 v6 x2 @5
			ret v7 @6
			x0 trap / 0 4 v0 v1 | v0 v1 v0 v1
			x1 trap / 0 5 v0 v1 | v0 v1 / 1 2 v0 v1 | v0 v1
			x2 trap / 0 5 v0 v1 | v0 v1 v6`},
		{"a return that leaves something on the stack", "func 1 1; load 0; invoke 1; return; func 1 1; nil; nil; load 0; return", 0, layOn(1), `
			2 2
			deep 1 x0 @1
			ret v0 @2
			x0 trap / 0 1 v0 | v0`},
		{"a leader behind the call", "func 1 1; load 0; load 0; if 4; invoke 1; invoke 1; return; func 1 1; load 0; not; return", 0, layOn(1), `
			5 3
			if v0 4 x0 @2
			move v3 v0 @3
			move v1 v3 @3
			jump 7 @3
			move v4 v0 @4
			move v1 v4 @4
			jump 11 @4
			deep 1 x1 @3
			not v3 v1 x2 @1.1
			move v1 v3 @4
			jump 11 @4
			deep 1 x3 @4
			not v3 v1 x4 @1.1
			ret v3 @5
			x0 trap / 0 2 v0 | v0 v0
			x1 trap / 0 3 v0 | v1
			x2 trap / 0 4 v0 | / 1 1 v1 | v1
			x3 trap / 0 4 v0 | v1
			x4 trap / 0 5 v0 | / 1 1 v1 | v1`},
	})
}

// Unmade records go in and out of functions that were laid in.
func TestMakingOfRecordsInCalls(t *testing.T) {
	bare := func(lay int) impl.Plan { return impl.Plan{Lay: lay, Bare: true} }
	checkSpelled(t, []spelling{
		{"one that comes in", "func 0 0; new 1; invoke 1; return; func 1 1; load 0; get 0; return", 0, bare(1), `
			2 1
			made x0 @0
			deep 1 x1 @1
			const v1 =nil @2
			ret v1 @2
			x0 trap / 0 0 |
			x1 trap / 0 1 | r0 * =nil`},
		{"one that comes out", "func 0 0; invoke 1; get 1; return; func 0 0; new 2; dup; int 4; put 1; return", 0, bare(1), `
			2 1
			deep 1 x0 @0
			made x1 @1.0
			const v1 =4 @2
			ret v1 @2
			x0 trap / 0 0 |
			x1 trap / 0 1 | / 1 0 |`},
		{"one that is changed within", "func 0 1; new 1; store 0; load 0; int 6; invoke 1; drop; load 0; get 0; return; func 2 2; load 0; load 1; put 0; nil; return", 0, bare(1), `
			4 3
			made x0 @0
			deep 1 x1 @4
			const v3 =6 @8
			ret v3 @8
			x0 trap / 0 0 v0 |
			x1 trap / 0 4 r0 | r0 =6 * =nil`},
		{"one that is made within is made below", "func 0 1; new 1; store 0; load 0; invoke 1; drop; load 0; return; func 1 1; load 0; print; nil; return", 0, bare(1), `
			3 2
			made x0 @0
			deep 1 x1 @3
			make v2 1 @1.1
			print v2 x2 @1.1
			ret v2 @6
			x0 trap / 0 0 v0 |
			x1 trap / 0 3 r0 | r0 * =nil
			x2 trap / 0 4 v2 | / 1 1 v2 | v2 * =nil`},
		{"one that leaves with the call", "func 0 1; new 1; store 0; load 0; invoke 1; return; func 1 1; load 0; print; nil; return", 0, bare(0), `
			2 2
			made x0 @0
			exit x1 @3
			x0 trap / 0 0 v0 |
			x1 call / 0 3 r0 | r0 * =nil`},
	})
}

// What is called by OpCall is known as a constant, or by a guess.
func TestMakingOfCalls(t *testing.T) {
	constant := "func 1 1; fun 1; load 0; call 1; return; func 1 1; load 0; return"
	guessed := "func 2 2; load 0; load 1; call 1; return; func 1 1; load 0; return; func 0 0; nil; return"
	is := spec(0, 2, impl.SpFun, 1)
	checkSpelled(t, []spelling{
		{"a constant", constant, 0, layOn(1), `
			3 3
			deep 1 x0 @2
			ret v0 @3
			x0 trap / 0 2 v0 | =fun1 v0`},
		{"a constant, not laid in", constant, 0, layOn(0), `
			3 3
			exit x0 @2
			x0 call / 0 2 v0 | =fun1 v0`},
		{"a constant, and a guess", "func 1 1; fun 1; load 0; call 1; return; func 1 1; load 0; return; func 1 1; nil; return", 0, layOn(1, spec(0, 2, 2, 2)), `
			3 3
			deep 1 x0 @2
			ret v0 @3
			x0 trap / 0 2 v0 | =fun1 v0`},
		{"a constant with other Params", "func 1 1; fun 2; load 0; call 1; return; func 1 1; load 0; return; func 0 0; nil; return", 0, layOn(1), `
			3 3
			exit x0 @2
			x0 call / 0 2 v0 | =fun2 v0`},
		{"a constant that is no function", "func 1 1; int 1; load 0; call 1; return; func 1 1; load 0; return", 0, layOn(1), `
			3 3
			exit x0 @2
			x0 call / 0 2 v0 | =1 v0`},
		{"a constant that is no function, and a guess", "func 1 1; int 1; load 0; call 1; return; func 1 1; load 0; return", 0, layOn(1, is), `
			3 3
			exit x0 @2
			x0 call / 0 2 v0 | =1 v0`},
		{"a register without a guess", guessed, 0, layOn(1), `
			4 4
			exit x0 @2
			x0 call / 0 2 v0 v1 | v0 v1`},
		{"a register with a guess", guessed, 0, layOn(1, is), `
			4 4
			isfun v0 1 x0 @2
			deep 1 x1 @2
			ret v1 @3
			x0 guard / 0 2 v0 v1 | v0 v1
			x1 trap / 0 2 =fun1 v1 | =fun1 v1`},
		{"a register with a guess, not laid in", guessed, 0, layOn(0, is), `
			4 4
			isfun v0 1 x0 @2
			exit x1 @2
			x0 guard / 0 2 v0 v1 | v0 v1
			x1 call / 0 2 =fun1 v1 | =fun1 v1`},
		{"a guess of one that is not straight", "func 2 2; load 0; load 1; call 1; return; func 1 1; load 0; if 0; nil; return", 0, layOn(1, is), `
			4 4
			isfun v0 1 x0 @2
			exit x1 @2
			x0 guard / 0 2 v0 v1 | v0 v1
			x1 call / 0 2 =fun1 v1 | =fun1 v1`},
		{"a bare number with a guess", "func 1 1; int 1; int 2; add; load 0; call 1; return; func 1 1; load 0; return", 0, layOn(1, spec(0, 4, 2, 1)), `
			3 6
			num n3 =1 @2
			num n4 =2 @2
			addn n5 n3 n4 x0 @2
			exit x1 @4
			x0 trap / 0 2 v0 | =1 =2
			x1 call / 0 4 v0 | n5 v0`},
		{"an unmade record with a guess", "func 1 1; new 1; load 0; call 1; return; func 1 1; load 0; return", 0, impl.Plan{Specs: specs(is), Lay: 1, Bare: true}, `
			3 3
			made x0 @0
			exit x1 @2
			x0 trap / 0 0 v0 |
			x1 call / 0 2 v0 | r0 v0 * =nil`},
		{"a guess is known everywhere", "func 1 1; load 0; call 0; drop; load 0; call 0; return; func 0 0; nil; return", 0, layOn(1, spec(0, 1, 2, 1)), `
			3 2
			isfun v0 1 x0 @1
			deep 1 x1 @1
			deep 1 x2 @4
			const v2 =nil @5
			ret v2 @5
			x0 guard / 0 1 v0 | v0
			x1 trap / 0 1 =fun1 | =fun1
			x2 trap / 0 4 =fun1 | =fun1`},
		{"a guess of a value that is handed over, too", "func 1 1; load 0; load 0; call 1; return; func 1 1; load 0; return", 0, layOn(1, is), `
			4 3
			isfun v0 1 x0 @2
			deep 1 x1 @2
			const v3 =fun1 @3
			ret v3 @3
			x0 guard / 0 2 v0 | v0 v0
			x1 trap / 0 2 =fun1 | =fun1 =fun1`},
		{"a guess within", "func 1 1; load 0; invoke 1; return; func 1 1; load 0; call 0; return; func 0 0; int 3; return", 0, layOn(2, spec(1, 1, 2, 2)), `
			3 2
			deep 1 x0 @1
			isfun v0 2 x1 @1.1
			deep 2 x2 @1.1
			const v2 =3 @2
			ret v2 @2
			x0 trap / 0 1 v0 | v0
			x1 guard / 0 2 v0 | / 1 1 v0 | v0
			x2 trap / 0 2 =fun2 | / 1 1 =fun2 | =fun2`},
		{"itself, by a guess", "func 1 1; load 0; load 0; call 1; return", 0, layOn(3, spec(0, 2, 2, 0)), `
			3 3
			isfun v0 0 x0 @2
			deep 1 x1 @2
			deep 2 x2 @2
			deep 3 x3 @2
			exit x4 @2
			x0 guard / 0 2 v0 | v0 v0
			x1 trap / 0 2 =fun0 | =fun0 =fun0
			x2 trap / 0 3 =fun0 | / 0 2 =fun0 | =fun0 =fun0
			x3 trap / 0 3 =fun0 | / 0 3 =fun0 | / 0 2 =fun0 | =fun0 =fun0
			x4 call / 0 3 =fun0 | / 0 3 =fun0 | / 0 3 =fun0 | / 0 2 =fun0 | =fun0 =fun0`},
	})
}

// chainModule has functions each of which invokes the next one, n in all.
func chainModule(n int) impl.Module {
	m := impl.Module{}
	for f := range n {
		x := ins(impl.OpInvoke, f+1)
		if f == n-1 {
			x = nilIns
		}
		m.Funcs = append(m.Funcs, impl.Func{Code: []impl.Ins{x, returnIns}})
	}
	return m
}

// FDeep asks for as many frames as there are in the code by then, and no exit has more frames than Lay and 1.
func TestHowDeepFunctionsAreLaidIn(t *testing.T) {
	for lay := range 4 {
		for n := 1; n <= 6; n++ {
			c, ok := checkMake(t, asking{chainModule(n), 0, 0, layOn(lay)})
			laid := min(lay, n-1)
			var want []string
			for up := range laid {
				want = append(want, fmt.Sprintf("deep %d x%d", up+1, up))
			}
			for up, words := range want {
				x := c.Ops[up]
				if got := fmt.Sprintf("deep %d x%d", x.A, x.X); x.Op != impl.FDeep || got != words || x.F != up || x.P != 0 || len(c.Exits[up].Frames) != up+1 {
					t.Errorf("Lay %d of %d functions: %s", lay, n, spelled(c))
				}
			}
			last := c.Ops[len(c.Ops)-1]
			if left := laid < n-1; !ok || left != (last.Op == impl.FExit) || left && len(c.Exits[last.X].Frames) != lay+1 {
				t.Errorf("Lay %d of %d functions ends otherwise: %s", lay, n, spelled(c))
			}
			if got := impl.LaidOf(chainModule(n), c); !laidFits(got, laid, n) {
				t.Errorf("Lay %d of %d functions: %v", lay, n, got)
			}
		}
	}
}

// laidFits: a function that was laid in is told where an exit stands in it: the last one has none, unless it calls.
func laidFits(got []int, laid int, n int) bool {
	want := laid
	if laid == n-1 {
		want = max(laid-1, 0)
	}
	return len(got) == want && rises(got) && (want == 0 || got[0] == 1)
}
