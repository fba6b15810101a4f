package tests

import (
	"slices"
	"strings"
	"testing"

	"loop.example/g00094/impl"
)

// Records are made where they are needed as values, with all that they name.
func TestMakingOfRecordsAsValues(t *testing.T) {
	checkSpelled(t, []spelling{
		{"fields that are nil", "func 0 0; new 3; print; nil; return", 0, bareOn(), `
			3 1
			made x0 @0
			make v1 3 @1
			print v1 x1 @1
			const v2 =nil @3
			ret v2 @3
			x0 trap / 0 0 |
			x1 trap / 0 1 | v1 * =nil =nil =nil`},
		{"fields of each kind", `text "a"; func 1 2; new 6; store 1; load 1; load 0; put 0; load 1; int 1; int 2; add; put 1; load 1; int 5; put 2; load 1; text 0; put 4; load 1; fun 0; put 5; load 1; print; nil; return`, 0, bareOn(), `
			11 8
			made x0 @0
			num n5 =1 @8
			num n6 =2 @8
			addn n7 n5 n6 x1 @8
			make v5 6 @20
			put 0 v5 v0 x2 @20
			box v6 n7 @20
			put 1 v5 v6 x2 @20
			const v7 =5 @20
			put 2 v5 v7 x2 @20
			const v8 =a @20
			put 4 v5 v8 x2 @20
			const v9 =fun0 @20
			put 5 v5 v9 x2 @20
			print v5 x3 @20
			const v10 =nil @22
			ret v10 @22
			x0 trap / 0 0 v0 v1 |
			x1 trap / 0 8 v0 r0 | r0 =1 =2 * v0 =nil =nil =nil =nil =nil
			x2 trap / 0 20 v0 v5 | v5 * v0 n7 =5 =nil =a =fun0
			x3 trap / 0 20 v0 v5 | v5 * v0 n7 =5 =nil =a =fun0`},
		{"one that names another one", "func 0 2; new 1; store 0; new 2; store 1; load 0; load 1; put 0; load 1; int 3; put 1; load 0; print; load 1; return", 0, bareOn(), `
			7 4
			made x0 @0
			made x1 @2
			make v4 1 @11
			make v5 2 @11
			put 0 v4 v5 x2 @11
			const v6 =3 @11
			put 1 v5 v6 x2 @11
			print v4 x3 @11
			ret v5 @13
			x0 trap / 0 0 v0 v1 |
			x1 trap / 0 2 r0 v1 | * =nil
			x2 trap / 0 11 v4 v5 | v4 * v5 * =nil =3
			x3 trap / 0 11 v4 v5 | v4 * v5 * =nil =3`},
		{"one that is named alone", "func 0 2; new 1; store 0; new 2; store 1; load 0; load 1; put 0; load 1; print; load 0; return", 0, bareOn(), `
			6 4
			made x0 @0
			made x1 @2
			make v4 2 @8
			print v4 x2 @8
			make v5 1 @10
			put 0 v5 v4 x3 @10
			ret v5 @10
			x0 trap / 0 0 v0 v1 |
			x1 trap / 0 2 r0 v1 | * =nil
			x2 trap / 0 8 r0 v4 | v4 * v4 * =nil =nil
			x3 trap / 0 10 v5 v4 | v5 * v4 * =nil =nil`},
		{"those that others name", "func 0 4; new 2; store 0; new 1; store 1; new 0; store 2; new 0; store 3; load 0; load 2; put 0; load 0; load 1; put 1; load 1; load 3; put 0; load 0; print; nil; return", 0, bareOn(), `
			11 6
			made x0 @0
			made x1 @2
			made x2 @4
			made x3 @6
			make v6 2 @18
			make v7 0 @18
			make v8 1 @18
			make v9 0 @18
			put 0 v6 v7 x4 @18
			put 1 v6 v8 x4 @18
			put 0 v8 v9 x4 @18
			print v6 x5 @18
			const v10 =nil @20
			ret v10 @20
			x0 trap / 0 0 v0 v1 v2 v3 |
			x1 trap / 0 2 r0 v1 v2 v3 | * =nil =nil
			x2 trap / 0 4 r0 r1 v2 v3 | * =nil =nil * =nil
			x3 trap / 0 6 r0 r1 r2 v3 | * =nil =nil * =nil *
			x4 trap / 0 18 v6 v8 v7 v9 | v6 * v7 v8 * v9 * *
			x5 trap / 0 18 v6 v8 v7 v9 | v6 * v7 v8 * v9 * *`},
		{"two that name each other", "func 0 2; new 1; store 0; new 1; store 1; load 0; load 1; put 0; load 1; load 0; put 0; load 1; print; load 0; return", 0, bareOn(), `
			6 4
			made x0 @0
			made x1 @2
			make v4 1 @11
			make v5 1 @11
			put 0 v4 v5 x2 @11
			put 0 v5 v4 x2 @11
			print v4 x3 @11
			ret v5 @13
			x0 trap / 0 0 v0 v1 |
			x1 trap / 0 2 r0 v1 | * =nil
			x2 trap / 0 11 v5 v4 | v4 * v4 * v5
			x3 trap / 0 11 v5 v4 | v4 * v4 * v5`},
		{"one that names itself and another one twice", "func 0 2; new 3; store 0; new 0; store 1; load 0; load 1; put 0; load 0; load 0; put 1; load 0; load 1; put 2; load 0; print; nil; return", 0, bareOn(), `
			7 4
			made x0 @0
			made x1 @2
			make v4 3 @14
			make v5 0 @14
			put 0 v4 v5 x2 @14
			put 1 v4 v4 x2 @14
			put 2 v4 v5 x2 @14
			print v4 x3 @14
			const v6 =nil @16
			ret v6 @16
			x0 trap / 0 0 v0 v1 |
			x1 trap / 0 2 r0 v1 | * =nil =nil =nil
			x2 trap / 0 14 v4 v5 | v4 * v5 v4 v5 *
			x3 trap / 0 14 v4 v5 | v4 * v5 v4 v5 *`},
		{"one that names one that was made", "func 0 2; new 1; store 0; load 0; print; new 1; store 1; load 1; load 0; put 0; load 1; print; nil; return", 0, bareOn(), `
			7 4
			made x0 @0
			make v4 1 @3
			print v4 x1 @3
			made x2 @4
			make v5 1 @10
			put 0 v5 v4 x3 @10
			print v5 x4 @10
			const v6 =nil @12
			ret v6 @12
			x0 trap / 0 0 v0 v1 |
			x1 trap / 0 3 v4 v1 | v4 * =nil
			x2 trap / 0 4 v4 v1 | * =nil
			x3 trap / 0 10 v4 v5 | v5 * =nil * v4
			x4 trap / 0 10 v4 v5 | v5 * =nil * v4`},
		{"one that was made gets another one", "func 0 2; new 1; store 0; load 0; print; new 1; store 1; load 0; load 1; put 0; load 0; get 0; return", 0, bareOn(), `
			7 4
			made x0 @0
			make v4 1 @3
			print v4 x1 @3
			made x2 @4
			make v5 1 @8
			put 0 v4 v5 x3 @8
			get v6 v4 0 x4 @10
			ret v6 @11
			x0 trap / 0 0 v0 v1 |
			x1 trap / 0 3 v4 v1 | v4 * =nil
			x2 trap / 0 4 v4 v1 | * =nil
			x3 trap / 0 8 v4 v5 | v4 v5 * =nil * =nil
			x4 trap / 0 10 v4 v5 | v4 * =nil * =nil`},
		{"two at one instruction", "func 0 2; new 1; store 0; new 1; store 1; load 0; int 1; put 0; load 1; int 2; put 0; load 0; load 1; sub; return", 0, bareOn(), `
			9 4
			made x0 @0
			made x1 @2
			make v4 1 @12
			const v5 =1 @12
			put 0 v4 v5 x2 @12
			make v6 1 @12
			const v7 =2 @12
			put 0 v6 v7 x3 @12
			sub v8 v4 v6 x4 @12
			ret v8 @13
			x0 trap / 0 0 v0 v1 |
			x1 trap / 0 2 r0 v1 | * =nil
			x2 trap / 0 12 v4 r1 | v4 r1 * =1 * =2
			x3 trap / 0 12 v4 v6 | v4 v6 * =1 * =2
			x4 trap / 0 12 v4 v6 | v4 v6 * =1 * =2`},
		{"what is known later of one that was made", "func 1 2; new 1; store 1; load 1; load 0; put 0; load 1; print; load 0; int 1; add; print; new 0; return", 0, bareOn(spec(0, 9, 1, 0)), `
			7 7
			made x0 @0
			make v4 1 @6
			put 0 v4 v0 x1 @6
			print v4 x2 @6
			open n4 v0 x3 @9
			num n5 =1 @9
			addn n6 n4 n5 x4 @9
			box v5 n6 @10
			print v5 x5 @10
			made x6 @11
			make v6 0 @12
			ret v6 @12
			x0 trap / 0 0 v0 v1 |
			x1 trap / 0 6 v0 v4 | v4 * v0
			x2 trap / 0 6 v0 v4 | v4 * v0
			x3 guard / 0 9 v0 v4 | v0 =1 * v0
			x4 trap / 0 9 n4 v4 | n4 =1 * n4
			x5 trap / 0 10 n4 v4 | n6 * n4
			x6 trap / 0 11 n4 v4 | * n4`},
		{"one in the midst, and one behind it", "func 0 3; new 0; store 0; new 1; store 1; load 1; print; new 2; store 2; load 2; load 0; put 1; load 2; print; nil; return", 0, bareOn(), `
			9 5
			made x0 @0
			made x1 @2
			make v5 1 @5
			print v5 x2 @5
			made x3 @6
			make v6 2 @12
			make v7 0 @12
			put 1 v6 v7 x4 @12
			print v6 x5 @12
			const v8 =nil @14
			ret v8 @14
			x0 trap / 0 0 v0 v1 v2 |
			x1 trap / 0 2 r0 v1 v2 | *
			x2 trap / 0 5 r0 v5 v2 | v5 * * =nil
			x3 trap / 0 6 r0 v5 v2 | * * =nil
			x4 trap / 0 12 v7 v5 v6 | v6 * * =nil * =nil v7
			x5 trap / 0 12 v7 v5 v6 | v6 * * =nil * =nil v7`},
	})
}

// Records of one block are no records of another one.
func TestMakingOfRecordsInBlocks(t *testing.T) {
	checkSpelled(t, []spelling{
		{"one in each of two blocks", "func 1 2; new 1; store 1; load 1; print; jump 5; load 0; if 5; new 2; get 0; return", 0, bareOn(), `
			4 3
			made x0 @0
			make v3 1 @3
			print v3 x1 @3
			move v1 v3 @5
			jump 5 @5
			safe x2 @5
			if v0 8 x3 @6
			jump 9 @7
			jump 5 @5
			made x4 @7
			const v3 =nil @9
			ret v3 @9
			x0 trap / 0 0 v0 v1 |
			x1 trap / 0 3 v0 v3 | v3 * =nil
			x2 pause / 0 5 v0 v1 |
			x3 trap / 0 6 v0 v1 | v0
			x4 trap / 0 7 v0 v1 |`},
		{"one in a loop", "func 1 2; new 1; store 1; load 1; load 0; put 0; load 1; get 0; if 0; nil; return", 0, bareOn(), `
			6 4
			safe x0 @0
			made x1 @0
			if v0 7 x2 @7
			make v4 1 @8
			put 0 v4 v0 x3 @8
			move v1 v4 @8
			jump 11 @8
			make v5 1 @0
			put 0 v5 v0 x4 @0
			move v1 v5 @0
			jump 0 @0
			const v4 =nil @9
			ret v4 @9
			x0 pause / 0 0 v0 v1 |
			x1 trap / 0 0 v0 v1 |
			x2 trap / 0 7 v0 r0 | v0 * v0
			x3 trap / 0 8 v0 v4 | * v0
			x4 trap / 0 0 v0 v5 | * v0`},
	})
}

// recordsCode makes n records in one block, and answers the last one. One that lies on the stack needs no drop, so that
// a function has the room for one record more than a block leaves unmade.
func recordsCode(n int) impl.Module {
	code := slices.Repeat([]impl.Ins{ins(impl.OpNew, 0), ins(impl.OpDrop, 0)}, n-3)
	return one(append(code, ins(impl.OpNew, 0), ins(impl.OpNew, 0), ins(impl.OpNew, 0), returnIns)...)
}

// countsOf tells how often each Op stands in code.
func countsOf(c impl.Fast) [30]int {
	var out [30]int
	for _, x := range c.Ops {
		out[x.Op]++
	}
	return out
}

// Up to MaxRecs records of a block stay unmade, be they made later on or not; what comes then is made at once.
func TestMakingUpToMaxRecs(t *testing.T) {
	for n, want := range map[int][3]int{3: {3, 0, 1}, 59: {59, 0, 1}, 60: {60, 0, 1}, 61: {60, 1, 0}} {
		c, ok := checkMake(t, asking{recordsCode(n), 0, 0, bareOn()})
		counts := countsOf(c)
		if got := [3]int{counts[impl.FMade], counts[impl.FNew], counts[impl.FMake]}; !ok || got != want {
			t.Errorf("%d records: %v, not %v", n, got, want)
		}
		if last := c.Exits[len(c.Exits)-1]; len(last.Recs) != n-1 {
			t.Errorf("%d records: %d in the last exit", n, len(last.Recs))
		}
		c, ok = checkMake(t, asking{recordsCode(n), 0, 0, impl.Plan{}})
		if counts = countsOf(c); !ok || counts[impl.FNew] != n || counts[impl.FMade]+counts[impl.FMake] != 0 {
			t.Errorf("%d records at once: %v", n, counts)
		}
	}
	// Those of functions that were laid in count as well, and so do those that were made.
	many := "func 0 0; " + strings.Repeat("invoke 1; drop; ", 6) + "new 1; return; func 0 0; " + strings.Repeat("new 0; print; ", 10) + "new 0; return"
	c, ok := checkMake(t, asking{mod(many), 0, 0, impl.Plan{Lay: 1, Bare: true}})
	if counts := countsOf(c); !ok || counts[impl.FMade] != 60 || counts[impl.FNew] != 7 || counts[impl.FMake] != 55 {
		t.Errorf("laid in: %v", counts)
	}
}
