package tests

import (
	"testing"

	"loop.example/g00094/impl"
)

// Blocks come in their order: that of the entry, then the others, rising; a loop's has an FSafe ahead.
func TestMakingOfBlocks(t *testing.T) {
	count := "func 1 2; int 0; store 1; load 1; load 0; less; ifnot 11; load 1; int 1; add; store 1; jump 2; load 1; return"
	checkSpelled(t, []spelling{
		{"a count", count, 0, impl.Plan{}, `
			6 6
			num n1 =0 @2
			jump 2 @2
			safe x0 @2
			box v4 n1 @4
			less v5 v4 v0 x1 @4
			if v5 7 x2 @5
			jump 12 @11
			jump 8 @6
			num n4 =1 @8
			addn n5 n1 n4 x3 @8
			movenum n1 n5 @2
			jump 2 @2
			box v4 n1 @12
			ret v4 @12
			x0 pause / 0 2 v0 n1 |
			x1 trap / 0 4 v0 n1 | n1 v0
			x2 trap / 0 5 v0 n1 | v5
			x3 trap / 0 8 v0 n1 | n1 =1`},
		{"a count that is guessed", count, 0, planOn(spec(0, 4, 1, 0), spec(0, 8, 1, 0)), `
			5 6
			num n1 =0 @2
			jump 2 @2
			safe x0 @2
			open n4 v0 x1 @4
			lessn v4 n1 n4 @4
			if v4 8 x2 @5
			movenum n0 n4 @11
			jump 15 @11
			movenum n0 n4 @6
			jump 10 @6
			num n4 =1 @8
			addn n5 n1 n4 x3 @8
			box v0 n0 @2
			movenum n1 n5 @2
			jump 2 @2
			box v4 n1 @12
			ret v4 @12
			x0 pause / 0 2 v0 n1 |
			x1 guard / 0 4 v0 n1 | n1 v0
			x2 trap / 0 5 n4 n1 | v4
			x3 trap / 0 8 n0 n1 | n1 =1`},
		{"a count, entered in its loop", count, 2, planOn(spec(0, 4, 1, 0), spec(0, 8, 1, 0)), `
			5 6
			safe x0 @2
			open n4 v1 x1 @4
			open n5 v0 x2 @4
			lessn v4 n4 n5 @4
			if v4 8 x3 @5
			movenum n0 n5 @11
			movenum n1 n4 @11
			jump 16 @11
			movenum n0 n5 @6
			movenum n1 n4 @6
			jump 11 @6
			num n4 =1 @8
			addn n5 n1 n4 x4 @8
			box v0 n0 @2
			box v1 n5 @2
			jump 0 @2
			box v4 n1 @12
			ret v4 @12
			x0 pause / 0 2 v0 v1 |
			x1 guard / 0 4 v0 v1 | v1 v0
			x2 guard / 0 4 v0 n4 | n4 v0
			x3 trap / 0 5 n5 n4 | v4
			x4 trap / 0 8 n0 n1 | n1 =1`},
		{"an entry in the midst", "func 1 1; jump 4; load 0; print; jump 4; load 0; if 1; nil; return", 1, impl.Plan{}, `
			3 2
			safe x0 @1
			print v0 x1 @2
			jump 3 @4
			if v0 5 x2 @5
			jump 6 @6
			jump 0 @1
			const v2 =nil @7
			ret v2 @7
			x0 pause / 0 1 v0 |
			x1 trap / 0 2 v0 | v0
			x2 trap / 0 5 v0 | v0`},
		{"a block ahead of the entry", "func 1 1; load 0; print; load 0; if 2; load 0; if 0; nil; return", 2, impl.Plan{}, `
			3 2
			safe x0 @2
			if v0 3 x1 @3
			jump 7 @4
			jump 0 @2
			safe x2 @0
			print v0 x3 @1
			jump 0 @2
			if v0 9 x4 @5
			jump 10 @6
			jump 4 @0
			const v2 =nil @7
			ret v2 @7
			x0 pause / 0 2 v0 |
			x1 trap / 0 3 v0 | v0
			x2 pause / 0 0 v0 |
			x3 trap / 0 1 v0 | v0
			x4 trap / 0 5 v0 | v0`},
		{"a block ahead of it that is not come to", "func 1 1; load 0; print; load 0; if 2; nil; return", 2, impl.Plan{}, `
			3 2
			safe x0 @2
			if v0 3 x1 @3
			jump 4 @4
			jump 0 @2
			const v2 =nil @5
			ret v2 @5
			x0 pause / 0 2 v0 |
			x1 trap / 0 3 v0 | v0`},
		{"an entry that is jumped back to", "func 1 1; load 0; if 0; nil; return", 0, impl.Plan{}, `
			3 2
			safe x0 @0
			if v0 3 x1 @1
			jump 4 @2
			jump 0 @0
			const v2 =nil @3
			ret v2 @3
			x0 pause / 0 0 v0 |
			x1 trap / 0 1 v0 | v0`},
		{"a loop of nothing", "func 0 0; jump 0", 0, impl.Plan{}, `
			0 0
			safe x0 @0
			jump 0 @0
			x0 pause / 0 0 |`},
		{"a block that ends because the next one begins", "func 1 1; load 0; if 4; int 1; print; nil; return", 0, impl.Plan{}, `
			3 2
			if v0 2 x0 @1
			jump 3 @2
			jump 6 @4
			const v2 =1 @3
			print v2 x1 @3
			jump 6 @4
			const v2 =nil @5
			ret v2 @5
			x0 trap / 0 1 v0 | v0
			x1 trap / 0 3 v0 | =1`},
		{"a leader that is not come to from the entry", "func 1 1; load 0; if 5; load 0; print; jump 7; int 1; print; load 0; if 7; nil; return", 7, impl.Plan{}, `
			3 2
			safe x0 @7
			if v0 3 x1 @8
			jump 4 @9
			jump 0 @7
			const v2 =nil @10
			ret v2 @10
			x0 pause / 0 7 v0 |
			x1 trap / 0 8 v0 | v0`},
		{"a leader among what is not come to at all", "func 1 1; load 0; return; jump 0; if 0; nil; return", 0, impl.Plan{}, `
			2 2
			ret v0 @1`},
		{"leaders to which no code leads", "func 1 1; fun 0; load 0; call 1; store 0; load 0; if 8; load 0; print; load 0; if 4; nil; return", 0, impl.Plan{}, `
			3 3
			exit x0 @2
			x0 call / 0 2 v0 | =fun0 v0`},
		{"one of two leaders to which code leads", "func 2 2; load 0; if 6; nil; call 0; store 1; jump 8; int 1; store 1; load 1; if 8; load 1; return", 0, impl.Plan{}, `
			4 3
			if v0 2 x0 @1
			jump 3 @2
			jump 4 @6
			exit x1 @3
			num n1 =1 @8
			jump 6 @8
			safe x2 @8
			box v3 n1 @9
			if v3 10 x3 @9
			jump 11 @10
			jump 6 @8
			box v3 n1 @11
			ret v3 @11
			x0 trap / 0 1 v0 v1 | v0
			x1 call / 0 3 v0 v1 | =nil
			x2 pause / 0 8 v0 n1 |
			x3 trap / 0 9 v0 n1 | n1`},
	})
}

// Registers are new from base on, of each kind by itself, in each block anew.
func TestMakingOfRegisters(t *testing.T) {
	checkSpelled(t, []spelling{
		{"nothing new", "func 2 5; load 0; return", 0, impl.Plan{}, `
			6 6
			ret v0 @1`},
		{"no registers at all", "func 0 0; jump 0", 0, impl.Plan{}, `
			0 0
			safe x0 @0
			jump 0 @0
			x0 pause / 0 0 |`},
		{"new ones for values alone", "func 1 1; load 0; get 0; get 0; get 0; return", 0, impl.Plan{}, `
			5 2
			get v2 v0 0 x0 @1
			get v3 v2 0 x1 @2
			get v4 v3 0 x2 @3
			ret v4 @4
			x0 trap / 0 1 v0 | v0
			x1 trap / 0 2 v0 | v2
			x2 trap / 0 3 v0 | v3`},
		{"new bare ones alone", "func 0 1; int 1; int 2; add; int 3; add; store 0; jump 7; load 0; if 7; jump 7", 0, impl.Plan{}, `
			4 8
			num n3 =1 @2
			num n4 =2 @2
			addn n5 n3 n4 x0 @2
			num n6 =3 @4
			addn n7 n5 n6 x1 @4
			movenum n0 n7 @7
			jump 7 @7
			safe x2 @7
			box v3 n0 @8
			if v3 11 x3 @8
			jump 12 @9
			jump 7 @7
			jump 7 @7
			x0 trap / 0 2 v0 | =1 =2
			x1 trap / 0 4 v0 | n5 =3
			x2 pause / 0 7 n0 |
			x3 trap / 0 8 n0 | n0`},
		{"of each kind by itself", "func 2 2; load 0; load 1; add; load 0; get 1; add; return", 0, planOn(spec(0, 2, 1, 0), spec(0, 5, 1, 0)), `
			7 9
			open n4 v0 x0 @2
			open n5 v1 x1 @2
			addn n6 n4 n5 x2 @2
			box v4 n4 @4
			get v5 v4 1 x3 @4
			open n7 v5 x4 @5
			addn n8 n6 n7 x5 @5
			box v6 n8 @6
			ret v6 @6
			x0 guard / 0 2 v0 v1 | v0 v1
			x1 guard / 0 2 n4 v1 | n4 v1
			x2 trap / 0 2 n4 n5 | n4 n5
			x3 trap / 0 4 n4 n5 | n6 n4
			x4 guard / 0 5 n4 n5 | n6 v5
			x5 trap / 0 5 n4 n5 | n6 n7`},
		{"in each block anew", "func 1 1; load 0; get 0; get 0; if 7; load 0; not; print; load 0; get 1; return", 0, impl.Plan{}, `
			4 2
			get v2 v0 0 x0 @1
			get v3 v2 0 x1 @2
			if v3 4 x2 @3
			jump 5 @4
			jump 8 @7
			not v2 v0 x3 @5
			print v2 x4 @6
			jump 8 @7
			get v2 v0 1 x5 @8
			ret v2 @9
			x0 trap / 0 1 v0 | v0
			x1 trap / 0 2 v0 | v2
			x2 trap / 0 3 v0 | v3
			x3 trap / 0 5 v0 | v0
			x4 trap / 0 6 v0 | v2
			x5 trap / 0 8 v0 | v0`},
		{"the stack's height counts where nobody comes from the entry", "func 1 1; load 0; load 0; load 0; drop; drop; drop; load 0; if 6; nil; return", 6, impl.Plan{}, `
			5 4
			safe x0 @6
			if v0 3 x1 @7
			jump 4 @8
			jump 0 @6
			const v4 =nil @9
			ret v4 @9
			x0 pause / 0 6 v0 |
			x1 trap / 0 7 v0 | v0`},
		{"a position that is a value in one block, and a number in another", "func 2 2; int 5; store 1; load 0; if 8; load 1; print; load 0; store 1; load 1; return", 0, impl.Plan{}, `
			5 3
			if v0 3 x0 @3
			num n1 =5 @4
			jump 5 @4
			const v1 =5 @8
			jump 10 @8
			box v3 n1 @5
			print v3 x1 @5
			move v4 v0 @8
			move v1 v4 @8
			jump 10 @8
			ret v1 @9
			x0 trap / 0 3 v0 =5 | v0
			x1 trap / 0 5 v0 n1 | n1`},
	})
}

// Positions of the stack come behind the locals.
func TestMakingOfStacksBetweenBlocks(t *testing.T) {
	checkSpelled(t, []spelling{
		{"two values of the stack", "func 2 2; load 0; load 1; load 0; if 6; load 1; drop; add; return", 0, impl.Plan{}, `
			9 5
			if v0 6 x0 @3
			move v5 v0 @4
			move v6 v1 @4
			move v2 v5 @4
			move v3 v6 @4
			jump 11 @4
			move v7 v0 @6
			move v8 v1 @6
			move v2 v7 @6
			move v3 v8 @6
			jump 12 @6
			jump 12 @6
			add v5 v2 v3 x1 @6
			ret v5 @7
			x0 trap / 0 3 v0 v1 | v0 v1 v0
			x1 trap / 0 6 v0 v1 | v2 v3`},
		{"a choice", "func 2 2; load 0; if 4; int 5; jump 5; load 1; return", 0, impl.Plan{}, `
			4 3
			if v0 2 x0 @1
			jump 3 @2
			jump 5 @4
			const v2 =5 @5
			jump 8 @5
			move v3 v1 @5
			move v2 v3 @5
			jump 8 @5
			ret v2 @5
			x0 trap / 0 1 v0 v1 | v0`},
		{"a choice of numbers", "func 1 1; load 0; if 4; int 5; jump 7; int 1; int 2; add; return", 0, impl.Plan{}, `
			4 6
			if v0 2 x0 @1
			jump 3 @2
			jump 5 @4
			num n1 =5 @7
			jump 10 @7
			num n3 =1 @6
			num n4 =2 @6
			addn n5 n3 n4 x1 @6
			movenum n1 n5 @7
			jump 10 @7
			box v3 n1 @7
			ret v3 @7
			x0 trap / 0 1 v0 | v0
			x1 trap / 0 6 v0 | =1 =2`},
		{"a stack that is carried round", "func 1 1; int 0; int 1; add; dup; load 0; less; if 1; return", 0, planOn(spec(0, 5, 1, 0)), `
			5 7
			num n1 =0 @1
			jump 2 @1
			safe x0 @1
			num n4 =1 @2
			addn n5 n1 n4 x1 @2
			open n6 v0 x2 @5
			lessn v4 n5 n6 @5
			if v4 11 x3 @6
			movenum n0 n6 @7
			movenum n1 n5 @7
			jump 14 @7
			box v0 n6 @1
			movenum n1 n5 @1
			jump 2 @1
			box v4 n1 @7
			ret v4 @7
			x0 pause / 0 1 v0 | n1
			x1 trap / 0 2 v0 | n1 =1
			x2 guard / 0 5 v0 | n5 n5 v0
			x3 trap / 0 6 n6 | n5 v4`},
	})
}

// What is to be done on a way on to a block.
func TestMakingOfWaysOn(t *testing.T) {
	checkSpelled(t, []spelling{
		{"nothing", "func 2 2; jump 1; load 0; if 1; load 0; return", 0, impl.Plan{}, `
			3 3
			jump 1 @1
			safe x0 @1
			if v0 4 x1 @2
			jump 5 @3
			jump 1 @1
			ret v0 @4
			x0 pause / 0 1 v0 v1 |
			x1 trap / 0 2 v0 v1 | v0`},
		{"two values that are exchanged", "func 2 2; load 0; load 1; store 0; store 1; load 0; if 0; load 0; return", 0, impl.Plan{}, `
			8 4
			safe x0 @0
			if v1 7 x1 @5
			move v4 v1 @6
			move v5 v0 @6
			move v0 v4 @6
			move v1 v5 @6
			jump 12 @6
			move v6 v1 @0
			move v7 v0 @0
			move v0 v6 @0
			move v1 v7 @0
			jump 0 @0
			ret v0 @7
			x0 pause / 0 0 v0 v1 |
			x1 trap / 0 5 v1 v0 | v1`},
		{"two numbers that are exchanged", "func 0 2; int 1; int 2; add; store 0; int 3; int 4; add; store 1; load 0; load 1; store 0; store 1; load 0; load 1; less; if 8; load 0; return", 0, impl.Plan{}, `
			5 10
			num n4 =1 @2
			num n5 =2 @2
			addn n6 n4 n5 x0 @2
			num n7 =3 @6
			num n8 =4 @6
			addn n9 n7 n8 x1 @6
			movenum n0 n6 @8
			movenum n1 n9 @8
			jump 9 @8
			safe x2 @8
			lessn v4 n1 n0 @14
			if v4 17 x3 @15
			movenum n4 n1 @16
			movenum n5 n0 @16
			movenum n0 n4 @16
			movenum n1 n5 @16
			jump 22 @16
			movenum n6 n1 @8
			movenum n7 n0 @8
			movenum n0 n6 @8
			movenum n1 n7 @8
			jump 9 @8
			box v4 n0 @17
			ret v4 @17
			x0 trap / 0 2 v0 v1 | =1 =2
			x1 trap / 0 6 n6 v1 | =3 =4
			x2 pause / 0 8 n0 n1 |
			x3 trap / 0 15 n1 n0 | v4`},
		{"three values that go round", "func 3 3; load 0; load 1; load 2; store 0; store 2; store 1; load 0; if 0; load 0; return", 0, impl.Plan{}, `
			12 6
			safe x0 @0
			if v2 9 x1 @7
			move v6 v2 @8
			move v7 v0 @8
			move v8 v1 @8
			move v0 v6 @8
			move v1 v7 @8
			move v2 v8 @8
			jump 16 @8
			move v9 v2 @0
			move v10 v0 @0
			move v11 v1 @0
			move v0 v9 @0
			move v1 v10 @0
			move v2 v11 @0
			jump 0 @0
			ret v0 @9
			x0 pause / 0 0 v0 v1 v2 |
			x1 trap / 0 7 v2 v0 v1 | v2`},
		{"one value in two positions", "func 2 2; load 0; store 1; load 0; if 0; load 1; return", 0, impl.Plan{}, `
			5 3
			safe x0 @0
			if v0 5 x1 @3
			move v3 v0 @4
			move v1 v3 @4
			jump 8 @4
			move v4 v0 @0
			move v1 v4 @0
			jump 0 @0
			ret v1 @5
			x0 pause / 0 0 v0 v1 |
			x1 trap / 0 3 v0 v0 | v0`},
		{"a value from a new register", "func 2 2; load 0; get 0; store 1; jump 4; load 1; if 4; load 1; return", 0, impl.Plan{}, `
			4 3
			get v3 v0 0 x0 @1
			move v1 v3 @4
			jump 3 @4
			safe x1 @4
			if v1 6 x2 @5
			jump 7 @6
			jump 3 @4
			ret v1 @7
			x0 trap / 0 1 v0 v1 | v0
			x1 pause / 0 4 v0 v1 |
			x2 trap / 0 5 v0 v1 | v1`},
		{"a bare number that becomes a value", "func 1 1; load 0; if 6; int 1; int 2; add; store 0; load 0; return", 0, impl.Plan{}, `
			3 6
			if v0 2 x0 @1
			jump 3 @2
			jump 8 @6
			num n3 =1 @4
			num n4 =2 @4
			addn n5 n3 n4 x1 @4
			box v0 n5 @6
			jump 8 @6
			ret v0 @7
			x0 trap / 0 1 v0 | v0
			x1 trap / 0 4 v0 | =1 =2`},
		{"a bare number of the block's beginning that becomes a value", "func 1 2; int 1; store 1; load 0; if 7; load 0; print; jump 9; load 0; store 1; load 1; return", 0, impl.Plan{}, `
			4 3
			if v0 3 x0 @3
			num n1 =1 @4
			jump 5 @4
			num n1 =1 @7
			jump 8 @7
			print v0 x1 @5
			box v1 n1 @9
			jump 11 @9
			move v3 v0 @9
			move v1 v3 @9
			jump 11 @9
			ret v1 @10
			x0 trap / 0 3 v0 =1 | v0
			x1 trap / 0 5 v0 n1 | v0`},
		{"constants that become a value and a number", `text "a"; func 1 3; text 0; store 0; int 3; store 1; jump 5; load 0; if 5; load 1; return`, 0, impl.Plan{}, `
			5 4
			const v0 =a @5
			num n1 =3 @5
			jump 3 @5
			safe x0 @5
			if v0 6 x1 @6
			jump 7 @7
			jump 3 @5
			box v4 n1 @8
			ret v4 @8
			x0 pause / 0 5 v0 n1 v2 |
			x1 trap / 0 6 v0 n1 v2 | v0`},
		{"a value and a number of the same number", "func 2 3; load 1; int 1; add; store 0; load 0; store 2; jump 7; load 2; if 7; load 0; return", 0, planOn(spec(0, 2, 1, 0)), `
			6 8
			open n5 v1 x0 @2
			num n6 =1 @2
			addn n7 n5 n6 x1 @2
			movenum n0 n7 @7
			movenum n1 n5 @7
			movenum n2 n7 @7
			jump 7 @7
			safe x2 @7
			box v5 n2 @8
			if v5 11 x3 @8
			jump 12 @9
			jump 7 @7
			box v5 n0 @10
			ret v5 @10
			x0 guard / 0 2 v0 v1 v2 | v1 =1
			x1 trap / 0 2 v0 n5 v2 | n5 =1
			x2 pause / 0 7 n0 n1 n2 |
			x3 trap / 0 8 n0 n1 n2 | n2`},
		{"an unmade record", "func 0 1; new 2; store 0; load 0; int 4; put 1; jump 6; load 0; if 6; load 0; return", 0, bareOn(), `
			5 3
			made x0 @0
			make v3 2 @6
			const v4 =4 @6
			put 1 v3 v4 x1 @6
			move v0 v3 @6
			jump 6 @6
			safe x2 @6
			if v0 9 x3 @7
			jump 10 @8
			jump 6 @6
			ret v0 @9
			x0 trap / 0 0 v0 |
			x1 trap / 0 6 v3 | * =nil =4
			x2 pause / 0 6 v0 |
			x3 trap / 0 7 v0 | v0`},
		{"an unmade record in two positions", "func 0 2; new 1; dup; store 0; store 1; jump 5; load 0; if 5; load 0; return", 0, bareOn(), `
			5 4
			made x0 @0
			make v4 1 @5
			move v0 v4 @5
			move v1 v4 @5
			jump 5 @5
			safe x1 @5
			if v0 8 x2 @6
			jump 9 @7
			jump 5 @5
			ret v0 @8
			x0 trap / 0 0 v0 v1 |
			x1 pause / 0 5 v0 v1 |
			x2 trap / 0 6 v0 v1 | v0`},
		{"two unmade records, one of which names the other", "func 0 2; new 1; store 0; new 1; store 1; load 1; load 0; put 0; jump 8; load 0; if 8; load 0; return", 0, bareOn(), `
			6 4
			made x0 @0
			made x1 @2
			make v4 1 @8
			make v5 1 @8
			put 0 v5 v4 x2 @8
			move v0 v4 @8
			move v1 v5 @8
			jump 8 @8
			safe x3 @8
			if v0 11 x4 @9
			jump 12 @10
			jump 8 @8
			ret v0 @11
			x0 trap / 0 0 v0 v1 |
			x1 trap / 0 2 r0 v1 | * =nil
			x2 trap / 0 8 v4 v5 | * =nil * v4
			x3 pause / 0 8 v0 v1 |
			x4 trap / 0 9 v0 v1 | v0`},
		{"an unmade record that no position has", "func 0 1; new 1; drop; jump 3; load 0; if 3; load 0; return", 0, bareOn(), `
			2 2
			made x0 @0
			jump 2 @3
			safe x1 @3
			if v0 5 x2 @4
			jump 6 @5
			jump 2 @3
			ret v0 @6
			x0 trap / 0 0 v0 |
			x1 pause / 0 3 v0 |
			x2 trap / 0 4 v0 | v0`},
		{"an unmade record that is made on both ways", "func 1 2; new 1; store 1; load 1; int 7; put 0; load 0; if 9; load 1; return; nil; return", 0, bareOn(), `
			8 4
			made x0 @0
			if v0 7 x1 @6
			make v4 1 @7
			const v5 =7 @7
			put 0 v4 v5 x2 @7
			move v1 v4 @7
			jump 12 @7
			make v6 1 @9
			const v7 =7 @9
			put 0 v6 v7 x3 @9
			move v1 v6 @9
			jump 13 @9
			ret v1 @8
			const v4 =nil @10
			ret v4 @10
			x0 trap / 0 0 v0 v1 |
			x1 trap / 0 6 v0 r0 | v0 * =7
			x2 trap / 0 7 v0 v4 | * =7
			x3 trap / 0 9 v0 v6 | * =7`},
		{"a value, a number, a constant and a record at once", "func 2 5; load 0; store 2; load 1; int 1; add; store 3; new 0; store 4; int 8; store 1; jump 11; load 0; if 11; load 1; return", 0, bareOn(spec(0, 4, 1, 0)), `
			9 10
			open n7 v1 x0 @4
			num n8 =1 @4
			addn n9 n7 n8 x1 @4
			made x2 @6
			make v7 0 @11
			move v8 v0 @11
			move v2 v8 @11
			move v4 v7 @11
			num n1 =8 @11
			movenum n3 n9 @11
			jump 11 @11
			safe x3 @11
			if v0 14 x4 @12
			jump 15 @13
			jump 11 @11
			box v7 n1 @14
			ret v7 @14
			x0 guard / 0 4 v0 v1 v0 v3 v4 | v1 =1
			x1 trap / 0 4 v0 n7 v0 v3 v4 | n7 =1
			x2 trap / 0 6 v0 n7 v0 n9 v4 |
			x3 pause / 0 11 v0 n1 v2 n3 v4 |
			x4 trap / 0 12 v0 n1 v2 n3 v4 | v0`},
	})
}

// OpIf and OpIfNot: first the way that is taken when it is not true, then the other one.
func TestMakingOfBranches(t *testing.T) {
	checkSpelled(t, []spelling{
		{"an if", "func 1 1; load 0; if 4; int 1; return; int 2; return", 0, impl.Plan{}, `
			3 2
			if v0 2 x0 @1
			jump 3 @2
			jump 5 @4
			const v2 =1 @3
			ret v2 @3
			const v2 =2 @5
			ret v2 @5
			x0 trap / 0 1 v0 | v0`},
		{"an ifnot", "func 1 1; load 0; ifnot 4; int 1; return; int 2; return", 0, impl.Plan{}, `
			3 2
			if v0 2 x0 @1
			jump 5 @4
			jump 3 @2
			const v2 =1 @3
			ret v2 @3
			const v2 =2 @5
			ret v2 @5
			x0 trap / 0 1 v0 | v0`},
		{"an if to the same block", "func 1 1; load 0; if 2; int 1; return", 0, impl.Plan{}, `
			3 2
			if v0 2 x0 @1
			jump 3 @2
			jump 3 @2
			const v2 =1 @3
			ret v2 @3
			x0 trap / 0 1 v0 | v0`},
		{"an ifnot to the same block", "func 1 1; load 0; ifnot 2; int 1; return", 0, impl.Plan{}, `
			3 2
			if v0 2 x0 @1
			jump 3 @2
			jump 3 @2
			const v2 =1 @3
			ret v2 @3
			x0 trap / 0 1 v0 | v0`},
		{"an if that goes back", "func 1 1; load 0; if 0; int 1; return", 0, impl.Plan{}, `
			3 2
			safe x0 @0
			if v0 3 x1 @1
			jump 4 @2
			jump 0 @0
			const v2 =1 @3
			ret v2 @3
			x0 pause / 0 0 v0 |
			x1 trap / 0 1 v0 | v0`},
		{"an ifnot that goes back", "func 1 1; load 0; ifnot 0; int 1; return", 0, impl.Plan{}, `
			3 2
			safe x0 @0
			if v0 3 x1 @1
			jump 0 @0
			jump 4 @2
			const v2 =1 @3
			ret v2 @3
			x0 pause / 0 0 v0 |
			x1 trap / 0 1 v0 | v0`},
		{"an if that goes back to itself", "func 1 1; load 0; dup; if 1; return", 0, impl.Plan{}, `
			4 3
			move v3 v0 @1
			move v1 v3 @1
			jump 3 @1
			safe x0 @1
			if v1 6 x1 @2
			jump 7 @3
			jump 3 @1
			ret v1 @3
			x0 pause / 0 1 v0 | v1
			x1 trap / 0 2 v0 | v1 v1`},
		{"of a constant", "func 0 0; bool 1; if 4; nil; return; int 2; return", 0, impl.Plan{}, `
			2 1
			const v1 =true @1
			if v1 3 x0 @1
			jump 4 @2
			jump 6 @4
			const v1 =nil @3
			ret v1 @3
			const v1 =2 @5
			ret v1 @5
			x0 trap / 0 1 | =true`},
		{"of a bare number", "func 0 0; int 1; int 2; add; if 6; nil; return; int 2; return", 0, impl.Plan{}, `
			3 5
			num n2 =1 @2
			num n3 =2 @2
			addn n4 n2 n3 x0 @2
			box v2 n4 @3
			if v2 6 x1 @3
			jump 7 @4
			jump 9 @6
			const v2 =nil @5
			ret v2 @5
			const v2 =2 @7
			ret v2 @7
			x0 trap / 0 2 | =1 =2
			x1 trap / 0 3 | n4`},
		{"of an unmade record", "func 0 0; new 1; ifnot 4; nil; return; int 2; return", 0, bareOn(), `
			2 1
			made x0 @0
			make v1 1 @1
			if v1 4 x1 @1
			jump 7 @4
			jump 5 @2
			const v1 =nil @3
			ret v1 @3
			const v1 =2 @5
			ret v1 @5
			x0 trap / 0 0 |
			x1 trap / 0 1 | v1 * =nil`},
		{"what one way moves does not show on the other one", "func 2 2; load 0; load 1; store 0; store 1; load 1; if 8; load 0; return; load 1; if 8; nil; return", 0, impl.Plan{}, `
			8 4
			if v0 6 x0 @5
			move v4 v1 @6
			move v5 v0 @6
			move v0 v4 @6
			move v1 v5 @6
			jump 11 @6
			move v6 v1 @8
			move v7 v0 @8
			move v0 v6 @8
			move v1 v7 @8
			jump 12 @8
			ret v0 @7
			safe x1 @8
			if v1 15 x2 @9
			jump 16 @10
			jump 12 @8
			const v4 =nil @11
			ret v4 @11
			x0 trap / 0 5 v1 v0 | v0
			x1 pause / 0 8 v0 v1 |
			x2 trap / 0 9 v0 v1 | v1`},
	})
}
