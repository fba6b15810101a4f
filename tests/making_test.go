package tests

import (
	"testing"

	"loop.example/g00094/impl"
)

// Sources alone: what is loaded, stored and turned about makes no ops.
func TestMakingOfSources(t *testing.T) {
	checkSpelled(t, []spelling{
		{"constants", `text "a"; func 0 1; int -7; drop; bool 1; drop; text 0; drop; nil; drop; fun 0; drop; bool 0; store 0; text 0; print; load 0; return`, 0, impl.Plan{}, `
			4 2
			const v2 =a @13
			print v2 x0 @13
			const v3 =false @15
			ret v3 @15
			x0 trap / 0 13 =false | =a`},
		{"loads and stores", "func 2 2; load 0; load 1; store 0; store 1; load 1; load 0; print; print; nil; return", 0, impl.Plan{}, `
			5 4
			print v1 x0 @6
			print v0 x1 @7
			const v4 =nil @9
			ret v4 @9
			x0 trap / 0 6 v1 v0 | v0 v1
			x1 trap / 0 7 v1 v0 | v0`},
		{"a dup, a drop and a swap", "func 2 2; load 0; dup; load 1; swap; drop; print; return", 0, impl.Plan{}, `
			5 5
			print v1 x0 @5
			ret v0 @6
			x0 trap / 0 5 v0 v1 | v0 v1`},
		{"a local that was never stored", "func 0 2; load 1; return", 0, impl.Plan{}, `
			3 3
			ret v1 @1`},
	})
}

// Of each of the four, values and numbers.
func TestMakingOfSums(t *testing.T) {
	two := "func 2 2; load 0; load 1; "
	guess := planOn(spec(0, 2, 1, 0))
	checkSpelled(t, []spelling{
		{"a sum of values", two + "add; return", 0, impl.Plan{}, `
			5 4
			add v4 v0 v1 x0 @2
			ret v4 @3
			x0 trap / 0 2 v0 v1 | v0 v1`},
		{"a difference of values", two + "sub; return", 0, impl.Plan{}, `
			5 4
			sub v4 v0 v1 x0 @2
			ret v4 @3
			x0 trap / 0 2 v0 v1 | v0 v1`},
		{"a product of values", two + "mul; return", 0, impl.Plan{}, `
			5 4
			mul v4 v0 v1 x0 @2
			ret v4 @3
			x0 trap / 0 2 v0 v1 | v0 v1`},
		{"less of values", two + "less; return", 0, impl.Plan{}, `
			5 4
			less v4 v0 v1 x0 @2
			ret v4 @3
			x0 trap / 0 2 v0 v1 | v0 v1`},
		{"a guessed sum", two + "add; return", 0, guess, `
			5 7
			open n4 v0 x0 @2
			open n5 v1 x1 @2
			addn n6 n4 n5 x2 @2
			box v4 n6 @3
			ret v4 @3
			x0 guard / 0 2 v0 v1 | v0 v1
			x1 guard / 0 2 n4 v1 | n4 v1
			x2 trap / 0 2 n4 n5 | n4 n5`},
		{"a guessed difference", two + "sub; return", 0, guess, `
			5 7
			open n4 v0 x0 @2
			open n5 v1 x1 @2
			subn n6 n4 n5 x2 @2
			box v4 n6 @3
			ret v4 @3
			x0 guard / 0 2 v0 v1 | v0 v1
			x1 guard / 0 2 n4 v1 | n4 v1
			x2 trap / 0 2 n4 n5 | n4 n5`},
		{"a guessed product", two + "mul; return", 0, guess, `
			5 7
			open n4 v0 x0 @2
			open n5 v1 x1 @2
			muln n6 n4 n5 x2 @2
			box v4 n6 @3
			ret v4 @3
			x0 guard / 0 2 v0 v1 | v0 v1
			x1 guard / 0 2 n4 v1 | n4 v1
			x2 trap / 0 2 n4 n5 | n4 n5`},
		{"a guessed less", two + "less; return", 0, guess, `
			5 6
			open n4 v0 x0 @2
			open n5 v1 x1 @2
			lessn v4 n4 n5 @2
			ret v4 @3
			x0 guard / 0 2 v0 v1 | v0 v1
			x1 guard / 0 2 n4 v1 | n4 v1`},
		{"a guess elsewhere", two + "add; load 0; add; return", 0, planOn(spec(0, 4, 1, 0)), `
			6 7
			add v4 v0 v1 x0 @2
			open n4 v4 x1 @4
			open n5 v0 x2 @4
			addn n6 n4 n5 x3 @4
			box v5 n6 @5
			ret v5 @5
			x0 trap / 0 2 v0 v1 | v0 v1
			x1 guard / 0 4 v0 v1 | v4 v0
			x2 guard / 0 4 v0 v1 | n4 v0
			x3 trap / 0 4 n5 v1 | n4 n5`},
		{"of one register", "func 1 1; load 0; load 0; add; return", 0, impl.Plan{}, `
			4 3
			add v3 v0 v0 x0 @2
			ret v3 @3
			x0 trap / 0 2 v0 | v0 v0`},
		{"a guess of one register", "func 1 1; load 0; load 0; mul; return", 0, guess, `
			4 5
			open n3 v0 x0 @2
			muln n4 n3 n3 x1 @2
			box v3 n4 @3
			ret v3 @3
			x0 guard / 0 2 v0 | v0 v0
			x1 trap / 0 2 n3 | n3 n3`},
		{"of two constants", "func 0 0; int 2; int 3; add; return", 0, impl.Plan{}, `
			3 5
			num n2 =2 @2
			num n3 =3 @2
			addn n4 n2 n3 x0 @2
			box v2 n4 @3
			ret v2 @3
			x0 trap / 0 2 | =2 =3`},
		{"of two constants that are the same", "func 0 0; int 2; int 2; less; return", 0, impl.Plan{}, `
			3 4
			num n2 =2 @2
			num n3 =2 @2
			lessn v2 n2 n3 @2
			ret v2 @3`},
		{"a guess of two constants", "func 0 0; int 2; int 3; sub; return", 0, guess, `
			3 5
			num n2 =2 @2
			num n3 =3 @2
			subn n4 n2 n3 x0 @2
			box v2 n4 @3
			ret v2 @3
			x0 trap / 0 2 | =2 =3`},
		{"of a register and a constant", "func 1 1; load 0; int 3; add; return", 0, impl.Plan{}, `
			5 3
			const v3 =3 @2
			add v4 v0 v3 x0 @2
			ret v4 @3
			x0 trap / 0 2 v0 | v0 =3`},
		{"of a constant and a register", "func 1 1; int 3; load 0; add; return", 0, impl.Plan{}, `
			5 3
			const v3 =3 @2
			add v4 v3 v0 x0 @2
			ret v4 @3
			x0 trap / 0 2 v0 | =3 v0`},
		{"a guess of a register and a constant", "func 1 1; load 0; int 3; add; return", 0, guess, `
			4 6
			open n3 v0 x0 @2
			num n4 =3 @2
			addn n5 n3 n4 x1 @2
			box v3 n5 @3
			ret v3 @3
			x0 guard / 0 2 v0 | v0 =3
			x1 trap / 0 2 n3 | n3 =3`},
		{"a guess of a constant and a register", "func 1 1; int 3; load 0; less; return", 0, guess, `
			4 5
			open n3 v0 x0 @2
			num n4 =3 @2
			lessn v3 n4 n3 @2
			ret v3 @3
			x0 guard / 0 2 v0 | =3 v0`},
		{"of a bare number and a constant", "func 0 0; int 2; int 3; add; int 4; mul; return", 0, impl.Plan{}, `
			3 7
			num n2 =2 @2
			num n3 =3 @2
			addn n4 n2 n3 x0 @2
			num n5 =4 @4
			muln n6 n4 n5 x1 @4
			box v2 n6 @5
			ret v2 @5
			x0 trap / 0 2 | =2 =3
			x1 trap / 0 4 | n4 =4`},
		{"of a bare number and a register", "func 1 1; int 2; int 3; add; load 0; mul; return", 0, impl.Plan{}, `
			5 6
			num n3 =2 @2
			num n4 =3 @2
			addn n5 n3 n4 x0 @2
			box v3 n5 @4
			mul v4 v3 v0 x1 @4
			ret v4 @5
			x0 trap / 0 2 v0 | =2 =3
			x1 trap / 0 4 v0 | n5 v0`},
		{"a guess of a bare number and a register", "func 1 1; int 2; int 3; add; load 0; mul; return", 0, planOn(spec(0, 4, 1, 0)), `
			4 8
			num n3 =2 @2
			num n4 =3 @2
			addn n5 n3 n4 x0 @2
			open n6 v0 x1 @4
			muln n7 n5 n6 x2 @4
			box v3 n7 @5
			ret v3 @5
			x0 trap / 0 2 v0 | =2 =3
			x1 guard / 0 4 v0 | n5 v0
			x2 trap / 0 4 n6 | n5 n6`},
		{"a bare number twice", "func 0 0; int 2; int 3; add; dup; sub; return", 0, impl.Plan{}, `
			3 6
			num n2 =2 @2
			num n3 =3 @2
			addn n4 n2 n3 x0 @2
			subn n5 n4 n4 x1 @4
			box v2 n5 @5
			ret v2 @5
			x0 trap / 0 2 | =2 =3
			x1 trap / 0 4 | n4 n4`},
		{"of texts", `text "a"; func 1 1; text 0; load 0; add; return`, 0, impl.Plan{}, `
			5 3
			const v3 =a @2
			add v4 v3 v0 x0 @2
			ret v4 @3
			x0 trap / 0 2 v0 | =a v0`},
		{"a guess where the first is a text", `text "a"; func 1 1; text 0; load 0; add; return`, 0, guess, `
			3 3
			exit x0 @2
			x0 guard / 0 2 v0 | =a v0`},
		{"a guess where the second is nil", "func 1 1; load 0; nil; add; return", 0, guess, `
			3 4
			open n3 v0 x0 @2
			exit x1 @2
			x0 guard / 0 2 v0 | v0 =nil
			x1 guard / 0 2 n3 | n3 =nil`},
		{"a guess where the second is a truth, the first a number", "func 0 0; int 1; bool 1; less; return", 0, guess, `
			2 2
			exit x0 @2
			x0 guard / 0 2 | =1 =true`},
		{"a guess where both are none", "func 0 0; fun 0; nil; less; return", 0, guess, `
			2 2
			exit x0 @2
			x0 guard / 0 2 | =fun0 =nil`},
		{"of an unmade record", "func 1 1; new 1; load 0; add; return", 0, bareOn(), `
			5 3
			made x0 @0
			make v3 1 @2
			add v4 v3 v0 x1 @2
			ret v4 @3
			x0 trap / 0 0 v0 |
			x1 trap / 0 2 v0 | v3 v0 * =nil`},
		{"of one unmade record twice", "func 0 0; new 1; dup; add; return", 0, bareOn(), `
			4 2
			made x0 @0
			make v2 1 @2
			add v3 v2 v2 x1 @2
			ret v3 @3
			x0 trap / 0 0 |
			x1 trap / 0 2 | v2 v2 * =nil`},
		{"a guess where the first is an unmade record", "func 1 1; new 1; load 0; add; return", 0, bareOn(spec(0, 2, 1, 0)), `
			3 3
			made x0 @0
			exit x1 @2
			x0 trap / 0 0 v0 |
			x1 guard / 0 2 v0 | r0 v0 * =nil`},
		{"a guess where the second is an unmade record", "func 1 1; load 0; new 1; add; return", 0, bareOn(spec(0, 2, 1, 0)), `
			3 4
			made x0 @1
			open n3 v0 x1 @2
			exit x2 @2
			x0 trap / 0 1 v0 | v0
			x1 guard / 0 2 v0 | v0 r0 * =nil
			x2 guard / 0 2 n3 | n3 r0 * =nil`},
		{"a number that was opened is one everywhere", "func 1 2; load 0; store 1; load 0; dup; int 1; add; drop; load 1; sub; return", 0, planOn(spec(0, 5, 1, 0)), `
			6 9
			open n5 v0 x0 @5
			num n6 =1 @5
			addn n7 n5 n6 x1 @5
			subn n8 n5 n5 x2 @8
			box v5 n8 @9
			ret v5 @9
			x0 guard / 0 5 v0 v0 | v0 v0 =1
			x1 trap / 0 5 n5 n5 | n5 n5 =1
			x2 trap / 0 8 n5 n5 | n5 n5`},
	})
}

func TestMakingOfTruths(t *testing.T) {
	checkSpelled(t, []spelling{
		{"same of values", "func 2 2; load 0; load 1; same; return", 0, impl.Plan{}, `
			5 4
			same v4 v0 v1 @2
			ret v4 @3`},
		{"same of one register", "func 1 1; load 0; dup; same; return", 0, impl.Plan{}, `
			4 3
			same v3 v0 v0 @2
			ret v3 @3`},
		{"same of a bare number and a constant", "func 0 0; int 1; int 2; add; int 3; same; return", 0, impl.Plan{}, `
			5 5
			num n2 =1 @2
			num n3 =2 @2
			addn n4 n2 n3 x0 @2
			box v2 n4 @4
			const v3 =3 @4
			same v4 v2 v3 @4
			ret v4 @5
			x0 trap / 0 2 | =1 =2`},
		{"same of a constant and a bare number", "func 0 0; nil; int 1; int 2; add; same; return", 0, impl.Plan{}, `
			6 6
			num n3 =1 @3
			num n4 =2 @3
			addn n5 n3 n4 x0 @3
			const v3 =nil @4
			box v4 n5 @4
			same v5 v3 v4 @4
			ret v5 @5
			x0 trap / 0 3 | =nil =1 =2`},
		{"same of one unmade record", "func 0 0; new 1; dup; same; return", 0, bareOn(), `
			3 2
			made x0 @0
			const v2 =true @3
			ret v2 @3
			x0 trap / 0 0 |`},
		{"same of two unmade records", "func 0 0; new 1; new 1; same; return", 0, bareOn(), `
			3 2
			made x0 @0
			made x1 @1
			const v2 =false @3
			ret v2 @3
			x0 trap / 0 0 |
			x1 trap / 0 1 | r0 * =nil`},
		{"same of an unmade record and a register", "func 1 1; new 1; load 0; same; return", 0, bareOn(), `
			4 3
			made x0 @0
			const v3 =false @3
			ret v3 @3
			x0 trap / 0 0 v0 |`},
		{"same of a constant and an unmade record", "func 0 0; nil; new 1; same; return", 0, bareOn(), `
			3 2
			made x0 @1
			const v2 =false @3
			ret v2 @3
			x0 trap / 0 1 | =nil`},
		{"same of a record that was made, and itself", "func 0 1; new 1; store 0; load 0; print; load 0; load 0; same; return", 0, bareOn(), `
			5 3
			made x0 @0
			make v3 1 @3
			print v3 x1 @3
			same v4 v3 v3 @6
			ret v4 @7
			x0 trap / 0 0 v0 |
			x1 trap / 0 3 v3 | v3 * =nil`},
		{"not of a register", "func 1 1; load 0; not; return", 0, impl.Plan{}, `
			3 2
			not v2 v0 x0 @1
			ret v2 @2
			x0 trap / 0 1 v0 | v0`},
		{"not of a constant", "func 0 0; bool 1; not; return", 0, impl.Plan{}, `
			3 1
			const v1 =true @1
			not v2 v1 x0 @1
			ret v2 @2
			x0 trap / 0 1 | =true`},
		{"not of a bare number", "func 0 0; int 1; int 2; add; not; return", 0, impl.Plan{}, `
			4 5
			num n2 =1 @2
			num n3 =2 @2
			addn n4 n2 n3 x0 @2
			box v2 n4 @3
			not v3 v2 x1 @3
			ret v3 @4
			x0 trap / 0 2 | =1 =2
			x1 trap / 0 3 | n4`},
		{"not of what is less", "func 0 0; int 1; int 2; less; not; return", 0, impl.Plan{}, `
			4 4
			num n2 =1 @2
			num n3 =2 @2
			lessn v2 n2 n3 @2
			not v3 v2 x0 @3
			ret v3 @4
			x0 trap / 0 3 | v2`},
		{"not of an unmade record", "func 0 0; new 2; not; return", 0, bareOn(), `
			3 1
			made x0 @0
			make v1 2 @1
			not v2 v1 x1 @1
			ret v2 @2
			x0 trap / 0 0 |
			x1 trap / 0 1 | v1 * =nil =nil`},
	})
}

func TestMakingOfPrintsAndAnswers(t *testing.T) {
	checkSpelled(t, []spelling{
		{"a register", "func 1 1; load 0; print; load 0; return", 0, impl.Plan{}, `
			2 2
			print v0 x0 @1
			ret v0 @3
			x0 trap / 0 1 v0 | v0`},
		{"a constant", "func 0 0; int 4; print; nil; return", 0, impl.Plan{}, `
			3 1
			const v1 =4 @1
			print v1 x0 @1
			const v2 =nil @3
			ret v2 @3
			x0 trap / 0 1 | =4`},
		{"a bare number", "func 0 0; int 4; int 5; add; dup; print; return", 0, impl.Plan{}, `
			4 5
			num n2 =4 @2
			num n3 =5 @2
			addn n4 n2 n3 x0 @2
			box v2 n4 @4
			print v2 x1 @4
			box v3 n4 @5
			ret v3 @5
			x0 trap / 0 2 | =4 =5
			x1 trap / 0 4 | n4 n4`},
		{"an unmade record", "func 0 0; new 0; dup; print; return", 0, bareOn(), `
			3 2
			made x0 @0
			make v2 0 @2
			print v2 x1 @2
			ret v2 @3
			x0 trap / 0 0 |
			x1 trap / 0 2 | v2 v2 *`},
		{"an unmade record that is answered", "func 0 0; new 1; return", 0, bareOn(), `
			2 1
			made x0 @0
			make v1 1 @1
			ret v1 @1
			x0 trap / 0 0 |`},
		{"a record that is made at once", "func 0 0; new 1; dup; print; return", 0, impl.Plan{}, `
			3 2
			new v2 1 x0 @0
			print v2 x1 @2
			ret v2 @3
			x0 trap / 0 0 |
			x1 trap / 0 2 | v2 v2`},
	})
}

func TestMakingOfFields(t *testing.T) {
	checkSpelled(t, []spelling{
		{"a field of a register", "func 1 1; load 0; get 2; return", 0, bareOn(), `
			3 2
			get v2 v0 2 x0 @1
			ret v2 @2
			x0 trap / 0 1 v0 | v0`},
		{"a field of a constant", "func 0 0; nil; get 0; return", 0, bareOn(), `
			3 1
			const v1 =nil @1
			get v2 v1 0 x0 @1
			ret v2 @2
			x0 trap / 0 1 | =nil`},
		{"a field of a bare number", "func 0 0; int 1; int 2; add; get 5; return", 0, bareOn(), `
			4 5
			num n2 =1 @2
			num n3 =2 @2
			addn n4 n2 n3 x0 @2
			box v2 n4 @3
			get v3 v2 5 x1 @3
			ret v3 @4
			x0 trap / 0 2 | =1 =2
			x1 trap / 0 3 | n4`},
		{"a field of a record that is made at once", "func 0 0; new 2; get 1; return", 0, impl.Plan{}, `
			3 1
			new v1 2 x0 @0
			get v2 v1 1 x1 @1
			ret v2 @2
			x0 trap / 0 0 |
			x1 trap / 0 1 | v1`},
		{"a field of an unmade record", "func 0 0; new 2; get 1; return", 0, bareOn(), `
			2 1
			made x0 @0
			const v1 =nil @2
			ret v1 @2
			x0 trap / 0 0 |`},
		{"a field that it has not", "func 0 0; new 2; get 2; return", 0, bareOn(), `
			1 1
			made x0 @0
			exit x1 @1
			x0 trap / 0 0 |
			x1 trap / 0 1 | r0 * =nil =nil`},
		{"a field of a record without fields", "func 0 0; new 0; get 0; return", 0, bareOn(), `
			1 1
			made x0 @0
			exit x1 @1
			x0 trap / 0 0 |
			x1 trap / 0 1 | r0 *`},
		{"a put into a register", "func 2 2; load 0; load 1; put 3; nil; return", 0, bareOn(), `
			5 4
			put 3 v0 v1 x0 @2
			const v4 =nil @4
			ret v4 @4
			x0 trap / 0 2 v0 v1 | v0 v1`},
		{"a put into a constant", "func 0 0; int 1; int 2; put 3; nil; return", 0, bareOn(), `
			5 2
			const v2 =1 @2
			const v3 =2 @2
			put 3 v2 v3 x0 @2
			const v4 =nil @4
			ret v4 @4
			x0 trap / 0 2 | =1 =2`},
		{"a put of a bare number", "func 1 1; load 0; int 1; int 2; add; put 0; nil; return", 0, bareOn(), `
			6 7
			num n4 =1 @3
			num n5 =2 @3
			addn n6 n4 n5 x0 @3
			box v4 n6 @4
			put 0 v0 v4 x1 @4
			const v5 =nil @6
			ret v5 @6
			x0 trap / 0 3 v0 | v0 =1 =2
			x1 trap / 0 4 v0 | v0 n6`},
		{"a put of an unmade record", "func 1 1; load 0; new 1; put 0; nil; return", 0, bareOn(), `
			5 3
			made x0 @1
			make v3 1 @2
			put 0 v0 v3 x1 @2
			const v4 =nil @4
			ret v4 @4
			x0 trap / 0 1 v0 | v0
			x1 trap / 0 2 v0 | v0 v3 * =nil`},
		{"a put into an unmade record, of each kind", "func 1 2; new 4; store 1; load 1; load 0; put 0; load 1; int 1; int 2; add; put 1; load 1; int 9; put 2; load 1; new 0; put 3; load 0; print; nil; return", 0, bareOn(), `
			6 8
			made x0 @0
			num n5 =1 @8
			num n6 =2 @8
			addn n7 n5 n6 x1 @8
			made x2 @14
			print v0 x3 @17
			const v5 =nil @19
			ret v5 @19
			x0 trap / 0 0 v0 v1 |
			x1 trap / 0 8 v0 r0 | r0 =1 =2 * v0 =nil =nil =nil
			x2 trap / 0 14 v0 r0 | r0 * v0 n7 =9 =nil
			x3 trap / 0 17 v0 r0 | v0 * v0 n7 =9 r1 *`},
		{"a put into a field that it has not", "func 1 1; new 1; load 0; put 1; nil; return", 0, bareOn(), `
			3 3
			made x0 @0
			exit x1 @2
			x0 trap / 0 0 v0 |
			x1 trap / 0 2 v0 | r0 v0 * =nil`},
		{"a put of a record into itself", "func 0 1; new 1; store 0; load 0; load 0; put 0; load 0; get 0; get 0; print; nil; return", 0, bareOn(), `
			5 3
			made x0 @0
			make v3 1 @8
			put 0 v3 v3 x1 @8
			print v3 x2 @8
			const v4 =nil @10
			ret v4 @10
			x0 trap / 0 0 v0 |
			x1 trap / 0 8 v3 | v3 * v3
			x2 trap / 0 8 v3 | v3 * v3`},
		{"a put of something else on top", "func 0 1; new 1; store 0; load 0; int 1; put 0; load 0; int 2; put 0; load 0; get 0; return", 0, bareOn(), `
			4 3
			made x0 @0
			const v3 =2 @10
			ret v3 @10
			x0 trap / 0 0 v0 |`},
		{"a field of an unmade record that a guess opens", "func 1 2; new 1; store 1; load 1; load 0; put 0; load 0; int 1; add; print; load 1; get 0; return", 0, bareOn(spec(0, 7, 1, 0)), `
			6 7
			made x0 @0
			open n4 v0 x1 @7
			num n5 =1 @7
			addn n6 n4 n5 x2 @7
			box v4 n6 @8
			print v4 x3 @8
			box v5 n4 @11
			ret v5 @11
			x0 trap / 0 0 v0 v1 |
			x1 guard / 0 7 v0 r0 | v0 =1 * v0
			x2 trap / 0 7 n4 r0 | n4 =1 * n4
			x3 trap / 0 8 n4 r0 | n6 * n4`},
	})
}
