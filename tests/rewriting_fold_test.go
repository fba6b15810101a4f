package tests

import (
	"fmt"
	"slices"
	"strings"
	"testing"

	"loop.example/g00094/impl"
)

// inSum is a function that prints and answers with these instructions ahead of it.
func inSum(code string) string { return "func 0 1; " + code + "; print; nil; return" }

// folds is for what stands in such a function.
func folds(name string, code string, want string) rewrite {
	return rewrite{name, inSum(code), inSum(want)}
}

func unfolded(name string, code string) rewrite { return folds(name, code, code) }

func TestFoldOfSums(t *testing.T) {
	checkRewrites(t, "Fold", []rewrite{
		stays("nothing", "func 0 0; nil; return"),
		folds("a sum", "int 2; int 3; add", "int 5"),
		folds("a difference", "int 2; int 3; sub", "int -1"),
		folds("a product", "int 2; int 3; mul", "int 6"),
		folds("numbers below 0", "int -2; int -3; add", "int -5"),
		folds("a difference of numbers below 0", "int -2; int -3; sub", "int 1"),
		folds("a product of numbers below 0", "int -2; int -3; mul", "int 6"),
		folds("one number below 0", "int -2; int 3; mul", "int -6"),
		folds("nothing left over", "int 7; int 7; sub", "int 0"),
		folds("times 0", "int -7; int 0; mul", "int 0"),
		folds("0 and 0", "int 0; int 0; add", "int 0"),
		{"at the end", "func 0 0; nil; drop; int 1; int 2; add; return", "func 0 0; nil; drop; int 3; return"},
		{"on a stack that is not empty", "func 0 0; nil; nil; int 1; int 2; add; return", "func 0 0; nil; nil; int 3; return"},
		{"where the stack is full", "func 0 0; " + strings.Repeat("nil; ", 14) + "int 1; int 2; add; return", "func 0 0; " + strings.Repeat("nil; ", 14) + "int 3; return"},
		{"several", "func 0 1; int 1; int 2; add; store 0; int 3; int 4; mul; print; int 5; int 6; sub; return", "func 0 1; int 3; store 0; int 12; print; int -1; return"},
		{"two side by side", "func 0 0; int 1; int 2; add; int 3; int 4; mul; same; return", "func 0 0; int 3; int 12; same; return"},
	})
}

// What is worked out may be one of the two numbers of the next one, again and again.
func TestFoldOfSumsInSums(t *testing.T) {
	checkRewrites(t, "Fold", []rewrite{
		folds("on the left", "int 2; int 3; add; int 4; mul", "int 20"),
		folds("on the right", "int 2; int 3; int 4; mul; add", "int 14"),
		folds("on both sides", "int 2; int 3; add; int 4; int 5; sub; mul", "int -5"),
		folds("differences, from the left", "int 9; int 3; sub; int 2; sub", "int 4"),
		folds("differences, from the right", "int 9; int 3; int 2; sub; sub", "int 8"),
		folds("three deep, on the left", "int 1; int 2; add; int 3; add; int 4; sub; int 5; mul", "int 10"),
		folds("three deep, on the right", "int 1; int 2; int 3; int 4; sub; mul; add", "int -1"),
		folds("here and there", "int 1; int 2; int 3; add; mul; int 4; int 5; int 6; mul; sub; add", "int -21"),
		folds("with more ahead", "nil; drop; int 7; int 1; int 2; add; same", "nil; drop; int 7; int 3; same"),
		folds("with more behind", "int 1; int 2; add; nil; same", "int 3; nil; same"),
		unfolded("but not over another value", "int 1; nil; same; int 2; same"),
		folds("up to another value", "nil; int 1; int 2; add; add", "nil; int 3; add"),
		folds("behind another value", "int 5; nil; same; int 1; int 2; add; same", "int 5; nil; same; int 3; same"),
	})
	// As many as the stack has room for.
	for n := 2; n <= impl.MaxStack; n++ {
		right := strings.Repeat("int 1; ", n) + strings.Repeat("add; ", n-1)
		left := "int 1; " + strings.Repeat("int 1; add; ", n-1)
		for _, code := range []string{right, left} {
			checkRewrites(t, "Fold", []rewrite{folds(fmt.Sprint(n, " numbers"), code[:len(code)-2], fmt.Sprint("int ", n))})
		}
	}
	// As many as a function has room for, sums and differences by turns.
	code := []impl.Ins{ins(impl.OpInt, 3)}
	for i := range (impl.MaxCode - 2) / 2 {
		code = append(code, ins(impl.OpInt, 2), ins(impl.OpAdd+i%2, 0))
	}
	m := one(append(code, returnIns)...)
	if got := impl.Fold(m); !slices.Equal(got.Funcs[0].Code, []impl.Ins{ins(impl.OpInt, 5), returnIns}) {
		t.Errorf("a sum of %d instructions: %v", len(m.Funcs[0].Code), got)
	}
	checkRewritings(t, m)
}

// What would be past the greatest or the least number traps when it is done, so it stays.
func TestFoldOfWhatTraps(t *testing.T) {
	checkRewrites(t, "Fold", []rewrite{
		folds("to the greatest", "int 999999999; int 1; add", "int 1000000000"),
		unfolded("past the greatest", "int 1000000000; int 1; add"),
		folds("to the least", "int -999999999; int 1; sub", "int -1000000000"),
		unfolded("past the least", "int -1000000000; int 1; sub"),
		folds("the greatest and the least", "int 1000000000; int -1000000000; add", "int 0"),
		unfolded("the greatest without the least", "int 1000000000; int -1000000000; sub"),
		unfolded("the least without the greatest", "int -1000000000; int 1000000000; sub"),
		folds("the greatest and 0", "int 1000000000; int 0; add", "int 1000000000"),
		folds("0 without the greatest", "int 0; int 1000000000; sub", "int -1000000000"),
		folds("0 without the least", "int 0; int -1000000000; sub", "int 1000000000"),
		unfolded("the greatest twice", "int 1000000000; int 1000000000; add"),
		unfolded("the least twice", "int -1000000000; int -1000000000; add"),
		folds("a product that is the greatest", "int 50000; int 20000; mul", "int 1000000000"),
		folds("a product that is the least", "int -50000; int 20000; mul", "int -1000000000"),
		unfolded("a product past the greatest", "int 31623; int 31623; mul"),
		folds("a product near the greatest", "int 31622; int 31622; mul", "int 999950884"),
		unfolded("a product past the least", "int -31623; int 31623; mul"),
		unfolded("a product far past the greatest", "int 1000000000; int 1000000000; mul"),
		unfolded("a product far past the least", "int 1000000000; int -1000000000; mul"),
		folds("the greatest times 1 below 0", "int 1000000000; int -1; mul", "int -1000000000"),
		folds("the least times 0", "int -1000000000; int 0; mul", "int 0"),
	})
	// What stands around it is folded as it would be otherwise, but for what hangs on what traps.
	checkRewrites(t, "Fold", []rewrite{
		unfolded("a trap on the left", "int 1000000000; int 1; add; int 1; sub"),
		unfolded("a trap on the right", "int 1; int 1000000000; int 1; add; sub"),
		unfolded("a trap on the left, times 0", "int 1000000000; int 1; add; int 0; mul"),
		folds("no trap where the other two are first", "int 1000000000; int 1; int 1; sub; add", "int 1000000000"),
		folds("a trap behind a sum", "int 999999998; int 1; add; int 2; add", "int 999999999; int 2; add"),
		folds("a trap ahead of a sum", "int 1000000000; int 1; add; print; int 1; int 2; add", "int 1000000000; int 1; add; print; int 3"),
		folds("sums on both sides of a trap", "int 1; int 2; add; print; int -1000000000; int 1; sub; print; int 3; int 4; mul", "int 3; print; int -1000000000; int 1; sub; print; int 12"),
		folds("a trap of what was folded", "int 50000; int 2; mul; int 5000; int 5; mul; mul", "int 100000; int 25000; mul"),
		folds("a trap on the left of a sum", "int 1000000000; int 1; add; int 2; int 3; add; sub", "int 1000000000; int 1; add; int 5; sub"),
	})
	for _, a := range []int{-impl.MaxNum, -impl.MaxNum + 1, -31623, -1, 0, 1, 31623, impl.MaxNum - 1, impl.MaxNum} {
		for _, b := range []int{-impl.MaxNum, -impl.MaxNum + 1, -31623, -1, 0, 1, 31623, impl.MaxNum - 1, impl.MaxNum} {
			for op, n := range map[int]int{impl.OpAdd: a + b, impl.OpSub: a - b, impl.OpMul: a * b} {
				m := one(ins(impl.OpInt, a), ins(impl.OpInt, b), ins(op, 0), returnIns)
				want := cloneModule(m)
				if within(n, -1000000000, 1000000000) {
					want.Funcs[0].Code = []impl.Ins{ins(impl.OpInt, n), returnIns}
				}
				if got := impl.Fold(m); !sameModule(got, want) {
					t.Errorf("%d and %d by %d: %v", a, b, op, got)
				}
				for _, two := range checkRewritings(t, m) {
					two.checkRun(t, nil, 10)
				}
			}
		}
	}
}

// Only two OpInt and an OpAdd, OpSub or OpMul are folded.
func TestWhatFoldLeaves(t *testing.T) {
	numbers := "int 1; int 2; "
	checkRewrites(t, "Fold", []rewrite{
		unfolded("less", numbers+"less"), unfolded("same", numbers+"same"), unfolded("swap", numbers+"swap; sub"),
		unfolded("drop", numbers+"drop"), unfolded("a nil between", numbers+"nil; drop; add"), unfolded("a store between", numbers+"store 0; load 0; add"),
		unfolded("dup", "int 1; dup; add"), unfolded("a local on the left", "load 0; int 1; add"), unfolded("a local on the right", "int 1; load 0; add"),
		unfolded("a truth on the left", "bool 1; int 1; add"), unfolded("a truth on the right", "int 1; bool 1; mul"), unfolded("truths", "bool 1; bool 1; add"),
		unfolded("nils", "nil; nil; add"), unfolded("functions", "fun 0; fun 0; add"), unfolded("a record", "new 1; int 1; add"), unfolded("a call between", "int 1; fun 0; call 0; add"),
		unfolded("an invoke between", "int 1; invoke 0; add"), unfolded("a number alone", "int 1"), unfolded("three numbers", "int 1; int 2; int 3; drop; drop"),
		{"texts", `text "a"; func 0 0; text 0; text 0; add; return`, `text "a"; func 0 0; text 0; text 0; add; return`},
		stays("a return behind two numbers", "func 0 0; int 1; int 2; return"), stays("a print behind two numbers", "func 0 0; int 1; int 2; print; return"),
		stays("a put behind two numbers", "func 0 0; new 1; int 1; int 2; swap; drop; put 0; nil; return"),
	})
	for _, x := range eachOp(2) {
		if within(x.Op, impl.OpAdd, impl.OpMul) {
			continue
		}
		m := atHeight(0, nilIns)
		m.Funcs[0].Code = []impl.Ins{ins(impl.OpInt, 1), ins(impl.OpInt, 2), x, jump(3)}
		if got := impl.Fold(m); !sameModule(got, m) && goodByLaw(m) {
			t.Errorf("two numbers and %v: %v", x, got)
		}
		checkRewritings(t, m)
		m.Funcs[0].Code = []impl.Ins{nilIns, nilIns, x, ins(impl.OpInt, 1), ins(impl.OpAdd, 0), jump(5)}
		checkRewritings(t, m)
	}
}

// Nobody may come to the second or the third one but by the first; the first one may be come to from anywhere.
func TestFoldWhereOthersComeTo(t *testing.T) {
	checkRewrites(t, "Fold", []rewrite{
		{"the first one, from ahead", "func 1 1; load 0; ifnot 2; int 1; int 2; add; return", "func 1 1; load 0; ifnot 2; int 3; return"},
		{"the first one, over what stands ahead", "func 1 1; load 0; if 4; nil; drop; int 1; int 2; add; return", "func 1 1; load 0; if 4; nil; drop; int 3; return"},
		{"the first one, from behind", "func 1 1; int 1; int 2; add; print; load 0; if 0; nil; return", "func 1 1; int 3; print; load 0; if 0; nil; return"},
		{"the first one, from behind by a jump", "func 0 0; nil; drop; int 1; int 2; add; print; jump 2", "func 0 0; nil; drop; int 3; print; jump 2"},
		stays("the second one", "func 1 1; load 0; if 5; int 1; jump 6; nil; int 1; int 2; add; return"),
		stays("the second one, by an if", "func 1 1; int 7; load 0; if 5; drop; int 1; int 2; add; return"),
		stays("the second one, by an ifnot", "func 1 1; int 7; load 0; ifnot 5; drop; int 1; int 2; add; return"),
		stays("the third one, by an if", "func 1 1; int 7; int 7; load 0; if 8; drop; drop; int 1; int 2; add; return"),
		stays("the third one, by a jump", "func 1 1; load 0; if 5; int 1; int 2; jump 7; int 3; int 4; add; return"),
		stays("the third one, from behind", "func 1 1; int 1; int 2; add; print; int 3; int 4; load 0; if 2; drop; return"),
		stays("the second one, from behind", "func 1 1; int 1; int 2; add; print; int 3; load 0; if 1; return"),
		stays("the second one, behind a branch", "func 1 1; int 1; load 0; if 3; int 2; add; return"),
		stays("the third one, behind a branch", "func 1 1; int 1; int 2; load 0; if 4; add; return"),
		{"the one behind them", "func 1 1; int 7; load 0; if 7; drop; int 1; int 2; add; return", "func 1 1; int 7; load 0; if 5; drop; int 3; return"},
		{"the one behind them, from behind", "func 1 1; int 1; int 2; add; print; int 7; load 0; if 3; return", "func 1 1; int 3; print; int 7; load 0; if 1; return"},
	})
	// Of sums within a sum those fold that nobody comes into the midst of.
	checkRewrites(t, "Fold", []rewrite{
		{"the one within, whose first one is the second", "func 1 1; int 7; load 0; if 5; drop; int 1; int 2; int 3; add; mul; return", "func 1 1; int 7; load 0; if 5; drop; int 1; int 5; mul; return"},
		{"the one ahead, and no other", "func 1 1; int 7; load 0; if 7; drop; int 1; int 2; add; int 3; mul; return", "func 1 1; int 7; load 0; if 5; drop; int 3; int 3; mul; return"},
		{"the ones on both sides", "func 1 1; int 7; load 0; if 7; drop; int 1; int 2; add; int 3; int 4; add; mul; return", "func 1 1; int 7; load 0; if 5; drop; int 3; int 7; mul; return"},
		{"the two within, but not what they are in", "func 1 1; int 7; int 7; load 0; if 12; drop; drop; int 1; int 2; add; int 3; int 4; add; mul; return",
			"func 1 1; int 7; int 7; load 0; if 8; drop; drop; int 3; int 7; mul; return"},
	})
}

// Places are numbered anew, wherever a jump stands and leads to.
func TestFoldWhereJumpsLead(t *testing.T) {
	checkRewrites(t, "Fold", []rewrite{
		{"over what is folded", "func 0 0; jump 4; int 1; int 2; add; nil; return", "func 0 0; jump 4; int 1; int 2; add; nil; return"},
		{"over what is folded, and others come to", "func 1 1; load 0; if 6; int 1; int 2; add; return; nil; return", "func 1 1; load 0; if 4; int 3; return; nil; return"},
		{"an ifnot over two", "func 1 1; load 0; ifnot 11; int 1; int 2; add; print; int 3; int 4; mul; print; jump 0; nil; return", "func 1 1; load 0; ifnot 7; int 3; print; int 12; print; jump 0; nil; return"},
		{"back over what is folded", "func 1 1; load 0; drop; int 1; int 2; add; print; load 0; if 0; nil; return", "func 1 1; load 0; drop; int 3; print; load 0; if 0; nil; return"},
		{"back to behind what is folded", "func 1 1; int 1; int 2; add; print; load 0; ifnot 4; nil; return", "func 1 1; int 3; print; load 0; ifnot 2; nil; return"},
		{"between two that are folded", "func 1 1; int 1; int 2; add; print; jump 5; int 3; int 4; add; print; jump 5", "func 1 1; int 3; print; jump 3; int 7; print; jump 3"},
		{"by two that are folded one in the other", "func 1 1; load 0; if 8; int 1; int 2; int 3; add; mul; return; nil; return", "func 1 1; load 0; if 4; int 5; return; nil; return"},
	})
}

// Instructions that nobody comes to stay, and lead to what is left.
func TestFoldOfWhatNobodyComesTo(t *testing.T) {
	checkRewrites(t, "Fold", []rewrite{
		stays("a sum", "func 0 0; nil; return; int 1; int 2; add; return"),
		stays("a sum at the end", "func 0 0; nil; return; int 1; int 2; add"),
		stays("behind a jump", "func 0 0; jump 4; int 1; int 2; mul; nil; return"),
		stays("the third one alone", "func 0 0; int 1; int 2; jump 4; add; nil; return"),
		stays("all but the first", "func 0 0; int 1; return; int 2; add"),
		{"behind what is folded", "func 0 0; int 1; int 2; add; return; int 1; int 2; add", "func 0 0; int 3; return; int 1; int 2; add"},
		{"to the first one", "func 0 0; int 1; int 2; add; return; jump 0", "func 0 0; int 3; return; jump 0"},
		{"to the second one", "func 0 0; int 1; int 2; add; return; jump 1", "func 0 0; int 3; return; jump 1"},
		{"to the third one", "func 0 0; int 1; int 2; add; return; jump 2", "func 0 0; int 3; return; jump 1"},
		{"to the one behind", "func 0 0; int 1; int 2; add; return; jump 3", "func 0 0; int 3; return; jump 1"},
		{"an if and an ifnot, to each", "func 0 0; nil; drop; int 1; int 2; add; return; if 2; ifnot 3; if 4; ifnot 5; if 1; ifnot 8", "func 0 0; nil; drop; int 3; return; if 2; ifnot 3; if 3; ifnot 3; if 1; ifnot 6"},
		{"into the midst of a sum in a sum", "func 0 0; int 1; int 2; int 3; add; mul; return; jump 0; jump 1; jump 2; jump 3; jump 4; jump 5; jump 12",
			"func 0 0; int 5; return; jump 0; jump 1; jump 1; jump 1; jump 1; jump 1; jump 8"},
		{"into the midst of what is folded in part", "func 0 0; int 1000000000; int 1; int 2; add; mul; return; jump 0; jump 1; jump 2; jump 3; jump 4; jump 5",
			"func 0 0; int 1000000000; int 3; mul; return; jump 0; jump 1; jump 2; jump 2; jump 2; jump 3"},
		{"to a sum that folds though another one leads there, whom nobody comes to", "func 0 0; jump 3; int 4; jump 4; int 1; int 2; add; return", "func 0 0; jump 3; int 4; jump 4; int 3; return"},
		{"ahead of what is folded, into its midst", "func 0 0; jump 4; jump 5; jump 6; jump 7; int 1; int 2; add; return", "func 0 0; jump 4; jump 5; jump 5; jump 5; int 3; return"},
	})
}

// The As of others than jumps are no places.
func TestFoldChangesJumpsAlone(t *testing.T) {
	checkRewrites(t, "Fold", []rewrite{{"numbers that are no places",
		`text "a"; text "b"; text "c"; text "d"; func 0 6; int 1; int 2; add; drop; int 5; store 5; load 5; drop; text 3; drop; bool 1; drop; fun 1; drop; new 6; dup; int 4; put 5; get 5; drop; fun 2; nil; nil; call 2; drop; nil; nil; invoke 2; return; func 0 0; nil; return; func 2 2; load 1; return`,
		`text "a"; text "b"; text "c"; text "d"; func 0 6; int 3; drop; int 5; store 5; load 5; drop; text 3; drop; bool 1; drop; fun 1; drop; new 6; dup; int 4; put 5; get 5; drop; fun 2; nil; nil; call 2; drop; nil; nil; invoke 2; return; func 0 0; nil; return; func 2 2; load 1; return`}})
}

func TestFoldOfSeveralFunctions(t *testing.T) {
	checkRewrites(t, "Fold", []rewrite{
		{"each by itself", "func 0 0; int 1; int 2; add; invoke 1; add; return; func 0 0; nil; drop; int 3; int 4; mul; return; func 0 0; jump 1; int 7; return",
			"func 0 0; int 3; invoke 1; add; return; func 0 0; nil; drop; int 12; return; func 0 0; jump 1; int 7; return"},
		{"one that nobody calls", "func 0 0; nil; return; func 6 12; int 1; int 2; add; return", "func 0 0; nil; return; func 6 12; int 3; return"},
		{"jumps of one into places of the other", "func 0 0; jump 1; jump 2; nil; return; func 0 0; int 1; int 2; add; return", "func 0 0; jump 1; jump 2; nil; return; func 0 0; int 3; return"},
	})
}

// foldable are the places of a function at which three instructions stand that may be folded, by the document's words.
func foldable(m impl.Module, f int) []int {
	code, depths, leaders := m.Funcs[f].Code, depthsByLaw(m, f), flowByLaw(m, f).leaders
	var out []int
	for at := 0; at+2 < len(code); at++ {
		three := code[at : at+3]
		if three[0].Op != 1 || three[1].Op != 1 || !within(three[2].Op, 11, 13) || slices.Contains(depths[at:at+3], -1) {
			continue
		}
		if slices.Contains(leaders, at+1) || slices.Contains(leaders, at+2) {
			continue
		}
		if sum := operations()[three[2].Op-11].law(num(three[0].A), num(three[1].A)); sum.trap == 0 {
			out = append(out, at)
		}
	}
	return out
}

// Whichever of several is folded first, the same is left in the end, and then there are none.
func TestTheOrderInWhichSumsAreFolded(t *testing.T) {
	folded, several := 0, 0
	for i, m := range rewritables(94, 200) {
		want := impl.Fold(m)
		for f := range m.Funcs {
			for step := 0; ; step++ {
				list := foldable(m, f)
				if len(list) == 0 {
					break
				}
				if len(list) > 1 {
					several++
				}
				at := list[(i+step*5)%len(list)]
				if step == 0 {
					at = list[len(list)-1]
				}
				code := m.Funcs[f].Code
				sum := operations()[code[at+2].Op-11].law(num(code[at].A), num(code[at+1].A))
				left := slices.Delete(numbersBelow(len(code)), at+1, at+3)
				m.Funcs[f].Code = onlyCode(code, left).code
				m.Funcs[f].Code[at].A = sum.v.N
				folded++
			}
		}
		if !sameModule(m, want) {
			t.Fatalf("program %d is folded to %v, and in another order to %v", i, want, m)
		}
		if again := impl.Fold(want); !sameModule(again, want) {
			t.Fatalf("program %d is folded again, to %v", i, again)
		}
	}
	if folded < 300 || several < 100 {
		t.Errorf("%d were folded, %d times one of several: the programs try too little", folded, several)
	}
}

// Behind Fold the heights are those of the instructions that are left.
func TestHeightsBehindFold(t *testing.T) {
	for i, m := range rewritables(95, 100) {
		x := checkRewriting(t, m, rewritingNamed("Fold"))
		for f := range m.Funcs {
			was, now := impl.DepthsOf(m, f), impl.DepthsOf(x.got, f)
			for n, at := range x.left[f] {
				if now[n] != was[at] {
					t.Fatalf("program %d, function %d: heights %v, not %v at %v", i, f, now, was, x.left[f])
				}
			}
			if got := foldable(x.got, f); len(got) != 0 {
				t.Fatalf("program %d, function %d can be folded still at %v", i, f, got)
			}
		}
	}
}
