package tests

import (
	"slices"
	"testing"

	"loop.example/g00094/impl"
)

// Instruction 0 has a height in each function, so the first one that can be without one is the next.
func TestCutOfWhatNobodyComesTo(t *testing.T) {
	checkRewrites(t, "Cut", []rewrite{
		stays("nothing", "func 0 0; nil; return"),
		stays("nothing, with jumps", "func 1 1; load 0; ifnot 4; int 1; jump 5; int 2; return"),
		stays("nothing, with a loop", "func 0 0; bool 1; if 0; bool 0; ifnot 0; nil; return"),
		stays("nothing, in a loop without an end", "func 0 0; jump 0"),
		{"at the beginning", "func 0 0; jump 2; nil; nil; return", "func 0 0; jump 1; nil; return"},
		{"several at the beginning", "func 0 0; jump 5; nil; drop; add; return; int 7; return", "func 0 0; jump 1; int 7; return"},
		{"in the midst", "func 0 0; nil; jump 3; drop; print; nil; return", "func 0 0; nil; jump 2; print; nil; return"},
		{"several in the midst", "func 0 0; nil; jump 6; drop; drop; return; nil; return", "func 0 0; nil; jump 2; return"},
		{"at the end", "func 0 0; nil; return; drop", "func 0 0; nil; return"},
		{"several at the end", "func 0 0; nil; return; nil; nil; swap; return", "func 0 0; nil; return"},
		{"at the end, behind a jump", "func 0 0; jump 0; nil; jump 1", "func 0 0; jump 0"},
		{"all but the first", "func 0 0; jump 0; nil; nil; nil; nil", "func 0 0; jump 0"},
		{"at the beginning, in the midst and at the end", "func 0 0; jump 3; nil; nil; nil; jump 6; nil; print; nil; return; nil; nil",
			"func 0 0; jump 1; nil; jump 3; print; nil; return"},
		{"by turns", "func 0 0; jump 2; drop; jump 4; drop; jump 6; drop; nil; return; drop", "func 0 0; jump 1; jump 2; jump 3; nil; return"},
		{"behind a return in a branch", "func 1 1; load 0; ifnot 6; nil; return; nil; nil; int 1; return; nil", "func 1 1; load 0; ifnot 4; nil; return; int 1; return"},
		{"a whole loop", "func 0 0; nil; return; bool 1; if 2; bool 0; ifnot 4; nil; return", "func 0 0; nil; return"},
		{"what would take more than there is", "func 0 0; jump 5; drop; add; put 3; swap; nil; return", "func 0 0; jump 1; nil; return"},
		{"what would join at another height", "func 0 0; nil; jump 4; nil; nil; print; nil; return", "func 0 0; nil; jump 2; print; nil; return"},
		{"what would run past the end", "func 0 0; nil; jump 3; nil; return; nil; nil", "func 0 0; nil; jump 2; return"},
	})
}

// A jump that is left always leads to one that is left.
func TestCutWhereJumpsLead(t *testing.T) {
	checkRewrites(t, "Cut", []rewrite{
		{"over what goes", "func 0 0; jump 4; nil; nil; nil; nil; return", "func 0 0; jump 1; nil; return"},
		{"over what goes, and more", "func 0 0; jump 6; nil; return; jump 6; nil; nil; jump 1", "func 0 0; jump 3; nil; return; jump 1"},
		{"back over what goes", "func 0 0; jump 5; nil; return; drop; drop; jump 1", "func 0 0; jump 3; nil; return; jump 1"},
		{"to what is ahead of all that goes", "func 0 0; nil; drop; jump 0; nil; nil", "func 0 0; nil; drop; jump 0"},
		{"behind one that goes, to ahead of it", "func 0 0; jump 2; nil; nil; drop; jump 0", "func 0 0; jump 1; nil; drop; jump 0"},
		{"behind one that goes, to itself", "func 0 0; jump 2; nil; jump 2", "func 0 0; jump 1; jump 1"},
		{"an if, over what goes", "func 1 1; load 0; if 6; nil; return; nil; nil; int 1; return", "func 1 1; load 0; if 4; nil; return; int 1; return"},
		{"an ifnot, over what goes", "func 1 1; load 0; ifnot 6; nil; return; nil; nil; int 1; return", "func 1 1; load 0; ifnot 4; nil; return; int 1; return"},
		{"an if, back over what goes", "func 1 1; jump 4; nil; return; nil; load 0; if 1; jump 1", "func 1 1; jump 3; nil; return; load 0; if 1; jump 1"},
		{"an ifnot, back over what goes", "func 1 1; jump 4; nil; return; nil; load 0; ifnot 1; jump 1", "func 1 1; jump 3; nil; return; load 0; ifnot 1; jump 1"},
		{"to the one ahead of what goes, and to the one behind it", "func 1 1; load 0; if 5; jump 6; nil; drop; jump 2; nil; return",
			"func 1 1; load 0; if 3; jump 4; jump 2; nil; return"},
		{"several, over each other", "func 1 1; load 0; ifnot 9; load 0; if 12; jump 7; nil; nil; jump 2; nil; jump 12; nil; nil; nil; return; drop",
			"func 1 1; load 0; ifnot 6; load 0; if 7; jump 5; jump 2; jump 7; nil; return"},
		{"those that go, into their own midst", "func 0 0; jump 6; nil; jump 4; jump 3; jump 1; if 2; nil; return; jump 3", "func 0 0; jump 1; nil; return"},
		{"those that go, into what is left", "func 0 0; nil; jump 5; jump 0; if 1; ifnot 6; print; nil; return", "func 0 0; nil; jump 2; print; nil; return"},
		{"one that is left, over those that lead into their midst", "func 0 0; jump 6; jump 3; nil; nil; jump 2; if 3; nil; return", "func 0 0; jump 1; nil; return"},
	})
}

// What goes can be any instruction, and the As of others than jumps are no places.
func TestCutOfEachOp(t *testing.T) {
	var code []impl.Ins
	for _, x := range eachOp(0) {
		m := atHeight(0, x)
		m.Funcs[0].Code = []impl.Ins{nilIns, jump(3), x, returnIns}
		want := cloneModule(m)
		want.Funcs[0].Code = []impl.Ins{nilIns, jump(2), returnIns}
		if got := impl.Cut(m); !sameModule(got, want) {
			t.Errorf("without %v: %v", x, got)
		}
		checkRewritings(t, m)
		code = append(code, x)
	}
	// All of them go at once.
	m := atHeight(0, nilIns)
	m.Funcs[0].Code = append(append([]impl.Ins{jump(len(code) + 1)}, code...), nilIns, returnIns)
	if got := impl.Cut(m); !slices.Equal(got.Funcs[0].Code, []impl.Ins{jump(1), nilIns, returnIns}) {
		t.Errorf("all Ops: %v", got)
	}
	checkRewritings(t, m)
	checkRewrites(t, "Cut", []rewrite{{"numbers that are no places",
		`text "a"; text "b"; text "c"; text "d"; text "e"; func 1 6; jump 5; nil; nil; nil; nil; int 5; store 5; load 5; drop; text 4; drop; bool 1; drop; fun 2; drop; new 6; dup; int 4; put 5; get 5; drop; fun 2; load 0; load 0; call 2; drop; load 0; load 0; invoke 2; return; func 0 0; nil; return; func 2 2; load 1; return`,
		`text "a"; text "b"; text "c"; text "d"; text "e"; func 1 6; jump 1; int 5; store 5; load 5; drop; text 4; drop; bool 1; drop; fun 2; drop; new 6; dup; int 4; put 5; get 5; drop; fun 2; load 0; load 0; call 2; drop; load 0; load 0; invoke 2; return; func 0 0; nil; return; func 2 2; load 1; return`}})
}

// Whether an instruction goes hangs on its own function alone; functions stay, also those that nobody calls.
func TestCutOfSeveralFunctions(t *testing.T) {
	checkRewrites(t, "Cut", []rewrite{
		{"in the first", "func 0 0; jump 2; nil; nil; return; func 0 0; nil; return", "func 0 0; jump 1; nil; return; func 0 0; nil; return"},
		{"in the last", "func 0 0; nil; return; func 0 0; jump 2; nil; nil; return", "func 0 0; nil; return; func 0 0; jump 1; nil; return"},
		{"in each, at other places", "func 0 0; invoke 1; return; nil; func 0 0; jump 3; nil; nil; invoke 2; return; func 0 0; nil; jump 3; nil; return; nil",
			"func 0 0; invoke 1; return; func 0 0; jump 1; invoke 2; return; func 0 0; nil; jump 2; return"},
		{"a call that nobody comes to, of one that nobody calls", "func 0 0; nil; return; invoke 1; func 1 3; load 0; return; drop", "func 0 0; nil; return; func 1 3; load 0; return"},
	})
}

// However many go, and wherever they stand.
func TestCutOfEachPlace(t *testing.T) {
	for n := 3; n <= impl.MaxCode; n++ {
		for _, from := range slices.Compact([]int{1, 2, n / 2, n - 1}) {
			// The last one that is come to leads to the end of the function, over all that stands between.
			m := one(append(nils(min(from-1, impl.MaxStack-1)), jump(n-1))...)
			begins := len(m.Funcs[0].Code)
			if begins > n-1 {
				continue
			}
			m.Funcs[0].Code = append(m.Funcs[0].Code, nils(n-1-begins)...)
			m.Funcs[0].Code = append(m.Funcs[0].Code, jump(n-1))
			want := slices.Concat(m.Funcs[0].Code[:begins], []impl.Ins{jump(begins)})
			want[begins-1] = jump(begins)
			if got := impl.Cut(m); !slices.Equal(got.Funcs[0].Code, want) {
				t.Errorf("%d of %d go: %v", n-1-begins, n, got)
			}
			checkRewritings(t, m)
		}
	}
	// Each other one goes, and each jump leads over one more.
	m := one()
	var want []impl.Ins
	for at := 0; at+2 < impl.MaxCode; at += 2 {
		m.Funcs[0].Code = append(m.Funcs[0].Code, jump(at+2), dropIns)
		want = append(want, jump(at/2+1))
	}
	m.Funcs[0].Code = append(m.Funcs[0].Code, jump(0), dropIns)
	want = append(want, jump(0))
	if got := impl.Cut(m); !slices.Equal(got.Funcs[0].Code, want) {
		t.Errorf("each other one goes: %v", got)
	}
	checkRewritings(t, m)
}

// Behind Cut one comes to each instruction, at the height that it had, and nothing more can be cut.
func TestWhatIsLeftBehindCut(t *testing.T) {
	for i, m := range rewritables(90, 150) {
		x := checkRewriting(t, m, rewritingNamed("Cut"))
		for f := range m.Funcs {
			was, now := impl.DepthsOf(m, f), impl.DepthsOf(x.got, f)
			for n, at := range x.left[f] {
				if now[n] != was[at] || now[n] == -1 {
					t.Fatalf("program %d, function %d: heights %v, not %v at %v", i, f, now, was, x.left[f])
				}
			}
		}
		if again := impl.Cut(x.got); !sameModule(again, x.got) {
			t.Fatalf("program %d is cut again, to %v", i, again)
		}
		checkRewritings(t, x.got)
	}
}

// What nobody comes to can be anything: without it nothing of it is left.
func TestCutHangsNotOnWhatNobodyComesTo(t *testing.T) {
	for i, m := range rewritables(91, 100) {
		want := impl.Cut(m)
		for f := range m.Funcs {
			for at, depth := range depthsByLaw(m, f) {
				if depth == -1 {
					m.Funcs[f].Code[at] = []impl.Ins{nilIns, dropIns, jump(at), returnIns, ifTo(0)}[at%5]
				}
			}
		}
		if got := impl.Cut(m); !sameModule(got, want) {
			t.Fatalf("program %d: %v, not %v", i, got, want)
		}
	}
}
