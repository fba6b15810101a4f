package tests

import (
	"math/rand"
	"slices"
	"testing"

	"loop.example/g00094/impl"
)

// numbering is a program, an entry of its function 0, a plan, and the positions that are numbers at instructions; at
// all others there are none.
type numbering struct {
	name  string
	code  string
	entry int
	p     impl.Plan
	want  map[int][]int
}

func checkNumberings(t *testing.T, list []numbering) {
	t.Helper()
	for _, x := range list {
		m := mod(x.code)
		got := checkNumbers(t, asking{m, 0, x.entry, x.p})
		if len(got) != len(m.Funcs[0].Code) {
			t.Errorf("%s: of %d instructions", x.name, len(got))
			continue
		}
		for at, set := range got {
			if !slices.Equal(set, x.want[at]) {
				t.Errorf("%s: %v at %d, not %v", x.name, set, at, x.want[at])
			}
		}
	}
}

func TestNumbersWhereBlocksBegin(t *testing.T) {
	count := "func 1 2; int 0; store 1; load 1; load 0; less; ifnot 11; load 1; int 1; add; store 1; jump 2; load 1; return"
	both := planOn(spec(0, 4, 1, 0), spec(0, 8, 1, 0))
	checkNumberings(t, []numbering{
		{"a counter, a number on each way", count, 0, impl.Plan{}, map[int][]int{2: {1}, 6: {1}, 11: {1}}},
		{"with guesses", count, 0, both, map[int][]int{2: {1}, 6: {0, 1}, 11: {0, 1}}},
		{"with the sum guessed alone", count, 0, planOn(both.Specs[1]), map[int][]int{2: {1}, 6: {1}, 11: {1}}},
		{"none at the entry, whatever comes back", count, 2, both, map[int][]int{6: {0, 1}, 11: {0, 1}}},
		{"without guesses, from the loop", count, 2, impl.Plan{}, nil},
		{"with the sum guessed alone, from the loop", count, 2, planOn(both.Specs[1]), nil},
		{"a number on one way alone", "func 1 1; load 0; if 4; int 1; store 0; load 0; return", 0, impl.Plan{}, nil},
		{"a number on the way in alone", "func 1 2; int 1; store 1; load 1; print; load 0; store 1; load 0; if 2; nil; return", 0, impl.Plan{}, nil},
		{"a number on the way back alone", "func 1 2; load 1; print; int 1; store 1; load 0; if 0; load 0; if 8; load 1; return", 0, impl.Plan{}, map[int][]int{6: {1}, 8: {1}}},
		{"two numbers that are exchanged", "func 0 2; int 1; store 0; int 2; store 1; load 0; load 1; store 0; store 1; bool 1; if 4; nil; return", 0, impl.Plan{}, map[int][]int{4: {0, 1}, 10: {0, 1}}},
		{"a number and a value that are exchanged", "func 1 2; int 2; store 1; load 0; load 1; store 0; store 1; bool 1; if 2; nil; return", 0, impl.Plan{}, nil},
		{"three that go round, one of them a value", "func 1 4; int 2; store 1; int 3; store 2; int 4; store 3; load 0; load 1; load 2; store 0; store 2; store 1; bool 1; if 6; nil; return", 0, impl.Plan{}, map[int][]int{6: {3}, 14: {3}}},
		{"positions of the stack", "func 1 1; nil; int 0; int 1; add; dup; load 0; less; if 2; drop; return", 0, impl.Plan{}, map[int][]int{2: {2}, 8: {2}}},
		{"a constant on one way, a bare number on the other", "func 1 1; load 0; if 4; int 5; jump 7; int 1; int 2; add; return", 0, impl.Plan{}, map[int][]int{7: {1}}},
		{"constants that are none", `text "a"; func 1 5; text 0; store 1; nil; store 2; bool 1; store 3; fun 0; store 4; jump 9; load 1; return`, 0, impl.Plan{}, nil},
		{"an unmade record is none", "func 0 2; new 1; store 0; int 1; store 1; jump 5; load 0; return", 0, bareOn(), map[int][]int{5: {1}}},
		{"what was opened is one everywhere", "func 1 3; load 0; store 1; load 0; int 1; less; if 7; jump 7; load 1; return", 0, planOn(spec(0, 4, 1, 0)), map[int][]int{6: {0, 1}, 7: {0, 1}}},
		{"no block where nobody comes to from the entry", "func 1 2; int 1; store 1; jump 3; load 0; if 3; int 1; store 1; load 0; if 7; load 1; return", 7, impl.Plan{}, nil},
		{"the same from its beginning", "func 1 2; int 1; store 1; jump 3; load 0; if 3; int 1; store 1; load 0; if 7; load 1; return", 0, impl.Plan{}, map[int][]int{3: {1}, 5: {1}, 7: {1}, 9: {1}}},
		{"no block at all but the entry's", "func 1 1; load 0; int 1; add; return", 0, impl.Plan{}, nil},
		{"a leader to which no code leads", "func 1 2; load 0; invoke 0; store 1; jump 4; load 1; return", 0, impl.Plan{}, nil},
		{"a number that would be called, so that no way leads back", "func 0 1; int 1; store 0; load 0; call 0; store 0; jump 2; func 0 0; nil; return", 0, layOn(1, spec(0, 3, 2, 1)), map[int][]int{2: {0}}},
		{"a value that is called, so that a way leads back", "func 0 1; fun 1; store 0; load 0; call 0; store 0; jump 2; func 0 0; int 1; return", 0, layOn(1, spec(0, 3, 2, 1)), nil},
	})
}

// holdsWith tells whether sets are just those positions that are numbers on each way on, at the entry none; where no
// block begins there is nothing. It gives the blocks, too.
func (w *drafting) holdsWith(sets assignment) ([]int, bool) {
	w.numbers = sets
	blocks, found := w.comesTo()
	for at, set := range sets {
		begins := slices.Contains(blocks, at)
		if begins && !slices.Equal(set, found[at]) || !begins && slices.Contains(set, true) {
			return nil, false
		}
	}
	return blocks, true
}

// toldSets are the sets that NumbersOf tells.
func (w *drafting) toldSets(told [][]int) assignment {
	out := w.allNumbers()
	for at, set := range out {
		for p := range set {
			set[p] = slices.Contains(told[at], p)
		}
	}
	return out
}

// eachAssignment goes through all sets of a function, the entry's being empty.
func (w *drafting) eachAssignment(do func(sets assignment)) {
	var bits [][2]int
	sizes := w.allNumbers()
	for at, set := range sizes {
		for p := range set {
			if at != w.entry {
				bits = append(bits, [2]int{at, p})
			}
		}
	}
	for n := range 1 << len(bits) {
		sets := assignment{}
		for at, set := range sizes {
			sets[at] = make([]bool, len(set))
		}
		for i, bit := range bits {
			sets[bit[0]][bit[1]] = n>>i&1 == 1
		}
		do(sets)
	}
}

// checkGreatest goes through all sets that there could be, and asks that what is told holds, and that no other sets do
// that have something at one of its blocks which it has not. It gives how many hold, and in how many of these other
// blocks are come to.
func checkGreatest(t *testing.T, a asking) (int, int) {
	t.Helper()
	w := draftingOf(a)
	told, holding, other := checkNumbers(t, a), 0, 0
	blocks, ok := w.holdsWith(w.toldSets(told))
	if !ok {
		t.Fatalf("%+v: %v does not hold", a, told)
	}
	w.eachAssignment(func(sets assignment) {
		come, holds := w.holdsWith(sets)
		if !holds {
			return
		}
		holding++
		if !slices.Equal(come, blocks) {
			other++
		}
		for _, at := range blocks {
			for p, is := range sets[at] {
				if is && !slices.Contains(told[at], p) {
					t.Fatalf("%+v: %v, not %v, which has more", a, told, sets)
				}
			}
		}
	})
	return holding, other
}

// smallLoops are drawn: functions of few positions and blocks, so that all sets can be gone through. Some of what they
// do leaves where it is guessed, or where it is not.
func smallLoops(r *rand.Rand) impl.Module {
	for {
		fn := impl.Func{Params: 1, Locals: 1 + r.Intn(3)}
		local := func(op int) impl.Ins { return ins(op, r.Intn(fn.Locals)) }
		if r.Intn(2) == 0 {
			// A number that is called leaves: with a value in its place there are more blocks.
			fn.Code = append(fn.Code, ins(impl.OpInt, 1), ins(impl.OpStore, 0), ins(impl.OpLoad, 0), call(0), local(impl.OpStore))
		}
		for range 3 + r.Intn(4) {
			fn.Code = append(fn.Code, [][]impl.Ins{
				{ins(impl.OpInt, 1), local(impl.OpStore)},
				{local(impl.OpLoad), local(impl.OpStore)},
				{local(impl.OpLoad), local(impl.OpLoad), local(impl.OpStore), local(impl.OpStore)},
				{local(impl.OpLoad), local(impl.OpLoad), ins(impl.OpAdd, 0), local(impl.OpStore)},
				{ins(impl.OpBool, 1), ifTo(0)}, {ins(impl.OpBool, 1), ifNot(0)}, {jump(0)},
				{nilIns, local(impl.OpLoad), ins(impl.OpAdd, 0), local(impl.OpStore)},
				{local(impl.OpLoad), call(0), local(impl.OpStore)},
			}[r.Intn(9)]...)
		}
		fn.Code = append(fn.Code, ins(impl.OpLoad, 0), returnIns)
		for at, x := range fn.Code {
			if within(x.Op, impl.OpJump, impl.OpIfNot) {
				fn.Code[at].A = r.Intn(len(fn.Code) - 1)
			}
		}
		laid := impl.Func{Code: []impl.Ins{[]impl.Ins{nilIns, ins(impl.OpInt, 1)}[r.Intn(2)], returnIns}}
		if m := (impl.Module{Funcs: []impl.Func{fn, laid}}); impl.Verify(m).Code == impl.OK {
			return m
		}
	}
}

func TestTheGreatestNumbers(t *testing.T) {
	r := rand.New(rand.NewSource(61))
	several, others, tried := 0, 0, map[int]int{}
	for range 8000 {
		m := smallLoops(r)
		p := []func(*rand.Rand, impl.Module) impl.Plan{randomPlan, boldPlan}[r.Intn(2)](r, m)
		for _, entry := range impl.EntriesOf(m, 0) {
			a := asking{m, 0, entry, p}
			room := 0
			for at, set := range draftingOf(a).allNumbers() {
				if at != entry {
					room += len(set)
				}
			}
			if room > 10 {
				continue
			}
			holding, other := checkGreatest(t, a)
			several += min(holding-1, 1)
			others += min(other, 1)
			w := draftingOf(a)
			w.solve()
			tried[len(w.blocks)]++
		}
	}
	if several < 30 || others < 20 || tried[1] < 30 || tried[2] < 30 || tried[3] < 30 || tried[4] < 10 {
		t.Errorf("%d with more than one answer, %d of them with other blocks, of %v blocks: they try too little", several, others, tried)
	}
}
