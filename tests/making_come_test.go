package tests

import (
	"fmt"
	"slices"
	"strings"
	"testing"

	"loop.example/g00094/impl"
)

// labelled reads a module in which "x: " ahead of an instruction names it, and "@x" stands for its number. It gives the
// numbers of the names, too.
func labelled(code string) (impl.Module, map[string]int) {
	names, parts, at := map[string]int{}, strings.Split(code, ";"), 0
	for i, part := range parts {
		part = strings.TrimSpace(part)
		for name, rest, ok := strings.Cut(part, ": "); ok; name, rest, ok = strings.Cut(part, ": ") {
			names[name], part = at, rest
		}
		parts[i] = part
		if at++; strings.HasPrefix(part, "func ") || strings.HasPrefix(part, `text "`) {
			at = 0
		}
	}
	code = strings.Join(parts, "; ")
	for name, at := range names {
		code = strings.ReplaceAll(code, "@"+name, fmt.Sprint(at))
	}
	return mod(code), names
}

// left is code that leaves by an exit, with the guess at its instruction q, if it has one.
type left struct {
	name string
	code string
	kind int
	p    impl.Plan
}

// lefts are all codes that leave. Local 0 is a value, local 3 a bare number.
func lefts() []left {
	number, function := impl.SpInt, impl.SpFun
	return []left{
		{"a call of nil", "nil; q: call 0; drop", 0, impl.Plan{}},
		{"a call of nil, guessed", "nil; q: call 0; drop", function, layOn(3)},
		{"a call of a value", "load 0; q: call 0; drop", 0, layOn(3)},
		{"a call of a value that is guessed, and not laid in", "load 0; q: call 0; drop", function, layOn(0)},
		{"a call of a number, guessed", "load 3; q: call 0; drop", function, layOn(3)},
		{"a call of a function with other Params", "fun 1; load 0; q: call 1; drop", 0, layOn(3)},
		{"a call of an unmade record, guessed", "new 1; q: call 0; drop", function, impl.Plan{Lay: 3, Bare: true}},
		{"a function that is not laid in", "q: invoke 1; drop", 0, layOn(0)},
		{"a known function that is not laid in", "fun 1; q: call 0; drop", 0, layOn(0)},
		{"a function that is not straight", "q: invoke 2; drop", 0, layOn(3)},
		{"a function that is laid in, and calls one that is not", "q: invoke 3; drop", 0, layOn(1)},
		{"numbers guessed of nil", "nil; load 0; q: add; drop", number, impl.Plan{}},
		{"numbers guessed of a text", "load 0; text 0; q: sub; drop", number, impl.Plan{}},
		{"numbers guessed of a truth", "load 0; bool 1; q: mul; drop", number, impl.Plan{}},
		{"numbers guessed of a function", "fun 1; load 0; q: less; drop", number, impl.Plan{}},
		{"numbers guessed of an unmade record", "new 1; load 0; q: add; drop", number, bareOn()},
		{"a field that an unmade record has not", "new 1; q: get 1; drop", 0, bareOn()},
		{"a field that it has not that is written", "new 1; nil; q: put 1", 0, bareOn()},
		{"a field that it has not, in a function that is laid in", "q: invoke 4; drop", 0, impl.Plan{Lay: 1, Bare: true}},
	}
}

// ask gives a program with this code in place of "LEFT", and with the guess at its instruction.
func (x left) ask(code string) (asking, map[string]int) {
	m, names := labelled(`text "a"; ` + strings.ReplaceAll(code, "LEFT", x.code) +
		"; func 0 0; nil; return; func 0 0; bool 1; if 2; nil; return; func 0 0; invoke 1; return; func 0 0; new 0; get 0; return")
	p := x.p
	if x.kind != 0 {
		p.Specs = specs(spec(0, names["q"], x.kind, x.kind-1))
	}
	return asking{m, 0, 0, p}, names
}

// checkStarts asks that blocks begin just at these instructions, and that these positions are numbers there.
func checkStarts(t *testing.T, name string, a asking, want map[int][]int) {
	t.Helper()
	c, ok := checkMake(t, a)
	if !ok {
		t.Errorf("%s: nothing is made", name)
		return
	}
	starts := []int{a.entry}
	for _, at := range startsIn(c) {
		if !slices.Contains(starts, at) {
			starts = append(starts, at)
		}
	}
	if len(blocksIn(c)) != len(want) || len(starts) != len(want) {
		t.Errorf("%s: blocks at %v, not at those of %v:\n%s", name, starts, want, impl.FastText(a.m, c))
	}
	for _, at := range starts {
		if _, ok := want[at]; !ok {
			t.Errorf("%s: a block at %d, not at those of %v:\n%s", name, at, want, impl.FastText(a.m, c))
		}
	}
	for at, set := range checkNumbers(t, a) {
		if !slices.Equal(set, want[at]) {
			t.Errorf("%s: numbers %v at %d, not %v", name, set, at, want[at])
		}
	}
}

// Behind code that leaves there is no block, but where another way leads to.
func TestNoBlocksBehindWhatLeaves(t *testing.T) {
	for _, x := range lefts() {
		// Nothing is a leader ahead of it: the entry's block is the only one.
		a, _ := x.ask("func 1 4; int 1; store 3; LEFT; a: load 0; if @b; jump @a; b: load 0; return")
		checkStarts(t, x.name, a, map[int][]int{0: nil})
		// A way around it leads to a, with numbers that would be none on the way through it; none leads to c and d.
		a, at := x.ask("func 1 4; int 1; store 3; int 2; store 1; load 0; if @a; u: nil; store 1; LEFT; load 0; if @d; c: nil; store 3; jump @a; d: nil; store 0; a: load 1; return")
		checkStarts(t, x.name+", and a way around it", a, map[int][]int{0: nil, at["u"]: {1, 3}, at["a"]: {1, 3}})
		// It stands in a loop, so that nothing comes back to where that begins, and nothing behind the loop is come to.
		a, at = x.ask("func 1 4; int 1; store 3; int 2; store 1; h: LEFT; load 0; store 1; load 0; if @h; b: nil; return")
		checkStarts(t, x.name+", in a loop", a, map[int][]int{0: nil, at["h"]: {1, 3}})
		// Entered in the loop it is the same with the entry's block alone; local 3 is a number still.
		a, at = x.ask("func 1 4; h: int 1; int 2; add; store 3; LEFT; load 0; if @h; b: nil; return")
		a.entry = at["h"]
		checkStarts(t, x.name+", entered in a loop", a, map[int][]int{at["h"]: nil})
	}
}

// What is known where a block begins tells whether a way leads on from it.
func TestBlocksThatHangOnNumbers(t *testing.T) {
	of := func(code string) (asking, map[string]int) {
		m, at := labelled(code + "; func 0 0; nil; return")
		return asking{m, 0, 0, layOn(1, spec(0, at["q"], impl.SpFun, 1))}, at
	}
	a, at := of("func 0 2; int 1; store 0; int 1; store 1; h: load 0; q: call 0; store 0; load 1; if @h; b: jump @e; e: load 1; return")
	checkStarts(t, "a number that would be called", a, map[int][]int{0: nil, at["h"]: {0, 1}})
	a, at = of("func 0 2; fun 1; store 0; int 1; store 1; h: load 0; q: call 0; store 0; load 1; if @h; b: jump @e; e: load 1; return")
	checkStarts(t, "a value that is called", a, map[int][]int{0: nil, at["h"]: {1}, at["b"]: {1}, at["e"]: {1}})
	a, at = of("func 1 2; int 1; store 1; load 0; if @c; u: load 0; store 1; c: load 1; q: call 0; store 1; load 0; if @e; b: int 1; store 1; e: load 1; return")
	checkStarts(t, "a number on one of two ways alone, that is called", a, map[int][]int{0: nil, at["u"]: {1}, at["c"]: nil, at["b"]: nil, at["e"]: nil})
	a, at = of("func 1 3; int 1; store 1; int 1; store 2; h: load 1; q: call 0; store 1; load 0; if @h; b: jump @e; e: load 2; return")
	a.entry = at["h"]
	checkStarts(t, "a number that would be called, entered in its loop", a, map[int][]int{at["h"]: nil, at["b"]: nil, at["e"]: nil})
}

// A block with more than MaxOps ops ahead of a leader leads on to it no more than one with so many ahead of another
// instruction. (Nothing is made of blocks that are so long.)
func TestNumbersBehindABlockThatIsTooLong(t *testing.T) {
	for n, led := range map[int]bool{10: true, 1498: true, 1499: true, 1500: true, 1501: false, 1502: false, 1520: false, 2000: false} {
		for name, last := range map[string]string{
			"a jump":                     "jump @to; to: load 0; return",
			"an if":                      "load 0; if @to; to: load 0; return",
			"an ifnot":                   "bool 1; ifnot @to; to: load 0; return",
			"a leader":                   "to: load 0; if @to; load 0; return",
			"a leader behind what moves": "load 0; drop; to: load 0; if @to; load 0; return",
			"a leader that is jumped to": "to: bool 1; ifnot @e; jump @to; e: nil; return",
		} {
			checkLong(t, fmt.Sprint(n, " ops ahead of ", name), "func 1 2; int 1; store 1; "+opsCode(n)+last, led)
			checkLong(t, fmt.Sprint(n, " ops ahead of ", name, ", in the second block"), "func 1 2; int 1; store 1; jump @on; on: "+opsCode(n)+last, led)
		}
		// The FSafe of a loop is one of its ops.
		loop := "func 1 2; int 1; store 1; h: load 0; drop; " + opsCode(n-1) + "to: load 0; if @to; load 0; if @h; load 0; return"
		checkLong(t, fmt.Sprint(n, " ops with an FSafe"), loop, led)
	}
}

// checkLong asks whether local 1 is a number at the instruction to, which is so if a way leads on to it, and nothing
// anywhere behind it otherwise.
func checkLong(t *testing.T, name string, code string, led bool) {
	t.Helper()
	m, at := labelled(code + opsFuncs())
	a := asking{m, 0, 0, layOn(2)}
	got := checkNumbers(t, a)
	if slices.Contains(got[at["to"]], 1) != led {
		t.Errorf("%s: %v", name, got[at["to"]])
	}
	for pc := at["to"]; pc < len(got); pc++ {
		if !led && len(got[pc]) > 0 {
			t.Errorf("%s: %v at %d, where no block begins", name, got[pc], pc)
		}
	}
	checkMake(t, a)
}

// turning has a block at long: ahead of the leader to it has so many ops if local 1 is a number at long, and one more if
// it is not.
func turning(ops int, ahead string, behind string) (asking, map[string]int) {
	m, at := labelled(ahead + "long: load 1; int 1; q: add; drop; " + opsCode(ops-2) + "nil; store 2; to: " + behind + opsFuncs())
	return asking{m, 0, 0, layOn(2, spec(0, at["q"], impl.SpInt, 0))}, at
}

// A block that is not too long as long as a position is taken for a number has no ways on where it is none, and takes
// nothing away then from the block to which it would lead.
func TestBlocksThatAreTooLongWithoutANumber(t *testing.T) {
	ends := "load 0; if @e; e: load 0; return"
	a, at := turning(impl.MaxOps, "func 1 3; int 1; store 2; int 1; store 1; load 0; if @to; u: jump @long; ", ends)
	got := checkNumbers(t, a)
	if !slices.Equal(got[at["long"]], []int{1, 2}) || !slices.Equal(got[at["to"]], []int{1}) || !slices.Equal(got[at["e"]], []int{1}) {
		t.Errorf("with a number: %v", got)
	}
	a, at = turning(impl.MaxOps, "func 1 3; int 1; store 2; int 1; store 1; load 0; if @to; u: load 0; if @long; v: load 0; store 1; ", ends)
	got = checkNumbers(t, a)
	if !slices.Equal(got[at["v"]], []int{1, 2}) || !slices.Equal(got[at["long"]], []int{2}) || !slices.Equal(got[at["to"]], []int{1, 2}) || !slices.Equal(got[at["e"]], []int{1, 2}) {
		t.Errorf("without one: %v", got)
	}
	a, at = turning(impl.MaxOps, "func 1 3; int 1; store 2; int 1; store 1; load 0; if @long; v: load 0; store 1; ", ends)
	got = checkNumbers(t, a)
	if !slices.Equal(got[at["long"]], []int{2}) || len(got[at["to"]]) != 0 || len(got[at["e"]]) != 0 {
		t.Errorf("without one, and without another way: %v", got)
	}
}

// The way back takes away the number without which there is no way back: no sets hold, and what is told of the block is
// what each way brings that there was.
func TestABlockThatIsTooLongByItsOwnWay(t *testing.T) {
	// One op is the FSafe.
	a, at := turning(impl.MaxOps-1, "func 1 3; int 1; store 2; int 1; store 1; jump @long; ", "load 0; store 1; load 0; if @long; e: load 0; return")
	got := a.numbers()
	if slices.Contains(got[at["long"]], 1) || len(got[at["to"]]) != 0 || len(got[at["e"]]) != 0 {
		t.Errorf("numbers %v", got)
	}
	if _, ok := a.make(); ok {
		t.Error("a block that is too long is made")
	}
}
