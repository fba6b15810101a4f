package tests

import (
	"math"
	"slices"
	"testing"

	"loop.example/g00094/impl"
)

// oddNumbers are neither functions nor instructions of any module.
func oddNumbers() []int {
	return []int{-1, -2, impl.MaxCode, impl.MaxCode + 1, 1 << 32, math.MinInt, math.MaxInt, math.MinInt + 1, math.MaxInt - 1}
}

// opsByPlace are the Ops of code by the document's words, by function and instruction.
func opsByPlace(c impl.Fast) map[[2]int][]int {
	out := map[[2]int][]int{}
	for _, x := range c.Ops {
		out[[2]int{x.F, x.P}] = append(out[[2]int{x.F, x.P}], x.Op)
	}
	return out
}

// opsAtAll is what OpsAt tells of each instruction of each function.
func opsAtAll(m impl.Module, c impl.Fast) map[[2]int][]int {
	out := map[[2]int][]int{}
	for f, fn := range m.Funcs {
		for pc := range fn.Code {
			out[[2]int{f, pc}] = impl.OpsAt(m, c, f, pc)
		}
	}
	return out
}

// checkCount holds OpsAt and CountOps of anything against the law, and asks promise 15 of code that is ok.
func checkCount(t *testing.T, m impl.Module, c impl.Fast) {
	t.Helper()
	if !fastOkByLaw(m, c) {
		checkNotCounted(t, m, c)
		return
	}
	told, want := opsAtAll(m, c), opsByPlace(c)
	for at, list := range told {
		if !slices.Equal(list, want[at]) {
			t.Fatalf("%v: OpsAt %v: %v, not %v, of\n%s", m, at, list, want[at], fastTextByLaw(c))
		}
	}
	for _, odd := range oddNumbers() {
		for _, at := range [][2]int{{odd, c.Ops[0].P}, {c.Ops[0].F, odd}, {odd, odd}} {
			checkNoOps(t, m, c, at)
		}
	}
	checkNoOps(t, m, c, [2]int{len(m.Funcs), c.Ops[0].P})
	checkNoOps(t, m, c, [2]int{c.Ops[0].F, len(m.Funcs[c.Ops[0].F].Code)})
	counts := countsOf(c)
	if got := impl.CountOps(m, c); !slices.Equal(got, counts[:]) {
		t.Fatalf("%v: CountOps: %v, not %v, of\n%s", m, got, counts, fastTextByLaw(c))
	}
	checkPromise15(t, m, c, told)
}

// checkNotCounted asks that there is nothing.
func checkNotCounted(t *testing.T, m impl.Module, c impl.Fast) {
	t.Helper()
	if got := impl.CountOps(m, c); len(got) != 0 {
		t.Fatalf("CountOps of %v, %+v: %v", m, c, got)
	}
	checkNoOps(t, m, c, [2]int{c.Func, c.Entry})
	for at := range opsByPlace(c) {
		checkNoOps(t, m, c, at)
	}
}

func checkNoOps(t *testing.T, m impl.Module, c impl.Fast, at [2]int) {
	t.Helper()
	if got := impl.OpsAt(m, c, at[0], at[1]); len(got) != 0 {
		t.Fatalf("OpsAt %v of %v, %+v: %v", at, m, c, got)
	}
}

// checkPromise15 goes through the ops: each is the next one that is told of its instruction, and then nothing is left.
// It asks the same of the counts.
func checkPromise15(t *testing.T, m impl.Module, c impl.Fast, told map[[2]int][]int) {
	t.Helper()
	counts, all := impl.CountOps(m, c), 0
	if len(counts) != 30 || counts[0] != 0 {
		t.Fatalf("%v: CountOps: %v", m, counts)
	}
	for _, n := range counts {
		all += n
	}
	if all != len(c.Ops) {
		t.Fatalf("%v: CountOps: %v of %d ops", m, counts, len(c.Ops))
	}
	for number, x := range c.Ops {
		at := [2]int{x.F, x.P}
		if len(told[at]) == 0 || told[at][0] != x.Op {
			t.Fatalf("%v: op %d is not told of %v in its turn, of\n%s", m, number, at, fastTextByLaw(c))
		}
		told[at] = told[at][1:]
		counts[x.Op]--
	}
	for at, list := range told {
		if len(list) > 0 {
			t.Fatalf("%v: %v of %v are told of no op, of\n%s", m, list, at, fastTextByLaw(c))
		}
	}
	if slices.ContainsFunc(counts, func(n int) bool { return n != 0 }) {
		t.Fatalf("%v: %v are counted of no op, of\n%s", m, counts, fastTextByLaw(c))
	}
}
