package tests

import (
	"fmt"
	"math"
	"slices"
	"testing"

	"loop.example/g00094/impl"
)

// snapshots are the lists of states, or of code, that are changed here: each with the module in which it is read.
type snapshots struct {
	m    impl.Module
	list []int
}

// changedNumbers are what a number in a list is changed to: one more, one less, the ends, what would be the same in
// fewer bits, and small numbers, which are often a count or a Kind.
func changedNumbers(was int) []int {
	return []int{was + 1, was - 1, math.MinInt, math.MaxInt, was + 1<<8, was + 1<<32, was + math.MinInt, ^was, -was, 0, 1, 2, 3}
}

// checkLists asks of lists that are read what becomes of them when they are changed, and tells how often they are
// read then.
func (k snapshotKind[T]) checkLists(t *testing.T, all []snapshots) int {
	t.Helper()
	read := 0
	for _, x := range all {
		if !k.checkList(t, x.m, x.list) {
			t.Errorf("%v is not read", x.list)
		}
		k.checkCuts(t, x)
		for i, was := range x.list {
			list := slices.Clone(x.list)
			for _, list[i] = range changedNumbers(was) {
				if list[i] != was && k.checkList(t, x.m, list) {
					read++
				}
			}
		}
	}
	return read
}

// checkCuts has a list cut short at each place, at its end and at its beginning, with a number more, and with one fewer.
// What was cut off at the end lies behind the length still.
func (k snapshotKind[T]) checkCuts(t *testing.T, x snapshots) {
	t.Helper()
	for n := range x.list {
		k.mustNotBeRead(t, fmt.Sprint("cut at ", n), x.m, x.list[:n])
		k.mustNotBeRead(t, fmt.Sprint("cut at ", n, " without room"), x.m, slices.Clone(x.list[:n]))
		if n > 0 {
			k.checkList(t, x.m, x.list[n:])
		}
		k.checkList(t, x.m, slices.Delete(slices.Clone(x.list), n, n+1))
		for _, more := range []int{0, 1, -1, x.list[n]} {
			k.checkList(t, x.m, slices.Insert(slices.Clone(x.list), n, more))
		}
	}
	for _, more := range [][]int{{0}, {1}, {-1}, {math.MinInt}, {math.MaxInt}, {0, 0}, {0, 0, 0}, x.list} {
		k.mustNotBeRead(t, fmt.Sprint("with ", more, " at its end"), x.m, slices.Concat(x.list, more))
	}
	k.mustNotBeRead(t, "with numbers ahead", x.m, slices.Concat([]int{0}, x.list))
}

// statesWritten are the lists of some states.
func statesWritten() []snapshots {
	m, small := stateModule(), one(nilIns, returnIns)
	return []snapshots{
		{m, vmTold(fullState())}, {m, vmTold(trappedState())}, {m, vmTold(doneState())}, {small, vmTold(at(0, nil, nil, 0))},
		{small, vmTold(impl.Vm{Status: impl.StDone})}, {small, vmTold(impl.Vm{Out: []string{"", "ab"}, Status: impl.StDone, Value: text("c")})},
		{alikeModule(), vmTold(rich())}, {alikeModule(), vmTold(richTrapped())}, {alikeModule(), vmTold(richDone())},
	}
}

// codesWritten are the lists of some code.
func codesWritten() []snapshots {
	m := codeModule()
	out := []snapshots{
		{m, fastTold(onFullExits(fullCode().Ops[26:28]...))}, {m, fastTold(retCode(0, 1, 4, 0))}, {m, fastTold(guardCode(guards()[1], guards()[3]))},
		{m, fastTold(exitOf(impl.ExCall, constSrc(text("ab"))))}, {m, fastTold(constCode(impl.FConst, text("ab")))},
	}
	for _, x := range someHandmade() {
		out = append(out, snapshots{x.m, fastTold(x.c)})
	}
	return out
}

func TestChangedListsOfStates(t *testing.T) {
	if read := vms().checkLists(t, statesWritten()); read < 500 {
		t.Errorf("%d changed lists are read: they try too little", read)
	}
}

func TestChangedListsOfCode(t *testing.T) {
	if read := codes().checkLists(t, codesWritten()); read < 500 {
		t.Errorf("%d changed lists are read: they try too little", read)
	}
}

func TestNoNumbers(t *testing.T) {
	for _, m := range []impl.Module{{}, one(nilIns, returnIns), stateModule(), codeModule()} {
		for _, list := range [][]int{nil, {}, make([]int, 0, 100), make([]int, 0)} {
			vms().mustNotBeRead(t, "no number", m, list)
			codes().mustNotBeRead(t, "no number", m, list)
		}
		for _, n := range []int{0, 1, -1, 2, 27, 100, math.MinInt, math.MaxInt} {
			vms().mustNotBeRead(t, "one number", m, []int{n})
			codes().mustNotBeRead(t, "one number", m, []int{n})
		}
	}
}

// The same lists in other modules, good ones and such as are not.
func TestListsInOtherModules(t *testing.T) {
	modules := []impl.Module{{}, stateModule(), codeModule(), alikeModule(), several(), sample(), countModule(), one(nilIns, returnIns)}
	for _, m := range notGood() {
		modules = append(modules, m)
	}
	for _, x := range statesWritten() {
		for _, m := range modules {
			if vms().checkList(t, m, x.list) && !goodByLaw(m) {
				t.Errorf("%v: %v is read", m, x.list)
			}
			codes().mustNotBeRead(t, "a state as code", m, x.list)
		}
	}
	for _, x := range codesWritten() {
		for _, m := range modules {
			if codes().checkList(t, m, x.list) && !goodByLaw(m) {
				t.Errorf("%v: %v is read", m, x.list)
			}
			vms().mustNotBeRead(t, "code as a state", m, x.list)
		}
	}
}

// countsThatCannotBe are counts that a list with so many numbers left cannot have, or has just so.
func countsThatCannotBe(left int) []int {
	return []int{-1, -2, -left, left, left + 1, left - 1, 2*left + 1, 1 << 31, 1 << 32, 1 << 40, 1 << 61, 1 << 62, math.MaxInt - 1, math.MaxInt, math.MinInt, math.MinInt + 1}
}

// A count at each place of a list, of which most are one, with all numbers that stood behind it, with noughts in their
// place, and with none.
func TestSnapshotsWithCountsThatCannotBe(t *testing.T) {
	ask := func(k func(m impl.Module, list []int) bool, all []snapshots) {
		for _, x := range all {
			for i := range x.list {
				for _, n := range countsThatCannotBe(len(x.list) - i - 1) {
					list := slices.Clone(x.list)
					list[i] = n
					k(x.m, list)
					k(x.m, list[:i+1])
					clear(list[i+1:])
					k(x.m, list)
				}
			}
		}
	}
	ask(func(m impl.Module, list []int) bool { return vms().checkList(t, m, list) }, statesWritten())
	ask(func(m impl.Module, list []int) bool { return codes().checkList(t, m, list) }, codesWritten())
}

// The counts that are told wrong by so much that they would be right in fewer bits, or below 0.
func TestSnapshotsWithCountsRightInFewerBits(t *testing.T) {
	for _, off := range []int{1 << 8, 1 << 16, 1 << 31, 1 << 32, 1 << 62, math.MinInt} {
		for place, n := range map[int]int{0: 3, 3: 2, 10: 2} {
			list := append(fullHead(), 0, 0, 0, 0, 0, 9)
			if list[place] != n {
				t.Fatalf("%d stands at %d of %v", list[place], place, list)
			}
			list[place] += off
			vms().mustNotBeRead(t, fmt.Sprint("a count of ", n, " and ", off), stateModule(), list)
		}
		for place, n := range map[int]int{4: 29, 24: 2} {
			list := fastTold(fullCode())
			if list[place] != n {
				t.Fatalf("%d stands at %d of %v", list[place], place, list)
			}
			list[place] += off
			codes().mustNotBeRead(t, fmt.Sprint("a count of ", n, " and ", off), codeModule(), list)
		}
	}
}

// All lists of noughts and ones of up to so many numbers, of which the ten numbers of what is done at once are one.
func TestAllShortLists(t *testing.T) {
	k, m := vms(), one(nilIns, returnIns)
	read := 0
	for n := range 15 {
		list := make([]int, n)
		for bits := range 1 << n {
			for i := range list {
				list[i] = bits >> i & 1
			}
			if k.checkList(t, m, list) {
				read++
			}
		}
	}
	if read < 10 {
		t.Errorf("%d lists are read: they try too little", read)
	}
}

// Every two numbers of short lists, changed together.
func TestTwoChangedNumbers(t *testing.T) {
	m := one(nilIns, returnIns)
	to := []int{-1, 0, 1, 2, 26, 27, math.MaxInt}
	pairs := func(was []int, ask func(list []int)) {
		for i := range was {
			for n := range i {
				list := slices.Clone(was)
				for _, list[i] = range to {
					for _, list[n] = range to {
						ask(list)
					}
				}
			}
		}
	}
	pairs(vmTold(at(0, nil, nil, 0)), func(list []int) { vms().checkList(t, m, list) })
	pairs(vmTold(impl.Vm{Status: impl.StDone}), func(list []int) { vms().checkList(t, m, list) })
	pairs(fastTold(retCode(0, 0, 1, 0)), func(list []int) { codes().checkList(t, m, list) })
	pairs(fastTold(impl.Fast{Ops: []impl.FOp{{Op: impl.FExit}}, Exits: []impl.Exit{{Kind: impl.ExPause, Frames: exFrames(exFrame(0, 0, nil, nil))}}}),
		func(list []int) { codes().checkList(t, m, list) })
}
