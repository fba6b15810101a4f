package tests

import (
	"fmt"
	"math"
	"slices"
	"testing"

	"loop.example/g00094/impl"
)

// leavingChange is what is done to what Rebuild is asked.
type leavingChange struct {
	name string
	do   func(l *leaving)
}

// fullLeaving leaves fullCode by its exit of four frames, from a heap of three records, and builds two more.
func fullLeaving() leaving {
	values, numbers := inRegisters(oldHeap(3))
	return leaving{codeModule(), fullCode(), 2, values, numbers, oldHeap(3)}
}

// bareLeaving leaves it by an exit of one frame, from the same heap, and builds none.
func bareLeaving() leaving {
	l := fullLeaving()
	l.x = 0
	return l
}

// checkLeavings asks of each change by itself whether anything is built with it, and whether nothing is, twice.
func checkLeavings(t *testing.T, base func() leaving, list []leavingChange, want bool) {
	t.Helper()
	for _, x := range list {
		l := base()
		x.do(&l)
		if got := checkRebuild(t, l); got != want {
			t.Errorf("%s: built %v of %+v", x.name, got, l)
		}
	}
}

// leavingBases are the ones that build records, and that build none.
func leavingBases() []func() leaving { return []func() leaving{fullLeaving, bareLeaving} }

func TestHowManyRegistersAreHandedIn(t *testing.T) {
	for _, base := range leavingBases() {
		checkLeavings(t, base, []leavingChange{
			{"just as many", func(l *leaving) {}},
			{"one more of each, and code that has them", func(l *leaving) {
				l.c.Vals, l.c.Nums, l.vals, l.nums = 10, 6, append(l.vals, num(1)), append(l.nums, 1)
			}},
		}, true)
		checkLeavings(t, base, []leavingChange{
			{"a value fewer", func(l *leaving) { l.vals = l.vals[:8] }},
			{"a value more", func(l *leaving) { l.vals = append(l.vals, num(1)) }},
			{"a nil more", func(l *leaving) { l.vals = append(l.vals, impl.Value{}) }},
			{"no value", func(l *leaving) { l.vals = nil }},
			{"far more values", func(l *leaving) { l.vals = make([]impl.Value, 5000) }},
			{"a number fewer", func(l *leaving) { l.nums = l.nums[:4] }},
			{"a number more", func(l *leaving) { l.nums = append(l.nums, 1) }},
			{"a nought more", func(l *leaving) { l.nums = append(l.nums, 0) }},
			{"no number", func(l *leaving) { l.nums = nil }},
			{"far more numbers", func(l *leaving) { l.nums = make([]int, 5000) }},
			{"the one for the other", func(l *leaving) { l.vals, l.nums = make([]impl.Value, 5), make([]int, 9) }},
			{"a value fewer and a number more", func(l *leaving) { l.vals, l.nums = l.vals[:8], append(l.nums, 1) }},
		}, false)
	}
	// Code without registers, and code with as many as there can be.
	for _, n := range []int{0, 400} {
		base := func() leaving {
			e := impl.Exit{Kind: impl.ExTrap, Frames: exFrames(exFrame(0, 0, nil, nil))}
			c := impl.Fast{Vals: n, Nums: n, Ops: []impl.FOp{{Op: impl.FExit}}, Exits: []impl.Exit{e}}
			return leaving{one(nilIns, returnIns), c, 0, make([]impl.Value, n), make([]int, n), nil}
		}
		checkLeavings(t, base, []leavingChange{{"just as many", func(l *leaving) {}}}, true)
		checkLeavings(t, base, []leavingChange{
			{"a value more", func(l *leaving) { l.vals = append(l.vals, num(1)) }},
			{"a number more", func(l *leaving) { l.nums = append(l.nums, 1) }},
		}, false)
	}
	none := leaving{one(nilIns, returnIns), impl.Fast{Ops: []impl.FOp{{Op: impl.FExit}}, Exits: []impl.Exit{{Kind: 4, Frames: exFrames(exFrame(0, 0, nil, nil))}}}, 0, nil, nil, nil}
	if got := none.rebuild(); len(got.Frames) != 1 || len(got.Heap) != 0 {
		t.Errorf("nothing but a frame: %+v", got)
	}
}

// Numbers are asked in each register, whether the exit names it or not.
func TestNumbersThatAreHandedIn(t *testing.T) {
	for _, base := range leavingBases() {
		for at := range 5 {
			set := func(n int) []leavingChange {
				return []leavingChange{{fmt.Sprintf("number %d is %d", at, n), func(l *leaving) { l.nums[at] = n }}}
			}
			for _, n := range []int{0, 1, -1, 1000000000, -1000000000, 999999999, -999999999} {
				checkLeavings(t, base, set(n), true)
			}
			for _, n := range []int{1000000001, -1000000001, math.MaxInt, math.MinInt, 1 << 32} {
				checkLeavings(t, base, set(n), false)
			}
		}
	}
}

// Values are asked in each register and in each field, whether anybody names them or not.
func TestValuesThatAreHandedIn(t *testing.T) {
	places := map[string]func(l *leaving) *impl.Value{
		"a field of the first record":  func(l *leaving) *impl.Value { return &l.heap[0].Fields[0] },
		"a field of a middle record":   func(l *leaving) *impl.Value { return &l.heap[1].Fields[1] },
		"the last field of the last":   func(l *leaving) *impl.Value { return &l.heap[2].Fields[2] },
		"the first field of the last":  func(l *leaving) *impl.Value { return &l.heap[2].Fields[0] },
		"the last field of the middle": func(l *leaving) *impl.Value { return &l.heap[1].Fields[2] },
	}
	for at := range 9 {
		places[fmt.Sprint("value ", at)] = func(l *leaving) *impl.Value { return &l.vals[at] }
	}
	good := append(constants(), rec(0), rec(1), rec(2))
	bad := append(overfull(), num(1000000001), num(-1000000001), truth(2), truth(-1), text(xs(61)), text("\""), text("\x1f"), text("\x7f"),
		rec(3), rec(4), rec(5), rec(-1), rec(math.MaxInt), rec(math.MinInt), fun(3), fun(-1), impl.Value{Kind: 6}, impl.Value{Kind: -1})
	for name, place := range places {
		for _, base := range leavingBases() {
			for _, v := range good {
				checkLeavings(t, base, []leavingChange{{fmt.Sprint(name, " is ", v), func(l *leaving) { *place(l) = v }}}, true)
			}
			for _, v := range bad {
				checkLeavings(t, base, []leavingChange{{fmt.Sprint(name, " is ", v), func(l *leaving) { *place(l) = v }}}, false)
			}
		}
	}
}

// A value that names the last record of the heap is taken, one that names the next one is none, also where a record
// will be built there.
func TestRecordsThatAreHandedIn(t *testing.T) {
	for _, n := range []int{1, 2, 3, 60, 118} {
		base := func() leaving {
			l := fullLeaving()
			l.heap = oldHeap(n)
			l.vals, _ = inRegisters(l.heap)
			return l
		}
		checkLeavings(t, base, []leavingChange{
			{"the last one", func(l *leaving) { l.vals[8] = rec(n - 1) }},
			{"the last one in a field", func(l *leaving) { l.heap[0].Fields[0] = rec(n - 1) }},
		}, true)
		checkLeavings(t, base, []leavingChange{
			{"the first that is built", func(l *leaving) { l.vals[8] = rec(n) }},
			{"the first that is built, where nobody names the value", func(l *leaving) { l.vals[2] = rec(n) }},
			{"the last that is built", func(l *leaving) { l.vals[8] = rec(n + 1) }},
			{"the first that is built, in a field", func(l *leaving) { l.heap[n-1].Fields[0] = rec(n) }},
		}, false)
	}
	checkLeavings(t, fullLeaving, []leavingChange{
		{"a heap without records, and a value that is one", func(l *leaving) { l.heap = nil }},
		{"a heap that is one shorter", func(l *leaving) { l.heap = []impl.Rec{record(), record()} }},
	}, false)
	checkLeavings(t, fullLeaving, []leavingChange{
		{"a heap without records, and no value that is one", func(l *leaving) { l.heap, l.vals = nil, make([]impl.Value, 9) }},
		{"a heap of records without fields", func(l *leaving) { l.heap = make([]impl.Rec, 3) }},
	}, true)
}

func TestHowManyRecordsAreHandedIn(t *testing.T) {
	for _, n := range []int{0, 1, 118, 119, 120, 121, 122, 5000} {
		set := func(l *leaving) { l.heap, l.vals = make([]impl.Rec, n), make([]impl.Value, 9) }
		full := func(l *leaving) {
			l.heap, l.vals = oldHeap(n), make([]impl.Value, 9)
		}
		for _, do := range []func(l *leaving){set, full} {
			checkLeavings(t, bareLeaving, []leavingChange{{fmt.Sprint(n, " records, and none is built"), do}}, n <= 120)
			checkLeavings(t, fullLeaving, []leavingChange{{fmt.Sprint(n, " records, and two are built"), do}}, n <= 118)
		}
	}
	for fields := range 9 {
		for at := range 3 {
			set := []leavingChange{{fmt.Sprintf("%d fields of record %d", fields, at), func(l *leaving) { l.heap[at].Fields = make([]impl.Value, fields) }}}
			for _, base := range leavingBases() {
				checkLeavings(t, base, set, fields <= 6)
			}
		}
		all := []leavingChange{{fmt.Sprint("120 records of fields ", fields), func(l *leaving) {
			l.heap = slices.Repeat([]impl.Rec{record(make([]impl.Value, fields)...)}, 120)
		}}}
		checkLeavings(t, bareLeaving, all, fields <= 6)
		checkLeavings(t, fullLeaving, all, false)
	}
}

// chainExit has one frame, which names the first of n records; each of them names the next one, up to this many.
func chainExit(n int, reached int) impl.Exit {
	e := wordExit("_ _ _ | _ _", "")
	for i := range n {
		e.Recs = append(e.Recs, exRec(constSrc(num(i))))
		if i > 0 && i < reached {
			e.Recs[i-1].Fields = append(e.Recs[i-1].Fields, recSrc(i))
		}
	}
	if reached > 0 {
		e.Frames[0].Stack[1] = recSrc(0)
	}
	return e
}

// Those that are built count, not those that the exit has.
func TestHowManyRecordsAreBuilt(t *testing.T) {
	for _, n := range []int{0, 1, 2, 59, 60} {
		for _, reached := range []int{0, 1, 2, 30, 59, 60} {
			if reached > n {
				continue
			}
			for _, more := range []int{-2, -1, 0, 1, 2} {
				heap := 120 - reached + more
				l := leavingBy(chainExit(n, reached), oldHeap(heap))
				name := fmt.Sprintf("%d of %d behind %d", reached, n, heap)
				if got := checkRebuild(t, l); got != (more <= 0) {
					t.Errorf("%s: built %v", name, got)
				}
				if got := l.rebuild(); more <= 0 && len(got.Heap) != heap+reached {
					t.Errorf("%s: %d records", name, len(got.Heap))
				}
			}
		}
	}
	// Sixty of them, each with six fields, all of them named by the first, or by each other.
	wide := wordExit("r0 _ _ | _ _", "")
	for i := range 60 {
		wide.Recs = append(wide.Recs, exRec())
		for k := 1; k <= 6; k++ {
			wide.Recs[i].Fields = append(wide.Recs[i].Fields, recSrc((6*i+k)%60))
		}
	}
	for n, want := range map[int]bool{0: true, 59: true, 60: true, 61: false, 120: false} {
		if got := checkRebuild(t, leavingBy(wide, oldHeap(n))); got != want {
			t.Errorf("sixty wide ones behind %d: %v", n, got)
		}
	}
}

func TestExitsThatAreNone(t *testing.T) {
	for _, base := range leavingBases() {
		for x, want := range map[int]bool{0: true, 1: true, 2: true, 3: true, 4: false, 5: false, -1: false, -4: false, 1500: false, math.MinInt: false, math.MaxInt: false} {
			checkLeavings(t, base, []leavingChange{{fmt.Sprint("exit ", x), func(l *leaving) { l.x = x }}}, want)
		}
		checkLeavings(t, base, []leavingChange{{"no exits", func(l *leaving) {
			l.c.Exits, l.c.Ops, l.x = nil, []impl.FOp{{Op: impl.FRet}}, 0
		}}}, false)
	}
	// The most exits that there can be.
	for n, want := range map[int]bool{1500: true, 1501: false} {
		for x, there := range map[int]bool{0: true, 1499: true, 1500: false, 1501: false} {
			checkLeavings(t, bareLeaving, []leavingChange{{fmt.Sprintf("exit %d of %d", x, n), func(l *leaving) {
				l.c.Exits, l.x = slices.Repeat(fullExits()[:1], n), x
				l.c.Ops = []impl.FOp{fop(impl.FExit, 0, 0, 0, 0)}
			}}}, want && there)
		}
	}
}

// notOkCodes are changes with which fullCode is not ok.
func notOkCodes() []codeChange {
	return []codeChange{
		{"the zero code", func(c *impl.Fast) { *c = impl.Fast{} }},
		{"no ops", func(c *impl.Fast) { c.Ops = nil }},
		{"no end", func(c *impl.Fast) { c.Ops = c.Ops[:8] }},
		{"an op that is none", func(c *impl.Fast) { c.Ops[2].Op = 30 }},
		{"a register that is none", func(c *impl.Fast) { c.Ops[2].D = 9 }},
		{"a function that is none", func(c *impl.Fast) { c.Func = 3 }},
		{"another function", func(c *impl.Fast) { c.Func, c.Entry = 1, 0 }},
		{"an entry that is none", func(c *impl.Fast) { c.Entry = 2 }},
		{"a register less than sources name", func(c *impl.Fast) { c.Exits[3].Frames[0].Stack[0] = valSrc(9) }},
		{"a bare register less than sources name", func(c *impl.Fast) { c.Exits[3].Frames[0].Stack[0] = numSrc(5) }},
		{"a record that is none in another exit", func(c *impl.Fast) { c.Exits[1].Recs[1].Fields[2] = recSrc(2) }},
		{"a record that is none in an exit", func(c *impl.Fast) { c.Exits[2].Frames[3].Stack[1] = recSrc(2) }},
		{"a constant that is a record", func(c *impl.Fast) { c.Exits[2].Frames[0].Locals[2] = constSrc(rec(0)) }},
		{"a source that is none", func(c *impl.Fast) { c.Exits[0].Frames[0].Locals[0].Kind = 5 }},
		{"the Kind of the last exit", func(c *impl.Fast) { c.Exits[3].Kind = 5 }},
		{"a guess that is none", func(c *impl.Fast) { c.Exits[1].Spec.Target = 0 }},
		{"a local more", func(c *impl.Fast) { c.Exits[2].Frames[1].Locals = firstLocals() }},
		{"no frames", func(c *impl.Fast) { c.Exits[0].Frames = nil }},
		{"five frames", func(c *impl.Fast) { c.Exits[2].Frames = slices.Insert(c.Exits[2].Frames, 1, waitingOf(1)) }},
		{"too many records", func(c *impl.Fast) { c.Exits[0].Recs = make([]impl.ExRec, 61) }},
		{"too many fields", func(c *impl.Fast) { c.Exits[0].Recs = exRecs(exRec(nilSrcs(7)...)) }},
	}
}

func TestNothingIsBuiltOfCodeThatIsNotOk(t *testing.T) {
	for _, x := range notOkCodes() {
		for at := range fullExits() {
			do := leavingChange{x.name, func(l *leaving) {
				l.x = at
				x.do(&l.c)
			}}
			checkLeavings(t, fullLeaving, []leavingChange{do}, false)
		}
	}
	// As many registers as the code says, though it may not say so.
	for _, n := range []int{0, 3, 401} {
		checkLeavings(t, fullLeaving, []leavingChange{
			{fmt.Sprint(n, " values"), func(l *leaving) { l.c.Vals, l.vals = n, make([]impl.Value, n) }},
			{fmt.Sprint(n, " numbers"), func(l *leaving) { l.c.Nums, l.nums = n, make([]int, n) }},
		}, false)
	}
}

func TestNothingIsBuiltInModulesThatAreNotGood(t *testing.T) {
	modules := notGood()
	broken := codeModule()
	broken.Funcs[2].Code = broken.Funcs[2].Code[:3]
	modules["another function runs past its end"] = broken
	modules["another good module"] = several()
	for name, m := range modules {
		for _, base := range leavingBases() {
			checkLeavings(t, base, []leavingChange{{name, func(l *leaving) { l.m = m }}}, false)
		}
		bare := leaving{m, impl.Fast{Ops: []impl.FOp{{Op: impl.FExit}}, Exits: []impl.Exit{{Kind: 4, Frames: exFrames(exFrame(0, 0, nil, nil))}}}, 0, nil, nil, nil}
		if checkRebuild(t, bare) != (name == "another good module") {
			t.Errorf("%s: %+v", name, bare.rebuild())
		}
	}
}
