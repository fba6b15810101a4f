package tests

import (
	"fmt"
	"math/rand"
	"slices"
	"strconv"
	"strings"
	"testing"

	"loop.example/g00094/impl"
)

// upPlaces are where frames of codeModule stand in an exit of 1, 2, 3 and 4 frames. Their locals and values are:
// 3 and 2; 3 and 1, 2 and 2; 3 and 1, 2 and 1, 1 and 2; 3 and 1, 2 and 1, 1 and none, 1 and 2.
var upPlaces = [][][2]int{{{0, 9}}, {{0, 8}, {1, 2}}, {{0, 8}, {1, 3}, {2, 2}}, {{0, 8}, {1, 3}, {2, 3}, {2, 2}}}

// inRegisters are 9 values and 5 numbers for the registers of fullCode; where the heap has records, two of the values
// are its first and its last one.
func inRegisters(heap []impl.Rec) ([]impl.Value, []int) {
	list := vals(text("a"), num(-1000000000), truth(1), impl.Value{}, fun(2), text(""), num(7), impl.Value{}, impl.Value{})
	if len(heap) > 0 {
		list[7], list[8] = rec(0), rec(len(heap)-1)
	}
	return list, []int{0, -1000000000, 1000000000, -1, 42}
}

// oldHeap are n records, each with a number of its own, its follower and itself; the last one is followed by the first.
func oldHeap(n int) []impl.Rec {
	var out []impl.Rec
	for i := range n {
		out = append(out, record(num(100+i), rec((i+1)%n), rec(i)))
	}
	return out
}

// leavingBy is code of codeModule with the registers of fullCode that leaves by this exit alone.
func leavingBy(e impl.Exit, heap []impl.Rec) leaving {
	values, numbers := inRegisters(heap)
	c := onFullExits(fop(impl.FExit, 0, 0, 0, 0))
	c.Exits = []impl.Exit{e}
	return leaving{codeModule(), c, 0, values, numbers, heap}
}

// wordSrc reads v2, n1 and r0 as sources of these numbers, _ as nil, and a number.
func wordSrc(word string) impl.Src {
	n, err := strconv.Atoi(strings.TrimLeft(word, "vnr_"))
	switch {
	case word == "_":
		return constSrc(impl.Value{})
	case err != nil:
		panic(word)
	case word[0] == 'v':
		return valSrc(n)
	case word[0] == 'n':
		return numSrc(n)
	case word[0] == 'r':
		return recSrc(n)
	}
	return constSrc(num(n))
}

func wordSrcs(words string) []impl.Src {
	var out []impl.Src
	for word := range strings.FieldsSeq(words) {
		out = append(out, wordSrc(word))
	}
	return out
}

// wordExit reads frames as FastText tells them, without Func and Pc, which are those of upPlaces, and records.
func wordExit(frames string, recs string) impl.Exit {
	e := impl.Exit{Kind: impl.ExPause}
	list := strings.Split(frames, "/")
	for i, words := range list {
		locals, stack, _ := strings.Cut(words, "|")
		place := upPlaces[len(list)-1][i]
		e.Frames = append(e.Frames, exFrame(place[0], place[1], wordSrcs(locals), wordSrcs(stack)))
	}
	for _, words := range strings.Split(recs, "*")[1:] {
		e.Recs = append(e.Recs, exRec(wordSrcs(words)...))
	}
	return e
}

// wordState is what is built, in the same words: r0 is the first record that is built, r1 the next one, and so on.
func wordState(l leaving, frames string, recs string) impl.Vm {
	e := wordExit(frames, recs)
	vm := impl.Vm{Heap: cloneHeap(l.heap)}
	for _, f := range e.Frames {
		vm.Frames = append(vm.Frames, frame(f.Func, f.Pc, l.laidDown(f.Locals), l.laidDown(f.Stack)))
	}
	for _, r := range e.Recs {
		vm.Heap = append(vm.Heap, record(l.laidDown(r.Fields)...))
	}
	return vm
}

// turnedRecs is an exit with its records in another order, known to all sources.
func turnedRecs(was impl.Exit, order []int) impl.Exit {
	e := cloneExit(was)
	for i, place := range order {
		e.Recs[place].Fields = slices.Clone(was.Recs[i].Fields)
	}
	for _, list := range sourceLists(e) {
		for i, s := range list {
			if s.Kind == impl.SrRec {
				list[i] = recSrc(order[s.N])
			}
		}
	}
	return e
}

// built is an exit, and what is built of it.
type built struct {
	name   string
	frames string
	recs   string
	want   string
	heap   string
}

// checkRows builds each of these with heaps of several sizes, and with its records in other orders, which changes
// nothing.
func checkRows(t *testing.T, list []built) {
	t.Helper()
	r := rand.New(rand.NewSource(41))
	for _, x := range list {
		e := wordExit(x.frames, x.recs)
		turned := make([]int, len(e.Recs))
		for i := range turned {
			turned[i] = len(turned) - 1 - i
		}
		for _, n := range []int{0, 1, 3} {
			for _, order := range [][]int{nil, turned, r.Perm(len(e.Recs)), r.Perm(len(e.Recs))} {
				l := leavingBy(e, oldHeap(n))
				if order != nil {
					l.c.Exits[0] = turnedRecs(e, order)
				}
				if !checkRebuild(t, l) {
					t.Errorf("%s: nothing, on %d records", x.name, n)
				}
				if got, want := l.rebuild(), wordState(l, x.want, x.heap); !sameVm(got, want) {
					t.Errorf("%s, on %d records, in order %v: %+v, not\n%+v", x.name, n, order, got, want)
				}
			}
		}
	}
}

func TestExitsWithoutRecords(t *testing.T) {
	checkRows(t, []built{
		{"constants", "1 -5 _ | 0 1000000000", "", "1 -5 _ | 0 1000000000", ""},
		{"values", "v0 v1 v2 | v3 v4", "", "v0 v1 v2 | v3 v4", ""},
		{"values, the last ones too, in another order", "v8 v7 v5 | v6 v0", "", "v8 v7 v5 | v6 v0", ""},
		{"one value everywhere", "v8 v8 v8 | v8 v8", "", "v8 v8 v8 | v8 v8", ""},
		{"numbers", "n0 n1 n2 | n3 n4", "", "0 -1000000000 1000000000 | -1 42", ""},
		{"one number everywhere", "n4 n4 n4 | n4 n4", "", "42 42 42 | 42 42", ""},
		{"values and numbers of the same registers", "v1 n1 v2 | n2 v4", "", "v1 -1000000000 v2 | 1000000000 v4", ""},
		{"two frames", "v0 n1 _ | 3 / v1 v8 | n2 v7", "", "v0 -1000000000 _ | 3 / v1 v8 | 1000000000 v7", ""},
		{"three frames", "v0 n1 _ | 3 / v1 v8 | n2 / 9 | v4 n4", "", "v0 n1 _ | 3 / v1 v8 | n2 / 9 | v4 n4", ""},
		{"four frames", "1 2 3 | 4 / 5 6 | 7 / 8 | / 9 | 10 11", "", "1 2 3 | 4 / 5 6 | 7 / 8 | / 9 | 10 11", ""},
	})
}

func TestRecordsThatFramesName(t *testing.T) {
	checkRows(t, []built{
		{"one in a local", "r0 _ _ | _ _", "* 7", "r0 _ _ | _ _", "* 7"},
		{"one on top", "_ _ _ | _ r0", "* 7 8", "_ _ _ | _ r0", "* 7 8"},
		{"one without fields", "_ r0 _ | _ _", "*", "_ r0 _ | _ _", "*"},
		{"one with sources of each kind", "_ _ _ | r0 _", "* v8 n1 5 _ r0 v0", "_ _ _ | r0 _", "* v8 n1 5 _ r0 v0"},
		{"locals, rising", "r0 r1 r2 | _ _", "* 0 * 1 * 2", "r0 r1 r2 | _ _", "* 0 * 1 * 2"},
		{"locals, falling", "r2 r1 r0 | _ _", "* 0 * 1 * 2", "r0 r1 r2 | _ _", "* 2 * 1 * 0"},
		{"the stack, from the lowest on", "_ _ _ | r1 r0", "* 0 * 1", "_ _ _ | r0 r1", "* 1 * 0"},
		{"locals ahead of the stack", "_ _ r1 | r0 _", "* 0 * 1", "_ _ r0 | r1 _", "* 1 * 0"},
		{"a stack ahead of the next frame's locals", "_ _ _ | r1 / r0 _ | _ _", "* 0 * 1", "_ _ _ | r0 / r1 _ | _ _", "* 1 * 0"},
		{"a local of the first frame, the top of the last", "_ r1 _ | _ / _ _ | _ / _ | / _ | _ r0", "* 0 * 1", "_ r0 _ | _ / _ _ | _ / _ | / _ | _ r1", "* 1 * 0"},
		{"a stack of the first frame, a local of the last", "_ _ _ | r1 / _ _ | _ / r0 | _ _", "* 0 * 1", "_ _ _ | r0 / _ _ | _ / r1 | _ _", "* 1 * 0"},
		{"one in each frame", "_ _ r3 | _ / _ _ | r1 / r0 | / _ | _ r2", "* 0 * 1 * 2 * 3", "_ _ r0 | _ / _ _ | r1 / r2 | / _ | _ r3", "* 3 * 1 * 0 * 2"},
		{"named twice in one list", "r0 r0 _ | _ _", "* 7", "r0 r0 _ | _ _", "* 7"},
		{"named twice, by locals and stack", "_ r0 _ | _ r0", "* 7", "_ r0 _ | _ r0", "* 7"},
		{"named twice, with another one between", "r1 r0 r1 | r0 r1", "* 0 * 1", "r0 r1 r0 | r1 r0", "* 1 * 0"},
		{"named in each frame", "r1 _ _ | r1 / r1 _ | r1 / r1 | / r1 | r1 r0", "* 0 * 1", "r0 _ _ | r0 / r0 _ | r0 / r0 | / r0 | r0 r1", "* 1 * 0"},
		{"two that are the same but for their number", "r0 r1 _ | _ _", "* 7 * 7", "r0 r1 _ | _ _", "* 7 * 7"},
		{"two without fields", "r1 r0 _ | _ _", "* *", "r0 r1 _ | _ _", "* *"},
		{"beside records of the heap", "v8 r0 v7 | v8 _", "* v8 v7", "v8 r0 v7 | v8 _", "* v8 v7"},
		{"eleven", "r10 r9 r8 | r7 / r6 r5 | r4 / r3 | / r2 | r1 r0", "* 0 * 1 * 2 * 3 * 4 * 5 * 6 * 7 * 8 * 9 * 10",
			"r0 r1 r2 | r3 / r4 r5 | r6 / r7 | / r8 | r9 r10", "* 10 * 9 * 8 * 7 * 6 * 5 * 4 * 3 * 2 * 1 * 0"},
	})
}

func TestRecordsThatRecordsName(t *testing.T) {
	checkRows(t, []built{
		{"one through a field", "r0 _ _ | _ _", "* r1 * 7", "r0 _ _ | _ _", "* r1 * 7"},
		{"one through a field of a later one", "r1 _ _ | _ _", "* 7 * r0", "r0 _ _ | _ _", "* r1 * 7"},
		{"one through the last of six fields", "r0 _ _ | _ _", "* 1 2 3 4 5 r1 * 7", "r0 _ _ | _ _", "* 1 2 3 4 5 r1 * 7"},
		{"a chain", "_ _ _ | _ r0", "* 0 r2 * 1 * 2 r3 * 3 r1", "_ _ _ | _ r0", "* 0 r1 * 2 r2 * 3 r3 * 1"},
		{"fields in order", "r0 _ _ | _ _", "* r3 r1 r2 * 1 * 2 * 3", "r0 _ _ | _ _", "* r1 r2 r3 * 3 * 1 * 2"},
		{"breadth ahead of depth", "r0 _ _ | _ _", "* r1 r2 * 1 r3 * 2 r4 * 3 * 4", "r0 _ _ | _ _", "* r1 r2 * 1 r3 * 2 r4 * 3 * 4"},
		{"frames ahead of fields", "r0 _ _ | _ r1", "* 0 r2 * 1 * 2", "r0 _ _ | _ r1", "* 0 r2 * 1 * 2"},
		{"all frames ahead of fields", "r0 _ _ | _ / _ _ | _ / _ | / _ | _ r1", "* 0 r2 * 1 * 2", "r0 _ _ | _ / _ _ | _ / _ | / _ | _ r1", "* 0 r2 * 1 * 2"},
		{"fields in the order of meeting, not of numbers", "r3 r1 _ | _ _", "* 0 * 1 r0 * 2 * 3 r2", "r0 r1 _ | _ _", "* 3 r2 * 1 r3 * 2 * 0"},
		{"fields of what fields named, behind those that frames named", "r2 r0 _ | _ _", "* 0 r4 * 1 r3 * 2 r1 * 3 * 4",
			"r0 r1 _ | _ _", "* 2 r2 * 0 r3 * 1 r4 * 4 * 3"},
		{"named by a frame and by a field", "r0 r1 _ | _ _", "* 0 r1 * 1", "r0 r1 _ | _ _", "* 0 r1 * 1"},
		{"named by a field and then by a frame", "r1 _ _ | _ r0", "* 0 * 1 r2 r0 * 2", "r0 _ _ | _ r1", "* 1 r2 r1 * 0 * 2"},
		{"one that two fields name", "r0 r1 _ | _ _", "* 0 r2 * 1 r2 * 2", "r0 r1 _ | _ _", "* 0 r2 * 1 r2 * 2"},
		{"one that two ways lead to", "r0 _ _ | _ _", "* r1 r2 * 1 r3 * 2 r3 * 3", "r0 _ _ | _ _", "* r1 r2 * 1 r3 * 2 r3 * 3"},
		{"one that fields name twice", "r0 _ _ | _ _", "* r1 r1 5 r1 * 7", "r0 _ _ | _ _", "* r1 r1 5 r1 * 7"},
		{"itself", "r0 _ _ | _ _", "* r0", "r0 _ _ | _ _", "* r0"},
		{"itself in each field", "_ r0 _ | r0 _", "* r0 r0 r0 r0 r0 r0", "_ r0 _ | r0 _", "* r0 r0 r0 r0 r0 r0"},
		{"each other", "r0 _ _ | _ _", "* 0 r1 * 1 r0", "r0 _ _ | _ _", "* 0 r1 * 1 r0"},
		{"each other, the second first", "r1 _ _ | r0 _", "* 0 r1 * 1 r0", "r0 _ _ | r1 _", "* 1 r1 * 0 r0"},
		{"a ring", "_ _ _ | r1 _", "* 0 r3 * 1 r0 * 2 r1 * 3 r2", "_ _ _ | r0 _", "* 1 r1 * 0 r2 * 3 r3 * 2 r0"},
		{"each other and themselves", "r1 _ _ | _ _", "* r0 r1 0 * r1 r0 1", "r0 _ _ | _ _", "* r0 r1 1 * r1 r0 0"},
		{"those of the heap beside those that were not made", "r1 v8 _ | v7 _", "* v7 * v8 r0 v7", "r0 v8 _ | v7 _", "* v8 r1 v7 * v7"},
	})
}

func TestUnmadeRecordsThatNobodyReaches(t *testing.T) {
	checkRows(t, []built{
		{"one alone", "_ _ _ | _ _", "* 7", "_ _ _ | _ _", ""},
		{"several", "v8 n1 _ | _ v7", "* 7 * r0 * r1 r2 *", "v8 n1 _ | _ v7", ""},
		{"each other", "_ _ _ | _ _", "* r1 * r0", "_ _ _ | _ _", ""},
		{"ahead of one that is named", "r1 _ _ | _ _", "* 0 * 1", "r0 _ _ | _ _", "* 1"},
		{"behind one that is named", "r0 _ _ | _ _", "* 0 * 1", "r0 _ _ | _ _", "* 0"},
		{"between two", "r0 r2 _ | _ _", "* 0 * 1 * 2", "r0 r1 _ | _ _", "* 0 * 2"},
		{"one that names one that is named", "_ _ _ | _ r0", "* 0 * 1 r0", "_ _ _ | _ r0", "* 0"},
		{"two that name each other and one that is named", "r1 _ _ | _ _", "* 0 r2 r1 * 1 * 2 r0 r1", "r0 _ _ | _ _", "* 1"},
		{"beside a chain", "r2 _ _ | _ _", "* 0 * 1 r0 * 2 r4 * 3 r2 * 4 r2", "r0 _ _ | _ _", "* 2 r1 * 4 r0"},
	})
}

// The exits of fullCode, one by one.
func TestExitsOfFullCode(t *testing.T) {
	heap := oldHeap(2)
	values, numbers := inRegisters(heap)
	a, low, yes, none := text("a"), num(-1000000000), truth(1), impl.Value{}
	first := vals(a, low, yes)
	for x, want := range []impl.Vm{
		{Frames: frames(frame(0, 9, first, vals(none, low))), Heap: oldHeap(2)},
		{
			Frames: frames(frame(0, 7, first, vals(none, fun(2), rec(2)))),
			Heap:   append(oldHeap(2), record(fun(2), num(42), rec(3), none, num(-5), text("ab")), record()),
		},
		{
			Frames: frames(
				frame(0, 8, vals(a, num(0), yes), vals(none)), frame(1, 3, vals(fun(2), rec(2)), vals(num(1000000000))),
				frame(2, 3, vals(rec(3)), nil), frame(2, 2, vals(text("")), vals(fun(1), rec(1))),
			),
			Heap: append(oldHeap(2), record(rec(3)), record(rec(2), rec(3))),
		},
		{Frames: frames(frame(0, 1, first, vals(none))), Heap: oldHeap(2)},
	} {
		l := leaving{codeModule(), fullCode(), x, values, numbers, heap}
		if !checkRebuild(t, l) || !sameVm(l.rebuild(), want) {
			t.Errorf("exit %d: %+v, not %+v", x, l.rebuild(), want)
		}
	}
}

// The Kind of an exit, its guess, the ops, and the other exits do not matter.
func TestWhatRebuildDoesNotAskFor(t *testing.T) {
	e := wordExit("r1 v8 n4 | r0 5", "* r2 * 1 * 2")
	want := leavingBy(e, oldHeap(2)).rebuild()
	for kind := impl.ExTrap; kind <= impl.ExPause; kind++ {
		l := leavingBy(e, oldHeap(2))
		l.c.Exits[0].Kind = kind
		if kind == impl.ExGuard {
			l.c.Exits[0].Spec = guards()[0]
		}
		l.c.Exits = slices.Insert(fullExits(), 2, l.c.Exits[0])
		l.x = 2
		l.c.Ops = fullCode().Ops
		if !checkRebuild(t, l) || !sameVm(l.rebuild(), want) {
			t.Errorf("Kind %d: %+v, not %+v", kind, l.rebuild(), want)
		}
	}
}

// Each value that there can be comes through a register, a constant, and a field.
func TestValuesThatAreBuilt(t *testing.T) {
	for _, v := range constants() {
		e := wordExit("v0 _ _ | _ r0", "* v0 _ r0")
		e.Frames[0].Locals[1], e.Recs[0].Fields[1] = constSrc(v), constSrc(v)
		l := leavingBy(e, oldHeap(1))
		l.vals[0] = v
		want := impl.Vm{Frames: frames(frame(0, 9, vals(v, v, impl.Value{}), vals(impl.Value{}, rec(1)))), Heap: append(oldHeap(1), record(v, v, rec(1)))}
		if !checkRebuild(t, l) || !sameVm(l.rebuild(), want) {
			t.Errorf("%v: %+v, not %+v", v, l.rebuild(), want)
		}
	}
}

// Each register is read by itself, the last ones of code that has as many as there can be too.
func TestRegistersThatAreRead(t *testing.T) {
	for _, n := range []int{4, 5, 9, impl.MaxRegs} {
		for at := range n {
			l := leavingBy(wordExit(fmt.Sprintf("v%d n%d _ | _ r0", at, at), fmt.Sprintf("* n%d v%d", at, at)), nil)
			l.c.Vals, l.c.Nums, l.vals, l.nums = n, n, nil, nil
			for i := range n {
				l.vals, l.nums = append(l.vals, num(1000+i)), append(l.nums, -i)
			}
			want := impl.Vm{
				Frames: frames(frame(0, 9, vals(num(1000+at), num(-at), impl.Value{}), vals(impl.Value{}, rec(0)))),
				Heap:   []impl.Rec{record(num(-at), num(1000+at))},
			}
			if got := l.rebuild(); !sameVm(got, want) {
				t.Errorf("register %d of %d: %+v, not %+v", at, n, got, want)
			}
		}
	}
}
