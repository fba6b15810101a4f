package tests

import (
	"math/rand"
	"slices"
	"strings"
	"testing"

	"loop.example/g00094/impl"
)

// spareNumbers lie behind a list of bare numbers; with them it would be another one.
func spareNumbers() []int { return []int{7, -2000000000} }

// roomyLeaving is l with spare room behind each list, in which lies what would make it another one.
func roomyLeaving(l leaving) leaving {
	numbers := append(slices.Clone(l.nums), spareNumbers()...)[:len(l.nums)]
	return leaving{roomy(l.m), roomyFast(l.c), l.x, roomyValues(l.vals), numbers, roomyVm(impl.Vm{Heap: l.heap}).Heap}
}

// untouchedLeaving tells whether l and the spare room behind its lists are as roomyLeaving made them.
func untouchedLeaving(l leaving, was leaving) bool {
	nv, nn := len(was.vals), len(was.nums)
	heap := roomyVm(impl.Vm{})
	heap.Heap = l.heap
	return l.x == was.x && untouched(l.m, was.m) && untouchedFast(l.c, was.c) &&
		slices.Equal(l.vals[:nv+2], slices.Concat(was.vals, spareValues())) &&
		slices.Equal(l.nums[:nn+2], slices.Concat(was.nums, spareNumbers())) && untouchedVm(heap, impl.Vm{Heap: was.heap})
}

// fillLeaving writes over all that l's lists have, up to their capacity.
func fillLeaving(l leaving) {
	fillLists(l.m)
	fillFast(l.c)
	fillVm(impl.Vm{Heap: l.heap})
	for i := range l.vals[:cap(l.vals)] {
		l.vals[:cap(l.vals)][i] = impl.Value{Kind: -5}
	}
	for i := range l.nums[:cap(l.nums)] {
		l.nums[:cap(l.nums)][i] = -5
	}
}

// someLeavings build records, build none, or are refused.
func someLeavings() []leaving {
	noRoom, wrong := fullLeaving(), fullLeaving()
	noRoom.heap = oldHeap(119)
	wrong.c.Exits[3].Kind = 5
	out := []leaving{fullLeaving(), bareLeaving(), noRoom, wrong, {}, leavingBy(chainExit(60, 60), oldHeap(60)), leavingBy(chainExit(60, 7), nil)}
	// With the spare value, number or record they would fit.
	oneFewer, noughtFewer, recordFewer := bareLeaving(), bareLeaving(), bareLeaving()
	oneFewer.vals = oneFewer.vals[:8]
	noughtFewer.nums = noughtFewer.nums[:4]
	recordFewer.heap, recordFewer.vals[8] = nil, rec(0)
	out = append(out, oneFewer, noughtFewer, recordFewer)
	r := rand.New(rand.NewSource(46))
	for range 40 {
		m := randomProgram(r)
		for range 4 {
			l := randomLeaving(r, m)
			out = append(out, l, spoiledLeaving(r, l))
		}
	}
	return out
}

func TestWhatRebuildIsGivenIsNotWrittenInto(t *testing.T) {
	oks := map[bool]int{}
	for _, was := range someLeavings() {
		l := roomyLeaving(was)
		checkVm(t, "Rebuild reads behind a list", l.rebuild(), rebuildByLaw(was))
		if !untouchedLeaving(l, was) {
			t.Errorf("%+v: written into", was)
		}
		oks[len(l.rebuild().Frames) > 0]++
	}
	if oks[true] < 50 || oks[false] < 50 {
		t.Errorf("built or not %v times: they try too little", oks)
	}
}

func TestWhatExitHoldsIsGivenIsNotWrittenInto(t *testing.T) {
	r := rand.New(rand.NewSource(47))
	holds := map[bool]int{}
	for _, was := range someLeavings() {
		states := []impl.Vm{{}, fullState()}
		if frames := rebuildByLaw(was).Frames; len(frames) > 0 {
			states = append(states, impl.Vm{Frames: nilFrames(was.c.Exits[was.x])}, trappedIn(impl.Vm{Frames: nilFrames(was.c.Exits[was.x])}), randomState(r, was.m))
		}
		for _, state := range states {
			l, vm := roomyLeaving(was), roomyVm(state)
			got := impl.ExitHolds(l.m, l.c, l.x, vm)
			if want := holdsByLaw(was.m, was.c, was.x, state); got != want {
				t.Errorf("ExitHolds, with room behind lists, of %+v in %+v: %v", was, state, got)
			}
			if !untouchedLeaving(l, was) || !untouchedVm(vm, state) {
				t.Errorf("%+v, %+v: written into", was, state)
			}
			holds[got]++
		}
	}
	if holds[true] < 50 || holds[false] < 50 {
		t.Errorf("exits hold or not %v times: they try too little", holds)
	}
}

// What is written into one answer does not show in what was handed in, nor in other answers, nor the other way round.
func TestWhatIsBuiltIsKeptApart(t *testing.T) {
	for _, was := range someLeavings() {
		l := roomyLeaving(was)
		got, other := l.rebuild(), l.rebuild()
		want := cloneVm(got)
		fillVm(got)
		if !untouchedLeaving(l, was) {
			t.Errorf("%+v shares memory with what was built", was)
		}
		checkVm(t, "two answers", other, want)
		checkVm(t, "a later answer", l.rebuild(), want)
		fillLeaving(l)
		checkVm(t, "what was built of something that was written into", other, want)
		checkVm(t, "the same again", was.rebuild(), want)
	}
}

// No two lists of one answer share any memory, be they of one source, or of the heap and of what was built.
func TestTheListsThatAreBuiltShareNothing(t *testing.T) {
	for _, was := range someLeavings() {
		if !listsApart(was.rebuild()) {
			t.Fatalf("two lists that were built share memory: %+v", was)
		}
	}
}

// What lies behind an answer's length is none of what was handed in.
func TestNothingIsHandedOutBehindWhatIsBuilt(t *testing.T) {
	for _, was := range someLeavings() {
		checkNothingBehindState(t, was, roomyLeaving(was).rebuild())
	}
}

func TestTextsThatAreBuiltAreNewMemory(t *testing.T) {
	texts := 0
	for _, was := range someLeavings() {
		l := was.clone()
		var given []string
		own := func(v *impl.Value) {
			v.S = strings.Clone(v.S)
			given = append(given, v.S)
		}
		for i := range l.vals {
			own(&l.vals[i])
		}
		for _, x := range l.heap {
			for i := range x.Fields {
				own(&x.Fields[i])
			}
		}
		for _, e := range l.c.Exits {
			for _, list := range sourceLists(e) {
				for i := range list {
					own(&list[i].V)
				}
			}
		}
		for _, got := range textsOfVm(l.rebuild()) {
			texts++
			for _, whole := range given {
				if liesIn(got, whole) {
					t.Fatalf("%+v: %q is in an argument's memory", was, got)
				}
			}
		}
	}
	if texts < 100 {
		t.Errorf("%d texts alone: they try too little", texts)
	}
}

// No call keeps anything for another one, also where others came between that were refused.
func TestExitsAreBuiltAlikeAgain(t *testing.T) {
	list := someLeavings()
	for range 2 {
		for _, l := range list {
			checkRebuild(t, l)
		}
		slices.Reverse(list)
	}
}
