package tests

import (
	"fmt"
	"math"
	"runtime"
	"slices"
	"strings"
	"sync"
	"testing"

	"loop.example/g00094/impl"
)

// snapshotMemory is a kind of thing that is written as numbers, with what looks after the memory of such a thing.
type snapshotMemory[T any] struct {
	snapshotKind[T]
	some        []inModule[T]
	roomy       func(x T) T
	untouched   func(x T, was T) bool
	clone       func(x T) T
	fill        func(x T)
	texts       func(x T) []string
	checkApart  func(t *testing.T, of any, x T)
	checkBehind func(t *testing.T, of any, x T)
}

// inModule is a thing, ok or not, and the module that it is asked of.
type inModule[T any] struct {
	m impl.Module
	x T
}

func vmMemory() snapshotMemory[impl.Vm] {
	var some []inModule[impl.Vm]
	for _, s := range someStates() {
		some = append(some, inModule[impl.Vm]{s.m, s.vm})
	}
	apart := func(t *testing.T, of any, vm impl.Vm) {
		t.Helper()
		if !listsApart(vm) {
			t.Fatalf("%+v: two lists share memory", of)
		}
	}
	return snapshotMemory[impl.Vm]{vms(), some, roomyVm, untouchedVm, cloneVm, fillVm, textsOfVm, apart, checkNothingBehindState}
}

func codeMemory() snapshotMemory[impl.Fast] {
	var some []inModule[impl.Fast]
	for _, s := range someCodes() {
		some = append(some, inModule[impl.Fast]{s.m, s.c})
	}
	texts := func(c impl.Fast) []string {
		var out []string
		for _, s := range textsOfFast(c) {
			out = append(out, *s)
		}
		return out
	}
	return snapshotMemory[impl.Fast]{codes(), some, roomyFast, untouchedFast, cloneFast, fillFast, texts, checkListsApart, checkNothingBehind}
}

// lawful is the list that a thing is written as.
func (k snapshotMemory[T]) lawful(m impl.Module, x T) []int {
	if k.ok(m, x) {
		return k.told(x)
	}
	return nil
}

// roomyNumbers is a list with spare room behind it, with which it would be another list.
func roomyNumbers(list []int) []int { return append(slices.Clone(list), 0, 7)[:len(list)] }

func untouchedNumbers(list []int, was []int) bool {
	n := len(was)
	return slices.Equal(list[:n+2], append(slices.Clone(was), 0, 7))
}

// lists are the numbers of all that there is, ok or not, and some of them with a number less, or with one changed.
func (k snapshotMemory[T]) lists() []snapshots {
	var out []snapshots
	for n, x := range k.some {
		list := k.told(x.x)
		out = append(out, snapshots{x.m, list})
		if n%4 == 0 {
			other := slices.Clone(list)
			other[(n*7)%len(list)]++
			out = append(out, snapshots{x.m, list[:len(list)-1]}, snapshots{x.m, other})
		}
	}
	return append(out, snapshots{one(nilIns, returnIns), nil})
}

func (k snapshotMemory[T]) checkWriting(t *testing.T) {
	for _, was := range k.some {
		m, x := roomy(was.m), k.roomy(was.x)
		want := k.lawful(was.m, was.x)
		list, other := k.write(m, x), k.write(m, x)
		if !slices.Equal(list, want) {
			t.Errorf("%+v: behind a list is read: %v", was, list)
		}
		if slices.ContainsFunc(list[len(list):cap(list)], func(n int) bool { return n != 0 }) {
			t.Errorf("%+v: something lies behind the numbers", was)
		}
		fillPlaces(list)
		if !untouched(m, was.m) || !k.untouched(x, was.x) {
			t.Errorf("%+v: written into", was)
		}
		if !slices.Equal(other, want) || !slices.Equal(k.write(m, x), want) {
			t.Errorf("%+v: two lists share memory", was)
		}
		fillLists(m)
		k.fill(x)
		if !slices.Equal(other, want) {
			t.Errorf("%+v: the numbers hang on what was written", was)
		}
	}
}

func (k snapshotMemory[T]) checkReading(t *testing.T) {
	read := 0
	for _, was := range k.lists() {
		m, list := roomy(was.m), roomyNumbers(was.list)
		want, wantOk := k.byLaw(was.m, was.list)
		x, ok := k.read(m, list)
		other, _ := k.read(m, list)
		if ok != wantOk || !k.same(x, want) {
			t.Errorf("%v: behind it is read: %+v, %v", was, x, ok)
		}
		k.checkBehind(t, was, x)
		k.fill(x)
		if !untouched(m, was.m) || !untouchedNumbers(list, was.list) {
			t.Errorf("%v: written into", was)
		}
		again, _ := k.read(m, list)
		if !k.same(other, want) || !k.same(again, want) {
			t.Errorf("%v: two answers share memory", was)
		}
		fillLists(m)
		fillPlaces(list)
		if !k.same(other, want) {
			t.Errorf("%v: what is read hangs on the list", was)
		}
		k.checkApart(t, was, other)
		if ok {
			read++
		}
	}
	if read < 100 {
		t.Errorf("%d lists are read: they try too little", read)
	}
}

// checkReadingBack asks that what is read of a list does not hang on that of which the list was written.
func (k snapshotMemory[T]) checkReadingBack(t *testing.T) {
	for _, was := range k.some {
		x := k.clone(was.x)
		list := k.write(was.m, x)
		back, ok := k.read(was.m, list)
		k.fill(x)
		if ok && !k.same(back, was.x) {
			t.Errorf("%+v: what is read hangs on what was written", was)
		}
		k.fill(back)
		if !slices.Equal(list, k.lawful(was.m, was.x)) {
			t.Errorf("%+v: the list hangs on what was read of it", was)
		}
	}
}

// checkTexts asks that texts that are read are none of the module's.
func (k snapshotMemory[T]) checkTexts(t *testing.T) {
	for _, was := range k.some {
		m := cloneModule(was.m)
		var given []string
		for _, s := range append(slices.Clone(m.Texts), k.texts(was.x)...) {
			given = append(given, strings.Clone(s))
		}
		m.Texts = given[:len(m.Texts):len(m.Texts)]
		x, _ := k.read(m, k.told(was.x))
		for _, s := range k.texts(x) {
			if slices.ContainsFunc(given, func(whole string) bool { return liesIn(s, whole) }) {
				t.Fatalf("%+v: %q is in an argument's memory", was, s)
			}
		}
	}
}

// checkAgain asks that no call keeps anything for another one, also where others came between that were refused.
func (k snapshotMemory[T]) checkAgain(t *testing.T) {
	lists := k.lists()
	for range 2 {
		for i, x := range k.some {
			k.check(t, x.m, x.x)
			// From the end on, so that something else came ahead of each.
			back := lists[len(lists)-1-i]
			k.checkList(t, back.m, back.list)
		}
	}
}

// checkAtOnce has several goroutines write and read the same.
func (k snapshotMemory[T]) checkAtOnce(t *testing.T) {
	before := runtime.NumGoroutine()
	wrong := make([]int, 8)
	begin := make(chan struct{})
	var all sync.WaitGroup
	for who := range wrong {
		all.Go(func() {
			<-begin
			for n := range k.some {
				was := k.some[(n+n/2*who)%len(k.some)]
				want, told := k.lawful(was.m, was.x), k.told(was.x)
				list := k.write(was.m, was.x)
				back, ok := k.read(was.m, told)
				if !slices.Equal(list, want) || ok != (want != nil) || ok && !k.same(back, was.x) {
					wrong[who]++
				}
			}
		})
	}
	close(begin)
	all.Wait()
	if slices.Max(wrong) > 0 {
		t.Errorf("came to something else %v times", wrong)
	}
	checkNoneLeft(t, before)
}

func (k snapshotMemory[T]) checkAll(t *testing.T) {
	k.checkWriting(t)
	k.checkReading(t)
	k.checkReadingBack(t)
	k.checkTexts(t)
	k.checkAgain(t)
	k.checkAtOnce(t)
}

func TestSnapshotsOfStatesAreKeptApart(t *testing.T) { vmMemory().checkAll(t) }

func TestSnapshotsOfCodeAreKeptApart(t *testing.T) { codeMemory().checkAll(t) }

// taken is how much memory a call asks for, all in all, also of what it lets go again.
func taken(call func()) uint64 {
	var before, after runtime.MemStats
	runtime.ReadMemStats(&before)
	call()
	runtime.ReadMemStats(&after)
	return after.TotalAlloc - before.TotalAlloc
}

// checkTaken asks that reading a list takes no more than so many bytes a number of it, and some for a start.
func (k snapshotKind[T]) checkTaken(t *testing.T, name string, m impl.Module, list []int) {
	t.Helper()
	most := uint64(100000 + 200*len(list))
	var ok bool
	if got := taken(func() { _, ok = k.read(m, list) }); ok || got > most {
		t.Errorf("%s: %d bytes are taken for %d numbers, read %v", name, got, len(list), ok)
	}
}

// checkCountsTaken has a count that cannot be at each place of a list, with nothing behind it, and with the rest of the
// list.
func (k snapshotKind[T]) checkCountsTaken(t *testing.T, all []snapshots) {
	t.Helper()
	for _, x := range all {
		for i := range x.list {
			list := slices.Clone(x.list)
			for _, list[i] = range []int{1 << 31, 1 << 32, 1 << 40, 1 << 47, 1 << 59, 1 << 62, math.MaxInt, math.MinInt} {
				k.checkTaken(t, fmt.Sprint(list[i], " at ", i), x.m, list[:i+1])
				k.checkTaken(t, fmt.Sprint(list[i], " at ", i, " and more"), x.m, list)
			}
			for _, list[i] = range []int{1 << 16, 1 << 20, -1} {
				k.checkTaken(t, fmt.Sprint(list[i], " at ", i), x.m, list[:i+1])
			}
		}
	}
}

// Counts that cannot be take no more memory than the numbers that there are, wherever they stand.
func TestCountsTakeNoMemory(t *testing.T) {
	vms().checkCountsTaken(t, statesWritten()[:5])
	codes().checkCountsTaken(t, codesWritten()[:3])
}

// Long lists take memory by their length: such as have as many items as they say, and such as say more.
func TestLongListsTakeMemoryByTheirLength(t *testing.T) {
	const long = 100000
	for _, value := range []int{0, 1, 3, 97} {
		for _, count := range []int{0, 1, long / 20, long / 8, long / 4, long / 2, long - 1, long, 2 * long, 1 << 40, math.MaxInt} {
			for place := range 14 {
				list := slices.Repeat([]int{value}, long)
				for i := range min(place, 6) {
					list[i] = 0
				}
				list[place] = count
				vms().checkTaken(t, fmt.Sprint(value, count, place), stateModule(), list)
				codes().checkTaken(t, fmt.Sprint(value, count, place), codeModule(), list)
			}
		}
	}
}
