package tests

import (
	"math/rand"
	"slices"
	"testing"

	"loop.example/g00094/impl"
)

// metByLaw are the old places of the records that are reached, in the order in which the document meets them.
func metByLaw(vm impl.Vm) []int {
	var order []int
	meet := func(values []impl.Value) {
		for _, v := range values {
			if v.Kind == 4 && !slices.Contains(order, v.N) {
				order = append(order, v.N)
			}
		}
	}
	for _, f := range vm.Frames {
		meet(f.Locals)
		meet(f.Stack)
	}
	meet(vals(vm.Value))
	for i := 0; i < len(order); i++ {
		meet(vm.Heap[order[i]].Fields)
	}
	return order
}

// placesIn are where the values of a state stand.
func placesIn(vm *impl.Vm) []*impl.Value {
	out := []*impl.Value{&vm.Value}
	for _, list := range valueLists(*vm) {
		for i := range list {
			out = append(out, &list[i])
		}
	}
	return out
}

// renamed is vm with other numbers in the values that are records; the records stand where they stood.
func renamed(vm impl.Vm, to func(n int) int) impl.Vm {
	out := cloneVm(vm)
	for _, v := range placesIn(&out) {
		if v.Kind == impl.VRec {
			v.N = to(v.N)
		}
	}
	return out
}

// canonByLaw is Canon by the document's words.
func canonByLaw(m impl.Module, vm impl.Vm) impl.Vm {
	if !vmOkByLaw(m, vm) {
		return impl.Vm{}
	}
	order := metByLaw(vm)
	out := renamed(vm, func(n int) int { return slices.Index(order, n) })
	var heap []impl.Rec
	for _, n := range order {
		heap = append(heap, out.Heap[n])
	}
	out.Heap, out.Steps = heap, 0
	return out
}

// pairing goes through two states at once: a record of the one has one record of the other as its partner.
type pairing struct {
	there map[int]int
	back  map[int]int
	pairs [][2]int
}

func (p *pairing) fit(a []impl.Value, b []impl.Value) bool {
	return slices.EqualFunc(a, b, func(v impl.Value, w impl.Value) bool {
		if v.Kind != impl.VRec || w.Kind != impl.VRec {
			return v == w
		}
		partner, known := p.there[v.N]
		other, knownToo := p.back[w.N]
		if known || knownToo {
			return known && knownToo && partner == w.N && other == v.N
		}
		p.there[v.N], p.back[w.N] = w.N, v.N
		p.pairs = append(p.pairs, [2]int{v.N, w.N})
		return true
	})
}

// alikeByLaw is Alike without any Canon: it asks for partners of all records that are reached.
func alikeByLaw(m impl.Module, a impl.Vm, b impl.Vm) bool {
	if !vmOkByLaw(m, a) || !vmOkByLaw(m, b) {
		return false
	}
	if a.Made != b.Made || a.Status != b.Status || a.Trap != b.Trap || !slices.Equal(a.Out, b.Out) {
		return false
	}
	p := pairing{there: map[int]int{}, back: map[int]int{}}
	fits := p.fit(vals(a.Value), vals(b.Value)) && slices.EqualFunc(a.Frames, b.Frames, func(f impl.Frame, g impl.Frame) bool {
		return f.Func == g.Func && f.Pc == g.Pc && p.fit(f.Locals, g.Locals) && p.fit(f.Stack, g.Stack)
	})
	for i := 0; fits && i < len(p.pairs); i++ {
		fits = p.fit(a.Heap[p.pairs[i][0]].Fields, b.Heap[p.pairs[i][1]].Fields)
	}
	return fits
}

// moved is a state alike vm: the records that are reached stand at other places, the others are gone, and new
// ones that nobody reaches stand in between. They may name any record.
func moved(r *rand.Rand, m impl.Module, vm impl.Vm) impl.Vm {
	order := metByLaw(vm)
	size := len(order) + r.Intn(vm.Made-len(order)+1)
	places := r.Perm(size)
	out := renamed(vm, func(n int) int {
		if i := slices.Index(order, n); i >= 0 {
			return places[i]
		}
		return -1
	})
	heap := make([]impl.Rec, size)
	for i := range heap {
		heap[i].Fields = randomValues(r, m, r.Intn(impl.MaxFields+1), size)
	}
	for i, n := range order {
		heap[places[i]] = out.Heap[n]
	}
	out.Heap, out.Steps = heap, r.Intn(1000)
	return out
}

// checkCanon holds Canon of a state, ok or not, against the law, and asks promise 5 of it.
func checkCanon(t *testing.T, m impl.Module, vm impl.Vm) {
	t.Helper()
	ok := vmOkByLaw(m, vm)
	got := impl.Canon(m, vm)
	if want := canonByLaw(m, vm); !sameVm(got, want) {
		t.Fatalf("Canon of %+v\nof %v:\n  %+v, not\n  %+v", vm, m, got, want)
	}
	if impl.VmOk(m, got) != ok || !sameVm(impl.Canon(m, got), got) {
		t.Fatalf("Canon of %+v\nof %v is not ok, or not its own Canon: %+v", vm, m, got)
	}
	if met := metByLaw(got); len(met) != len(got.Heap) || !slices.IsSorted(met) {
		t.Fatalf("Canon of %+v\nhas records that are not reached, or not in order: %+v", vm, got)
	}
	for _, pair := range [][2]impl.Vm{{vm, vm}, {vm, got}, {got, vm}, {got, got}} {
		if impl.Alike(m, pair[0], pair[1]) != ok {
			t.Fatalf("%+v\nand %+v\nof %v are alike: %v", pair[0], pair[1], m, !ok)
		}
	}
}

// checkAlikeByLaw asks both ways whether two states are alike, and tells whether they are by the law.
func checkAlikeByLaw(t *testing.T, name string, m impl.Module, a impl.Vm, b impl.Vm) bool {
	t.Helper()
	want := alikeByLaw(m, a, b)
	if there, back := impl.Alike(m, a, b), impl.Alike(m, b, a); there != want || back != want {
		t.Fatalf("%s: alike %v and %v, not %v:\n  %+v\n  %+v\nof %v", name, there, back, want, a, b, m)
	}
	return want
}

func checkAlike(t *testing.T, name string, m impl.Module, a impl.Vm, b impl.Vm, want bool) {
	t.Helper()
	if checkAlikeByLaw(t, name, m, a, b) != want {
		t.Fatalf("%s: alike %v:\n  %+v\n  %+v\nof %v", name, !want, a, b, m)
	}
}
