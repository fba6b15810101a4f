package tests

import (
	"math/rand"
	"slices"
	"testing"

	"loop.example/g00094/impl"
)

// placeMakers are the ways in which lists of places come of a module.
func placeMakers() map[string]func(m impl.Module, f int) []int {
	return map[string]func(m impl.Module, f int) []int{
		"LeadersOf": impl.LeadersOf,
		"HeadsOf":   impl.HeadsOf,
		"EntriesOf": impl.EntriesOf,
	}
}

// flowModules are good and not, with and without jumps.
func flowModules() []impl.Module {
	out := append(someModules(), several(), loopInLoop(), ownLoops(impl.MaxFuncs), one(jump(0)), one(nilIns, returnIns, jump(0)),
		longest(jump(119), jump(119)), one(straightCode(24)...), one(straightCode(25)...), one(dropIns), one(nilIns))
	for _, m := range wrongModules() {
		out = append(out, m)
	}
	r := rand.New(rand.NewSource(31))
	for range 50 {
		out = append(out, impl.Module{Funcs: []impl.Func{randomRails(r), randomRails(r)}}, randomProgram(r))
	}
	return out
}

// fillPlaces writes over all that a list of places has, up to its capacity.
func fillPlaces(list []int) {
	for i := range list[:cap(list)] {
		list[:cap(list)][i] = -9
	}
}

func TestFlowWritesIntoNothing(t *testing.T) {
	for _, was := range flowModules() {
		m := roomy(was)
		for f := -1; f <= len(was.Funcs)+1; f++ {
			if got, want := flowTo(m, f), flowByLaw(was, f); !sameFlow(got, want) {
				t.Errorf("function %d of %v, with room behind lists: %v, not %v", f, was, got, want)
			}
			if !untouched(m, was) {
				t.Fatalf("function %d of %v: written into", f, was)
			}
		}
	}
}

// What is written into one answer shows neither in another one, of the same call or of another, nor in a later one.
func TestPlacesThatAreAnsweredAreKeptApart(t *testing.T) {
	for name, makeOne := range placeMakers() {
		for _, was := range flowModules() {
			m := roomy(was)
			for f := range was.Funcs {
				others := flowTo(m, f)
				first := makeOne(m, f)
				fillPlaces(first)
				want := flowByLaw(was, f)
				if !sameFlow(others, want) || !sameFlow(flowTo(m, f), want) {
					t.Fatalf("%s of function %d of %v shares memory with other answers", name, f, was)
				}
				if !untouched(m, was) {
					t.Fatalf("%s of function %d of %v shares memory with the module", name, f, was)
				}
			}
		}
	}
}

// The lists of one function share nothing with each other: each is written over in its turn.
func TestPlacesOfOneFunctionShareNothing(t *testing.T) {
	for _, m := range flowModules() {
		for f := range m.Funcs {
			got, want := flowTo(m, f), flowByLaw(m, f)
			fillPlaces(got.heads)
			if !slices.Equal(got.leaders, want.leaders) || !slices.Equal(got.entries, want.entries) {
				t.Fatalf("heads of function %d of %v", f, m)
			}
			fillPlaces(got.entries)
			if !slices.Equal(got.leaders, want.leaders) {
				t.Fatalf("entries of function %d of %v", f, m)
			}
		}
	}
}

func TestPlacesHangNotOnTheModuleAnyMore(t *testing.T) {
	for _, was := range flowModules() {
		for f := range was.Funcs {
			m := roomy(was)
			got := flowTo(m, f)
			fillLists(m)
			if !sameFlow(got, flowByLaw(was, f)) {
				t.Fatalf("function %d of %v: %v", f, was, got)
			}
		}
	}
}

func TestNothingIsHandedOutBehindPlaces(t *testing.T) {
	for name, makeOne := range placeMakers() {
		for _, m := range flowModules() {
			for f := range m.Funcs {
				got := makeOne(m, f)
				if slices.ContainsFunc(got[len(got):cap(got)], func(at int) bool { return at != 0 }) {
					t.Errorf("%s of function %d of %v: something lies behind %v", name, f, m, got)
				}
			}
		}
	}
}

// No call keeps anything for another one, also where others came between that were refused.
func TestFlowIsToldAlikeAgain(t *testing.T) {
	modules := flowModules()
	for round := range 2 {
		for i, m := range modules {
			if round == 1 {
				m = modules[len(modules)-1-i]
			}
			for f := -1; f <= len(m.Funcs); f++ {
				if got, want := flowTo(m, f), flowByLaw(m, f); !sameFlow(got, want) {
					t.Fatalf("function %d of %v: %v, not %v", f, m, got, want)
				}
			}
		}
	}
}
