package tests

import (
	"slices"
	"strings"
	"testing"

	"loop.example/g00094/impl"
)

// sharingModule has functions that share their code; of some it is a part of what another one has.
func sharingModule() impl.Module {
	code := []impl.Ins{jump(2), nilIns, jump(3), ins(impl.OpInt, 1), ins(impl.OpInt, 2), ins(impl.OpAdd, 0), returnIns, dropIns, dropIns}
	return impl.Module{Texts: []string{"a", "b"}, Funcs: []impl.Func{{Code: code}, {Code: code}, {Code: code[:7]}, {Code: code[3:7]}}}
}

// rewrittenModules are good ones, with something to rewrite and with nothing, and such as are refused.
func rewrittenModules() []impl.Module {
	out := append(someModules(), several(), sharingModule(), loopInLoop(), withGoodCode(withTexts("one", "", "two words")), withGoodCode(manyFuncs(impl.MaxFuncs)))
	for _, m := range notGood() {
		out = append(out, m)
	}
	return append(out, rewritables(104, 60)...)
}

func TestWhatIsRewrittenIsNotWrittenInto(t *testing.T) {
	oks := map[bool]int{}
	for _, was := range rewrittenModules() {
		for _, how := range rewritings() {
			m := roomy(was)
			checkRewriting(t, m, how)
			if !untouched(m, was) {
				t.Errorf("%s of %v: written into", how.name, was)
			}
		}
		oks[goodByLaw(was)]++
	}
	if oks[true] < 50 || oks[false] < 20 {
		t.Errorf("good or not %v times: they try too little", oks)
	}
}

// What is written into one answer does not show in what was handed in, nor in other answers, nor the other way round.
func TestWhatWasRewrittenIsKeptApart(t *testing.T) {
	for _, was := range rewrittenModules() {
		for _, how := range rewritings() {
			m := roomy(was)
			first := how.do(m)
			want := cloneModule(first)
			var others []impl.Module
			for _, x := range rewritings() {
				others = append(others, x.do(m))
			}
			fillLists(first)
			if !untouched(m, was) {
				t.Errorf("%s of %v shares memory with it", how.name, was)
			}
			for i, x := range rewritings() {
				if again := x.do(cloneModule(was)); !sameModule(others[i], again) {
					t.Errorf("%s and %s of %v share memory", how.name, x.name, was)
				}
			}
			second := how.do(m)
			if !sameModule(second, want) {
				t.Errorf("%s of %v: something else later on", how.name, was)
			}
			fillLists(m)
			if !sameModule(second, want) {
				t.Errorf("%s of %v hangs on it", how.name, was)
			}
		}
	}
}

// What is rewritten again shares nothing with what it was rewritten from, though nothing changes.
func TestWhatIsRewrittenAgainIsKeptApart(t *testing.T) {
	for _, was := range rewrittenModules() {
		for _, how := range rewritings() {
			first := how.do(was)
			want := cloneModule(first)
			for _, x := range rewritings() {
				fillLists(x.do(first))
				if !sameModule(first, want) {
					t.Errorf("%s of %s of %v shares memory", x.name, how.name, was)
				}
			}
		}
	}
}

// No two lists of one answer share any memory, though those of the module do.
func TestTheListsOfWhatWasRewrittenShareNothing(t *testing.T) {
	for _, was := range rewrittenModules() {
		for _, how := range rewritings() {
			got := how.do(was)
			for f := range got.Funcs {
				code := got.Funcs[f].Code
				for i := range code[:cap(code)] {
					code[:cap(code)][i] = ins(-7, f)
				}
			}
			for f, fn := range got.Funcs {
				if slices.ContainsFunc(fn.Code[:cap(fn.Code)], func(x impl.Ins) bool { return x != ins(-7, f) }) {
					t.Fatalf("%s of %v: two lists of code share memory", how.name, was)
				}
			}
		}
	}
}

// What lies behind an answer's lists is none of what was handed in, nor of what was taken out.
func TestNothingIsHandedOutBehindWhatWasRewritten(t *testing.T) {
	for _, was := range rewrittenModules() {
		for _, how := range rewritings() {
			got := how.do(roomy(was))
			for _, text := range got.Texts[len(got.Texts):cap(got.Texts)] {
				if text != "" {
					t.Errorf("%s of %v: %q lies behind the texts", how.name, was, text)
				}
			}
			for _, fn := range got.Funcs[len(got.Funcs):cap(got.Funcs)] {
				if fn.Params != 0 || fn.Locals != 0 || fn.Code != nil {
					t.Errorf("%s of %v: a function lies behind the others", how.name, was)
				}
			}
			for _, fn := range got.Funcs {
				if slices.ContainsFunc(fn.Code[len(fn.Code):cap(fn.Code)], func(x impl.Ins) bool { return x != impl.Ins{} }) {
					t.Errorf("%s of %v: something lies behind %v", how.name, was, fn.Code)
				}
			}
		}
	}
}

func TestTextsOfWhatWasRewrittenAreNewMemory(t *testing.T) {
	texts := 0
	for _, was := range rewrittenModules() {
		m := cloneModule(was)
		for i, text := range m.Texts {
			m.Texts[i] = strings.Clone(text)
		}
		for _, how := range rewritings() {
			for i, text := range how.do(m).Texts {
				if liesIn(text, m.Texts[i]) {
					t.Errorf("%s of %v: %q is in its memory", how.name, was, text)
				}
				texts += min(len(text), 1)
			}
		}
	}
	if texts < 100 {
		t.Errorf("%d texts alone: they try too little", texts)
	}
}

// No call keeps anything for another one, also where others came between that were refused.
func TestModulesAreRewrittenAlikeAgain(t *testing.T) {
	list := rewrittenModules()
	for range 2 {
		for _, m := range list {
			checkRewritings(t, m)
		}
		slices.Reverse(list)
	}
}
