package tests

import (
	"os"
	"os/exec"
	"runtime"
	"slices"
	"strings"
	"sync"
	"testing"

	"loop.example/g00094/impl"
)

// spareActs lie behind a list of acts; with them it would be another one.
func spareActs() []impl.Act { return acts(runAct(3), dropAct(0)) }

// roomyActs are acts with spare room behind each list.
func roomyActs(list []impl.Act) []impl.Act {
	var out []impl.Act
	for _, a := range list {
		a.Sites = roomySites(a.Sites)
		out = append(out, a)
	}
	return append(out, spareActs()...)[:len(list)]
}

// untouchedActs tells whether acts and the spare room behind their lists are as roomyActs made them.
func untouchedActs(list []impl.Act, was []impl.Act) bool {
	for i, a := range list {
		if !untouchedSites(a.Sites, was[i].Sites) {
			return false
		}
	}
	return sameActs(list[:len(was)+2], slices.Concat(was, spareActs()))
}

// fillActs writes over all that acts have, up to the capacity of their lists.
func fillActs(list []impl.Act) {
	for _, a := range list {
		fillSites(a.Sites)
	}
	for i := range list[:cap(list)] {
		list[:cap(list)][i] = runAct(-5)
	}
}

// cloneActs shares nothing with list.
func cloneActs(list []impl.Act) []impl.Act {
	var out []impl.Act
	for _, a := range list {
		out = append(out, cloneAct(a))
	}
	return out
}

// someActs are lists of acts that are written, and such as are not.
func someActs() [][]impl.Act {
	full := slices.Repeat(everyAct(), 4)
	out := [][]impl.Act{nil, everyAct(), greatestActs(), full[:59], full[:60], full[:61], wrongActs(), acts(impl.Act{}), acts(forgeAct()),
		acts(forgeAct(allSums(150, 1)...), forgeAct(allSums(151, 1)...)), append(everyAct(), runAct(501))}
	for _, a := range greatestActs() {
		out = append(out, acts(a), acts(a, a))
	}
	for _, a := range wrongActs() {
		out = append(out, acts(a), append(everyAct(), a))
	}
	return out
}

func TestActsThatAreWrittenAreNotWrittenInto(t *testing.T) {
	for _, was := range someActs() {
		list := roomyActs(was)
		if got := impl.ScriptText(list); got != scriptTextByLaw(was) {
			t.Errorf("behind a list of %+v is read: %q", was, got)
		}
		if !untouchedActs(list, was) {
			t.Errorf("%+v: written into", was)
		}
	}
}

// The text does not hang on the acts, nor on what was written ahead of it or behind it.
func TestWhatActsAreWrittenAsIsKeptApart(t *testing.T) {
	for _, was := range someActs() {
		list := roomyActs(was)
		text, other := impl.ScriptText(list), impl.ScriptText(list)
		want := strings.Clone(text)
		for _, next := range someActs() {
			impl.ScriptText(next)
		}
		fillActs(list)
		if text != want || other != want || impl.ScriptText(was) != want {
			t.Errorf("%+v: the text hangs on something", was)
		}
		if liesIn(text, other) {
			t.Errorf("%+v: two texts share memory", was)
		}
	}
}

// textsOfScripts are texts that are read, and such as are not.
func textsOfScripts() []string {
	var out []string
	for _, list := range someActs() {
		out = append(out, actLines(list))
	}
	for _, text := range wrongScripts() {
		out = append(out, text)
	}
	return out
}

func TestActsThatAreReadAreKeptApart(t *testing.T) {
	read := 0
	for _, text := range textsOfScripts() {
		want, wantOk := scriptByLaw(text)
		was := strings.Clone(text)
		got, _ := impl.ReadScript(text)
		other, _ := impl.ReadScript(text)
		fillActs(got)
		if !sameActs(other, want) || text != was {
			t.Errorf("%q: two answers share memory, or the text is written into", text)
		}
		again, ok := impl.ReadScript(text)
		if ok != wantOk || !sameActs(again, want) {
			t.Errorf("%q: is read as something else later on", text)
		}
		if ok {
			read++
		}
	}
	if read < 15 {
		t.Errorf("%d texts are read", read)
	}
}

// No two lists of one answer share memory, nor does anything lie behind them.
func TestTheListsOfActsThatAreReadShareNothing(t *testing.T) {
	full := actLines(slices.Repeat(acts(forgeAct(allSums(150, 1)...), forgeAct(allSums(3, 2)...), forgeAct()), 20))
	for _, text := range append(textsOfScripts(), full) {
		got, _ := impl.ReadScript(text)
		want := cloneActs(got)
		if slices.ContainsFunc(got[len(got):cap(got)], func(a impl.Act) bool { return !sameAct(a, impl.Act{}) || a.Sites != nil }) {
			t.Errorf("%q: something lies behind the acts", text)
		}
		for i := range got {
			behind := got[i].Sites[len(got[i].Sites):cap(got[i].Sites)]
			if slices.ContainsFunc(behind, func(s impl.Site) bool { return s != impl.Site{} }) {
				t.Errorf("%q: something lies behind the Sites of act %d", text, i)
			}
			fillSites(got[i].Sites)
			got[i].Sites, want[i].Sites = nil, nil
			if !sameActs(got, want) {
				t.Fatalf("%q: the Sites of act %d share memory with others", text, i)
			}
		}
	}
}

// Acts that were read do not hang on those of which the text was written.
func TestActsThatAreReadDoNotHangOnThoseThatWereWritten(t *testing.T) {
	list := everyAct()
	text := impl.ScriptText(list)
	got, _ := impl.ReadScript(text)
	fillActs(list)
	if !sameActs(got, everyAct()) || impl.ScriptText(got) != everyActWritten {
		t.Errorf("%+v", got)
	}
	fillActs(got)
	if text != everyActWritten {
		t.Errorf("the text is %q", text)
	}
}

// No call keeps anything for another one, also where others came between that were refused.
func TestScriptsAreReadAsTheyWereAgain(t *testing.T) {
	texts := textsOfScripts()
	for range 2 {
		for i := range texts {
			// From the end on, so that something else came ahead of each.
			checkReadScript(t, texts[len(texts)-1-i])
		}
		for _, list := range someActs() {
			checkScript(t, list)
		}
	}
}

// reading is a text, and what it is read as.
type reading struct {
	text string
	want []impl.Act
	ok   bool
}

// shortReadings are of texts that are read fast, so that many come at once.
func shortReadings() []reading {
	var out []reading
	for _, text := range textsOfScripts() {
		if len(text) < 5000 {
			want, ok := scriptByLaw(text)
			out = append(out, reading{text, want, ok})
		}
	}
	return out
}

// wrongAtOnce has several goroutines write and read, the same and something else, and tells how often that came to what
// it should not.
func wrongAtOnce() int {
	readings, lists := shortReadings(), someActs()
	wrong := make([]int, 12)
	begin := make(chan struct{})
	var all sync.WaitGroup
	for who := range wrong {
		all.Go(func() {
			<-begin
			for n := range 3 * len(readings) {
				x := readings[(n+n/2*who)%len(readings)]
				if got, ok := impl.ReadScript(x.text); ok != x.ok || !sameActs(got, x.want) {
					wrong[who]++
				}
				if list := lists[n%len(lists)]; impl.ScriptText(list) != scriptTextByLaw(list) {
					wrong[who]++
				}
			}
		})
	}
	close(begin)
	all.Wait()
	sum := 0
	for _, n := range wrong {
		sum += n
	}
	return sum
}

func TestScriptsAreWrittenAndReadAtOnce(t *testing.T) {
	before := runtime.NumGoroutine()
	if n := wrongAtOnce(); n > 0 {
		t.Errorf("came to something else %d times", n)
	}
	checkNoneLeft(t, before)
}

const firstReads = "FIRST_READS"

// Ahead of the first text that is read by a process nobody has read any, and several ask at once.
func TestScriptsAreReadAtOnceFromTheFirstOn(t *testing.T) {
	if os.Getenv(firstReads) != "" {
		if n := wrongAtOnce(); n > 0 {
			t.Errorf("came to something else %d times", n)
		}
		return
	}
	own, err := os.Executable()
	if err != nil {
		t.Fatal(err)
	}
	for range 3 {
		child := exec.Command(own, "-test.run", "^"+t.Name()+"$")
		child.Env = append(os.Environ(), firstReads+"=1")
		if out, err := child.CombinedOutput(); err != nil {
			t.Fatalf("%v: %.500s", err, out)
		}
	}
}
