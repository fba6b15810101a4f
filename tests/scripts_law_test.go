package tests

import (
	"fmt"
	"math"
	"math/rand"
	"regexp"
	"slices"
	"strconv"
	"strings"
	"testing"

	"loop.example/g00094/impl"
)

// sameAct holds an empty list and nil for the same.
func sameAct(a impl.Act, b impl.Act) bool {
	return a.Kind == b.Kind && a.A == b.A && a.B == b.B && a.Lay == b.Lay && a.Bare == b.Bare && slices.Equal(a.Sites, b.Sites)
}

func sameActs(a []impl.Act, b []impl.Act) bool { return slices.EqualFunc(a, b, sameAct) }

// actLineByLaw is the line of an act, without its end; of one that is not ok it tells what the line of its Kind has.
func actLineByLaw(a impl.Act) string {
	last := map[bool]string{false: "made", true: "bare"}[a.Bare]
	switch a.Kind {
	case 1:
		return fmt.Sprintf("run %d", a.A)
	case 2:
		return fmt.Sprintf("tier %d %d %s", a.A, a.Lay, last)
	case 3:
		return fmt.Sprintf("loop %d %d %d %s", a.A, a.B, a.Lay, last)
	case 4:
		return fmt.Sprintf("drop %d", a.A)
	case 5:
		words := []string{"forge"}
		for _, s := range a.Sites {
			words = append(words, fmt.Sprintf("%d %d %d %d", s.Func, s.Pc, s.Seen, s.Target))
		}
		return strings.Join(words, " ")
	}
	return fmt.Sprintf("act %d %d", a.Kind, a.A)
}

// actLines are the lines of acts, however many they are, and whether they are ok or not.
func actLines(list []impl.Act) string {
	var lines []string
	for _, a := range list {
		lines = append(lines, actLineByLaw(a))
	}
	return joined(lines)
}

func scriptOkByLaw(list []impl.Act) bool {
	return len(list) <= 60 && !slices.ContainsFunc(list, func(a impl.Act) bool { return !actOkByLaw(a) })
}

// scriptTextByLaw is ScriptText by the document's words.
func scriptTextByLaw(list []impl.Act) string {
	if !scriptOkByLaw(list) {
		return ""
	}
	return actLines(list)
}

const numberForm = `(?:0|-?[1-9][0-9]*)`

var numberWord = regexp.MustCompile(numberForm)

// actForms has the form of a line of each Kind.
var actForms = map[int]*regexp.Regexp{
	1: regexp.MustCompile(`^run` + strings.Repeat(" "+numberForm, 1) + `$`),
	2: regexp.MustCompile(`^tier` + strings.Repeat(" "+numberForm, 2) + ` (?:bare|made)$`),
	3: regexp.MustCompile(`^loop` + strings.Repeat(" "+numberForm, 3) + ` (?:bare|made)$`),
	4: regexp.MustCompile(`^drop` + strings.Repeat(" "+numberForm, 1) + `$`),
	5: regexp.MustCompile(`^forge(?:` + strings.Repeat(" "+numberForm, 4) + `)*$`),
}

// actByLaw reads a line by its form.
func actByLaw(line string) (impl.Act, bool) {
	for kind, form := range actForms {
		if !form.MatchString(line) {
			continue
		}
		a := impl.Act{Kind: kind, Bare: strings.HasSuffix(line, "bare")}
		var n []int
		for _, word := range numberWord.FindAllString(line, -1) {
			x, err := strconv.Atoi(word)
			if err != nil {
				return impl.Act{}, false
			}
			n = append(n, x)
		}
		switch kind {
		case 1, 4:
			a.A = n[0]
		case 2:
			a.A, a.Lay = n[0], n[1]
		case 3:
			a.A, a.B, a.Lay = n[0], n[1], n[2]
		case 5:
			for i := 0; i < len(n); i += 4 {
				a.Sites = append(a.Sites, site(n[i], n[i+1], n[i+2], n[i+3]))
			}
		}
		return a, actOkByLaw(a)
	}
	return impl.Act{}, false
}

// scriptByLaw is ReadScript by the form of each line.
func scriptByLaw(text string) ([]impl.Act, bool) {
	if text == "" {
		return nil, true
	}
	lines, ended := strings.CutSuffix(text, "\n")
	var out []impl.Act
	for _, line := range strings.Split(lines, "\n") {
		a, ok := actByLaw(line)
		if !ok || !ended || len(out) == 60 {
			return nil, false
		}
		out = append(out, a)
	}
	return out, true
}

// checkScript holds what acts are written as against the law, and asks promise 20 of it.
func checkScript(t *testing.T, list []impl.Act) {
	t.Helper()
	want := scriptTextByLaw(list)
	text := impl.ScriptText(list)
	if text != want {
		t.Fatalf("%+v: written as %q, not %q", list, text, want)
	}
	if !scriptOkByLaw(list) {
		return
	}
	if got, ok := impl.ReadScript(text); !ok || !sameActs(got, list) {
		t.Fatalf("%q: read back as %+v, %v, not %+v", text, got, ok, list)
	}
}

// checkReadScript holds what a text is read as against the law, and asks that what is read is written so. It tells
// whether it is read.
func checkReadScript(t *testing.T, text string) bool {
	t.Helper()
	want, wantOk := scriptByLaw(text)
	got, ok := impl.ReadScript(text)
	if ok != wantOk || !sameActs(got, want) || !ok && got != nil {
		t.Fatalf("%q: read as %+v, %v, not %+v, %v", text, got, ok, want, wantOk)
	}
	if again := impl.ScriptText(got); ok && again != text {
		t.Fatalf("%q: written again as %q", text, again)
	}
	return ok
}

// mustBeRead asks that a text is read as these acts, and they are written so.
func mustBeRead(t *testing.T, text string, want ...impl.Act) {
	t.Helper()
	checkReadScript(t, text)
	if got, ok := impl.ReadScript(text); !ok || !sameActs(got, want) {
		t.Errorf("%q: read as %+v, %v, not %+v", text, got, ok, want)
	}
	if got := impl.ScriptText(want); got != text {
		t.Errorf("%+v: written as %q, not %q", want, got, text)
	}
}

// mustNotBeRead asks that a text is refused, and that nothing is told of it.
func mustNotBeRead(t *testing.T, name string, text string) {
	t.Helper()
	checkReadScript(t, text)
	if got, ok := impl.ReadScript(text); ok || got != nil {
		t.Errorf("%s: %q is read as %+v, %v", name, text, got, ok)
	}
}

// anyNumber is one of any size, below 0 or above.
func anyNumber(r *rand.Rand) int {
	switch r.Intn(8) {
	case 0:
		return []int{math.MinInt, math.MaxInt, impl.MaxNum, -impl.MaxNum, 0, -1}[r.Intn(6)]
	case 1, 2, 3:
		return int(r.Uint64()) >> r.Intn(64)
	}
	return r.Intn(12)
}

// anySites are Sites of any numbers; an act asks nothing of them but how many they are.
func anySites(r *rand.Rand) []impl.Site {
	n := r.Intn(6)
	if r.Intn(12) == 0 {
		n = edge(r, impl.MaxSites)
	}
	var out []impl.Site
	for range n {
		out = append(out, site(anyNumber(r), anyNumber(r), anyNumber(r), anyNumber(r)))
	}
	return out
}

// scriptAct is an act that is ok, of any Kind, often with something at a limit; no module is asked.
func scriptAct(r *rand.Rand) impl.Act {
	switch r.Intn(5) {
	case 0:
		return runAct(edge(r, impl.MaxRun))
	case 1:
		return tierAct(edge(r, impl.MaxFuncs-1), r.Intn(4), r.Intn(2) == 0)
	case 2:
		return loopAct(edge(r, impl.MaxFuncs-1), edge(r, impl.MaxCode-1), r.Intn(4), r.Intn(2) == 0)
	case 3:
		return dropAct(edge(r, impl.MaxFuncs-1))
	}
	return forgeAct(anySites(r)...)
}

// scriptActs are so many acts that are ok.
func scriptActs(r *rand.Rand, n int) []impl.Act {
	var out []impl.Act
	for range n {
		out = append(out, scriptAct(r))
	}
	return out
}
