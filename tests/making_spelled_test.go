package tests

import (
	"fmt"
	"strings"
	"testing"

	"loop.example/g00094/impl"
)

// opWords are how ops are spelled here, and exitWords exits.
var opWords = strings.Fields("- const move num movenum open box add sub mul less same not addn subn muln lessn new get put made make isfun jump if safe exit ret print deep")

var exitWords = []string{"-", "trap", "guard", "call", "pause"}

// spelledOp has the fields that an op names, and where it comes from.
func spelledOp(c impl.Fast, x impl.FOp) string {
	out := opWords[x.Op]
	for _, name := range fieldNames {
		n := *fieldOf(&x, name)
		switch namedAs(x.Op, name) {
		case "val":
			out += fmt.Sprint(" v", n)
		case "num":
			out += fmt.Sprint(" n", n)
		case "exit":
			out += fmt.Sprint(" x", n)
		case "":
		default:
			out += fmt.Sprint(" ", n)
		}
	}
	if namedAs(x.Op, "V") != "" {
		out += " " + sourceTextByLaw(constSrc(x.V))
	}
	if x.F != c.Func {
		return out + fmt.Sprintf(" @%d.%d", x.F, x.P)
	}
	return out + fmt.Sprint(" @", x.P)
}

func spelledExit(at int, e impl.Exit) string {
	out := fmt.Sprintf("x%d %s", at, exitWords[e.Kind])
	for _, f := range e.Frames {
		out += fmt.Sprintf(" / %d %d%s |%s", f.Func, f.Pc, listTextByLaw(f.Locals), listTextByLaw(f.Stack))
	}
	for _, r := range e.Recs {
		out += " *" + listTextByLaw(r.Fields)
	}
	return out
}

// spelled is code as it is written in these tests: how many registers there are, and then ops and exits.
func spelled(c impl.Fast) []string {
	out := []string{fmt.Sprint(c.Vals, " ", c.Nums)}
	for _, x := range c.Ops {
		out = append(out, spelledOp(c, x))
	}
	for at, e := range c.Exits {
		out = append(out, spelledExit(at, e))
	}
	return out
}

// lines are those of a text, without blanks around them, and without empty ones.
func lines(text string) []string {
	var out []string
	for line := range strings.SplitSeq(text, "\n") {
		if line = strings.TrimSpace(line); line != "" {
			out = append(out, line)
		}
	}
	return out
}

// spelling is a program, the entry of its function 0 and the plan that code is made of it with, and that code.
type spelling struct {
	name  string
	code  string
	entry int
	p     impl.Plan
	want  string
}

func checkSpelled(t *testing.T, list []spelling) {
	t.Helper()
	for _, x := range list {
		m := mod(x.code)
		c, ok := checkMake(t, asking{m, 0, x.entry, x.p})
		if !ok {
			t.Errorf("%s: nothing is made", x.name)
			continue
		}
		got, want := spelled(c), lines(x.want)
		for i := range max(len(got), len(want)) {
			if i >= len(got) || i >= len(want) || got[i] != want[i] {
				t.Errorf("%s: line %d is another one in\n\t\t\t%s", x.name, i, strings.Join(got, "\n\t\t\t"))
				break
			}
		}
	}
}

// bareOn and layOn are plans with these guesses: that leave records unmade, or lay functions in.
func bareOn(list ...impl.Spec) impl.Plan { return impl.Plan{Specs: list, Bare: true} }

func layOn(lay int, list ...impl.Spec) impl.Plan { return impl.Plan{Specs: list, Lay: lay} }
