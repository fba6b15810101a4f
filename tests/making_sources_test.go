package tests

import (
	"fmt"
	"strings"
	"testing"

	"loop.example/g00094/impl"
)

// sourceKind is code that lays a source, and what is to be known of that.
type sourceKind struct {
	name   string
	code   string
	number bool
	value  bool
	record bool
}

// sourceKinds lay each kind of source; a register that is asked for twice is the same one.
func sourceKinds() []sourceKind {
	return []sourceKind{
		{"a register", "load 0", false, true, false},
		{"another register", "load 1", false, true, false},
		{"a register that was written", "load 1; get 0", false, true, false},
		{"a bare number", "int 2; int 3; mul", true, false, false},
		{"a number", "int 7", true, false, false},
		{"a truth", "bool 1", false, false, false},
		{"a text", "text 0", false, false, false},
		{"nil", "nil", false, false, false},
		{"a function", "fun 1", false, false, false},
		{"an unmade record", "new 2", false, false, true},
		{"an unmade record that names itself", "load 2; load 2; put 0; load 2", false, false, true},
		{"an unmade record in a field", "load 2; get 1", false, false, true},
	}
}

// sourceModule has an instruction behind two sources, and tells where. Local 2 is an unmade record with another one in
// its field 1.
func sourceModule(first string, second string, last string) (impl.Module, int) {
	ahead := `text "a"; func 2 3; new 2; store 2; load 2; new 1; put 1; ` + first + "; " + second
	return mod(ahead + "; " + last + "; nil; return; func 1 1; load 0; return"), strings.Count(ahead, ";") - 1
}

// opsFrom are the Ops of code that come from an instruction of function 0.
func opsFrom(c impl.Fast, pc int) map[int]int {
	out := map[int]int{}
	for _, x := range c.Ops {
		if x.F == 0 && x.P == pc {
			out[x.Op]++
		}
	}
	return out
}

// Of each pair of sources each of the four, with and without a guess: numbers are worked with bare, or not at all,
// where they are known or guessed, and as values otherwise.
func TestMakingOfSumsOfAllSources(t *testing.T) {
	for _, a := range sourceKinds() {
		for _, b := range sourceKinds() {
			for which, word := range []string{"add", "sub", "mul", "less"} {
				for _, guessed := range []bool{false, true} {
					m, pc := sourceModule(a.code, b.code, word+"; print")
					p := bareOn()
					if guessed {
						p.Specs = specs(spec(0, pc, impl.SpInt, 0))
					}
					c, _ := checkMake(t, asking{m, 0, 0, p})
					ops, name := opsFrom(c, pc), fmt.Sprint(word, " of ", a.name, " and ", b.name, ", guessed ", guessed)
					numbers := a.number && b.number
					can := (a.number || a.value) && (b.number || b.value)
					want := map[bool]int{true: impl.FAddN + which, false: impl.FAdd + which}[numbers || guessed]
					if guessed && !can {
						want = impl.FExit
					}
					if ops[want] != 1 {
						t.Errorf("%s: %v", name, ops)
					}
					if opened := ops[impl.FOpen] > 0; opened && (numbers || !guessed) {
						t.Errorf("%s opens what is known: %v", name, ops)
					}
					for _, op := range []int{impl.FAdd, impl.FSub, impl.FMul, impl.FLess} {
						if (numbers || guessed) && ops[op] > 0 {
							t.Errorf("%s works on values: %v", name, ops)
						}
					}
				}
			}
		}
	}
}

func TestMakingOfAllInstructionsOfAllSources(t *testing.T) {
	n := 0
	for _, a := range sourceKinds() {
		for _, b := range sourceKinds() {
			for _, last := range []string{
				"same; print", "not; print", "put 0", "put 1", "put 5", "get 0; print", "get 2; print", "print", "return", "call 1; print", "call 0; print", "invoke 1; print",
				"store 0; store 1; load 0; print", "swap; print; print", "dup; same; print", "dup; print; print", "drop; print", "jump 0; nil; drop", "if 0; nil; drop", "ifnot 0; nil; drop",
			} {
				m, pc := sourceModule(a.code, b.code, last)
				for at, x := range m.Funcs[0].Code {
					if within(x.Op, impl.OpJump, impl.OpIfNot) {
						m.Funcs[0].Code[at].A = at + 3
					}
				}
				for _, p := range []impl.Plan{{}, bareOn(), layOn(1), {Lay: 1, Bare: true}, {Specs: specs(spec(0, pc, impl.SpFun, 1)), Lay: 1, Bare: true}} {
					if impl.PlanOk(m, p) {
						checkMake(t, asking{m, 0, 0, p})
						n++
					}
				}
			}
		}
	}
	if n < 10000 {
		t.Errorf("%d alone: they try too little", n)
	}
}
