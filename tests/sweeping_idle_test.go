package tests

import (
	"fmt"
	"slices"
	"strconv"
	"strings"
	"testing"

	"loop.example/g00094/impl"
)

// sweepModule has a function 0 with one local, which invokes function 1 at 3; its stack is as high as an instruction's
// number tells. Functions 1 and 2 take no values; the former has two locals.
func sweepModule() impl.Module {
	return mod("func 0 1; nil; nil; nil; invoke 1; return; func 0 2; nil; nil; return; func 0 0; nil; return")
}

// unspelled reads code of function 0 that is written as spelled tells it: how many registers there are, ops, and exits;
// sources are written as in wordSrc, V likewise, and what comes of instruction 0 needs not to tell it.
func unspelled(code string) impl.Fast {
	list := lines(code)
	var c impl.Fast
	if _, err := fmt.Sscan(list[0], &c.Vals, &c.Nums); err != nil {
		panic(list[0])
	}
	for _, line := range list[1:] {
		words := strings.Fields(line)
		if op := slices.Index(opWords, words[0]); op > 0 {
			c.Ops = append(c.Ops, unspelledOp(op, words[1:]))
		} else {
			c.Exits = append(c.Exits, unspelledExit(words[1:]))
		}
	}
	return c
}

func unspelledOp(op int, words []string) impl.FOp {
	x := impl.FOp{Op: op}
	for _, name := range fieldNames {
		if namedAs(op, name) != "" {
			*fieldOf(&x, name) = numberIn(words[0])
			words = words[1:]
		}
	}
	if namedAs(op, "V") != "" {
		x.V = wordSrc(words[0]).V
		words = words[1:]
	}
	if len(words) > 0 {
		f, p, told := strings.Cut(words[0], ".")
		if !told {
			f, p = "0", f
		}
		x.F, x.P = numberIn(f), numberIn(p)
	}
	return x
}

// numberIn reads a number behind the letter that says what it is of.
func numberIn(word string) int {
	n, err := strconv.Atoi(strings.TrimLeft(word, "vnx@"))
	if err != nil {
		panic(word)
	}
	return n
}

func unspelledExit(words []string) impl.Exit {
	e := impl.Exit{Kind: slices.Index(exitWords, words[0])}
	parts := strings.Split(strings.Join(words[1:], " "), "*")
	for _, words := range strings.Split(parts[0], "/")[1:] {
		locals, stack, _ := strings.Cut(words, "|")
		list := strings.Fields(locals)
		e.Frames = append(e.Frames, exFrame(numberIn(list[0]), numberIn(list[1]), wordSrcs(strings.Join(list[2:], " ")), wordSrcs(stack)))
	}
	for _, words := range parts[1:] {
		e.Recs = append(e.Recs, exRec(wordSrcs(words)...))
	}
	return e
}

// sweptExits are exits of sweepModule of which each tells v0 alone.
const sweptExits = `
	x0 trap / 0 0 v0 |
	x1 trap / 0 0 v0 |
	x2 trap / 0 0 v0 |`

// mustIdle holds what is idle in code of sweepModule against the law, and against what is written of it.
func mustIdle(t *testing.T, name string, c impl.Fast, want ...int) {
	t.Helper()
	mustBeOk(t, name, sweepModule(), c, true)
	checkSweep(t, sweepModule(), c)
	if got := impl.IdleOps(sweepModule(), c); !slices.Equal(got, want) {
		t.Errorf("%s: %v, not %v, are idle in\n%s", name, got, want, strings.Join(spelled(c), "\n"))
	}
}

// theNumber is what each register, field, function, op and exit is called by that stands in these tests for another one.
const theNumber = 2

// opOf is an op of this Op, all of whose fields have this number, where they may.
func opOf(op int, n int) impl.FOp {
	x := impl.FOp{Op: op}
	for _, name := range fieldNames {
		if namedAs(op, name) != "" {
			*fieldOf(&x, name) = n
		}
	}
	if namedAs(op, "V") != "" {
		x.V = num(n)
	}
	return x
}

// aheadOf is code with an op, or a few, ahead of one that goes nowhere near them.
func aheadOf(ops ...impl.FOp) impl.Fast {
	c := unspelled("9 9\nexit x1\nexit x1\nexit x1\n" + sweptExits)
	c.Ops = append(slices.Clone(ops), c.Ops...)
	return c
}

// Each Op by itself: nobody takes the register that it writes into.
func TestWhichOpsMayBeIdle(t *testing.T) {
	seven := []int{impl.FConst, impl.FMove, impl.FNum, impl.FMoveNum, impl.FBox, impl.FSame, impl.FLessN}
	for op := impl.FConst; op <= impl.FDeep; op++ {
		x := opOf(op, theNumber)
		for _, name := range []string{"D", "A", "B"} {
			if what := namedAs(op, name); name != "D" && (what == "val" || what == "num") {
				*fieldOf(&x, name) = 5
			}
		}
		var want []int
		if slices.Contains(seven, op) {
			want = places(0)
		}
		mustIdle(t, opWords[op], aheadOf(x), want...)
	}
}

// Both kinds of registers have one of the number that a field of the op has: the value is taken where the field is a
// register for values from which the op takes one, the number where it is a bare one, and otherwise none is.
func TestPlacesFromWhichIsTaken(t *testing.T) {
	for op := impl.FConst; op <= impl.FDeep; op++ {
		for _, name := range fieldNames {
			if namedAs(op, name) == "" {
				continue
			}
			x := opOf(op, theNumber)
			for _, other := range []string{"D", "A", "B"} {
				if what := namedAs(op, other); other != name && (what == "val" || what == "num") {
					*fieldOf(&x, other) = 5
				}
			}
			want := places(1, 2)
			switch {
			case strings.Contains(takesByLaw[op], name):
				want = places(2)
			case strings.Contains(takesByLaw[op], strings.ToLower(name)):
				want = places(1)
			}
			if _, idles := idlersByLaw[op]; idles {
				want = append(places(0), want...)
			}
			c := aheadOf(x, opOf(impl.FConst, theNumber), opOf(impl.FNum, theNumber))
			mustIdle(t, fmt.Sprintf("%s of %s", name, opWords[op]), c, want...)
		}
	}
}

// What the fields are is written out here once more: each op takes from n1 or v1, and, where it takes from two, from n2
// or v2, too; it is not idle itself, as v8 and n8 are told by its exit or another one.
func TestWhoTakesFromWhom(t *testing.T) {
	for line, want := range map[string]string{
		"const v8 1":       "v1 n1 v2 n2",
		"move v8 v1":       "n1 v2 n2",
		"num n8 1":         "v1 n1 v2 n2",
		"movenum n8 n1":    "v1 v2 n2",
		"open n8 v1 x1":    "n1 v2 n2",
		"box v8 n1":        "v1 v2 n2",
		"add v8 v1 v2 x1":  "n1 n2",
		"sub v8 v1 v2 x1":  "n1 n2",
		"mul v8 v1 v2 x1":  "n1 n2",
		"less v8 v1 v2 x1": "n1 n2",
		"same v8 v1 v2":    "n1 n2",
		"not v8 v1 x1":     "n1 v2 n2",
		"addn n8 n1 n2 x1": "v1 v2",
		"subn n8 n1 n2 x1": "v1 v2",
		"muln n8 n1 n2 x1": "v1 v2",
		"lessn v8 n1 n2":   "v1 v2",
		"new v8 1 x1":      "v1 n1 v2 n2",
		"get v8 v1 2 x1":   "n1 v2 n2",
		"put 2 v1 v8 x1":   "n1 v2 n2",
		"put 2 v8 v1 x1":   "n1 v2 n2",
		"put 2 v1 v2 x1":   "n1 n2",
		"put 1 v2 v8 x1":   "v1 n1 n2",
		"made x1":          "v1 n1 v2 n2",
		"make v8 1":        "v1 n1 v2 n2",
		"isfun v1 2 x1":    "n1 v2 n2",
		"jump 5":           "v1 n1 v2 n2",
		"if v1 5 x1":       "n1 v2 n2",
		"safe x1":          "v1 n1 v2 n2",
		"exit x1":          "v1 n1 v2 n2",
		"ret v1":           "n1 v2 n2",
		"print v1 x1":      "n1 v2 n2",
		"deep 1 x1":        "v1 n1 v2 n2",
	} {
		c := unspelled("9 9\nconst v1 5\nnum n1 5\nconst v2 5\nnum n2 5\n" + line + "\nexit x0\nx0 call / 0 2 v0 | v8 n8\nx1 trap / 0 0 v0 |")
		var idle []int
		for at, register := range strings.Fields("v1 n1 v2 n2") {
			if slices.Contains(strings.Fields(want), register) {
				idle = append(idle, at)
			}
		}
		mustIdle(t, line, c, idle...)
	}
}

// The register is one of a kind: one of the other kind with the same number is another one.
func TestRegistersOfTheOtherKind(t *testing.T) {
	mustIdle(t, "values and numbers by turns", unspelled(`9 9
		const v1 5
		num n1 5
		const v2 5
		num n2 5
		movenum n3 n1
		move v3 v2
		exit x0
		x0 trap / 0 2 v0 | v3 n3`), 0, 3)
	mustIdle(t, "sources of the other kind", unspelled(`9 9
		const v1 5
		num n1 5
		const v2 5
		num n2 5
		exit x0
		x0 trap / 0 2 v0 | v1 n2`), 1, 2)
	mustIdle(t, "a box into a register of its own number", unspelled("9 9\nnum n4 1\nbox v4 n4\nexit x0\nx0 trap / 0 0 v0 |"), 1)
	mustIdle(t, "a comparison into a register of its own numbers", unspelled("9 9\nnum n4 1\nlessn v4 n4 n4\nexit x0\nx0 trap / 0 0 v0 |"), 1)
}

// Each place of an exit that can have a source, with a value, a number, and what is none of both.
func TestSourcesThatExitsTake(t *testing.T) {
	for name, form := range map[string]string{
		"the local of its one frame":         "/ 0 0 # |",
		"the lowest on a stack":              "/ 0 2 v0 | # _",
		"the top of a stack":                 "/ 0 2 v0 | _ #",
		"a local of a frame that waits":      "/ 0 4 # | _ _ _ / 1 0 _ _ |",
		"the stack of a frame that waits":    "/ 0 4 v0 | _ # _ / 1 0 _ _ |",
		"a local of the last frame":          "/ 0 4 v0 | _ _ _ / 1 1 _ # | _",
		"the stack of the last frame":        "/ 0 4 v0 | _ _ _ / 1 2 _ _ | _ #",
		"the only field of a record":         "/ 0 0 r0 | * #",
		"the last field of a record":         "/ 0 0 r0 | * _ _ _ _ _ #",
		"a field of a record within another": "/ 0 0 r0 | * r1 * _ #",
		"a record that nobody reaches":       "/ 0 0 v0 | * _ * _ #",
	} {
		for _, by := range []struct {
			word  string
			taken []int
		}{{"v3", places(1)}, {"n3", places(0)}, {"3", places(0, 1)}, {"_", places(0, 1)}, {"v4", places(0, 1)}, {"n4", places(0, 1)}} {
			told := strings.Replace(form, "#", by.word, 1)
			ahead := "9 9\nconst v3 7\nnum n3 7\n"
			behind := "\nx0 pause / 0 0 v0 |\nx1 trap " + told
			mustIdle(t, name+" is "+by.word, unspelled(ahead+"exit x1"+behind), by.taken...)
			mustIdle(t, name+" is "+by.word+", of an exit that is one of two", unspelled(ahead+"safe x0\nexit x1"+behind), by.taken...)
			mustIdle(t, name+" is "+by.word+", of an exit that is X of no op", unspelled(ahead+"exit x0"+behind), 0, 1)
		}
	}
	// A source that is a record has a number, too.
	recs := strings.Repeat(" * _", 4)
	mustIdle(t, "a record of the same number", unspelled("9 9\nconst v3 7\nnum n3 7\nexit x0\nx0 trap / 0 1 r3 | r3"+recs+" r3"), 0, 1)
}

// Exit 0 is X of no op, if all that have one have another one: X of the ops that have none is 0 all the same.
func TestTheExitThatIsXOfNone(t *testing.T) {
	exits := "\nx0 trap / 0 2 v0 | v3 n3\nx1 pause / 0 0 v0 |"
	for _, line := range strings.Split("const v4 1;move v4 v0;num n4 1;movenum n4 n0;box v4 n0;same v4 v0 v0;lessn v4 n0 n0;make v4 1;jump 4;ret v0", ";") {
		c := unspelled("9 9\nconst v3 7\nnum n3 7\n" + line + "\nret v0\nexit x1" + exits)
		want := places(0, 1)
		if _, idles := idlersByLaw[c.Ops[2].Op]; idles {
			want = append(want, 2)
		}
		mustIdle(t, line, c, want...)
	}
	for _, line := range strings.Split("open n4 v0 x0;add v4 v0 v0 x0;not v4 v0 x0;addn n4 n0 n0 x0;new v4 0 x0;get v4 v0 0 x0;put 0 v0 v0 x0;made x0;isfun v0 0 x0;if v0 4 x0;safe x0;exit x0;print v0 x0;deep 1 x0", ";") {
		mustIdle(t, line, unspelled("9 9\nconst v3 7\nnum n3 7\n"+line+"\nret v0\nexit x1"+exits))
	}
	mustIdle(t, "one exit, and no op that has it", unspelled("9 9\nconst v3 7\nnum n3 7\nret v0\nx0 trap / 0 2 v0 | v3 n3"), 0, 1)
}

// An op that takes from its own register does not hold itself.
func TestOpsThatTakeFromTheirOwnRegister(t *testing.T) {
	for _, line := range []string{"move v3 v3", "same v3 v3 v0", "same v3 v0 v3", "same v3 v3 v3", "movenum n3 n3"} {
		val, register, other, behind := "const v3 1", "v3", "move v4 v3", "v4"
		if strings.HasPrefix(line, "movenum") {
			val, register, other, behind = "num n3 1", "n3", "movenum n4 n3", "n4"
		}
		end := "\nexit x0\nx0 trap / 0 0 v0 |"
		held := "\nexit x0\nx0 trap / 0 1 v0 | " + register
		mustIdle(t, line+" alone", unspelled("9 9\n"+line+end), 0)
		mustIdle(t, line+" and an exit", unspelled("9 9\n"+line+held))
		mustIdle(t, line+" and an exit that is X of no op", unspelled("9 9\n"+line+end+"\nx1 trap / 0 1 v0 | "+register), 0)
		mustIdle(t, line+" and another op", unspelled("9 9\n"+line+"\n"+other+end), 1)
		mustIdle(t, line+" and another op ahead", unspelled("9 9\n"+other+"\n"+line+end), 0)
		mustIdle(t, line+" and another op that is not idle", unspelled("9 9\n"+line+"\n"+other+"\nexit x0\nx0 trap / 0 1 v0 | "+behind))
		mustIdle(t, line+" twice", unspelled("9 9\n"+line+"\n"+line+end))
		mustIdle(t, line+" behind one with the same D", unspelled("9 9\n"+val+"\n"+line+end), 1)
		mustIdle(t, line+" ahead of one with the same D", unspelled("9 9\n"+line+"\n"+val+end), 0)
		mustIdle(t, line+" and one with the same D, and an exit", unspelled("9 9\n"+val+"\n"+line+held))
	}
	mustIdle(t, "not takes from its own, and may never be idle", unspelled("9 9\nnot v3 v3 x0\nexit x0\nx0 trap / 0 0 v0 |"))
	mustIdle(t, "a sum of its own holds what it is of", unspelled("9 9\nnum n3 1\naddn n3 n3 n3 x0\nexit x0\nx0 trap / 0 0 v0 |"))
}

func TestOpsThatTakeFromEachOther(t *testing.T) {
	end := "\nexit x0\nx0 trap / 0 0 v0 |"
	for name, code := range map[string]string{
		"two moves":                         "move v3 v4\nmove v4 v3",
		"two moves of numbers":              "movenum n3 n4\nmovenum n4 n3",
		"three moves":                       "move v3 v4\nmove v4 v5\nmove v5 v3",
		"two comparisons":                   "same v3 v4 v0\nsame v4 v0 v3",
		"a move and a comparison":           "move v3 v4\nsame v4 v3 v4",
		"two that write into one":           "move v3 v3\nsame v3 v3 v3",
		"one of which is never idle":        "not v3 v3 x0\nconst v3 1",
		"two moves, and what they take too": "move v3 v4\nmove v4 v3\nconst v4 1",
	} {
		mustIdle(t, name, unspelled("9 9\n"+code+end))
	}
	mustIdle(t, "one that takes from two that take from each other", unspelled("9 9\nmove v3 v4\nmove v4 v3\nmove v5 v3"+end), 2)
	mustIdle(t, "two with one D, of which none takes from it", unspelled("9 9\nconst v3 1\nmove v3 v0"+end), 0, 1)
	mustIdle(t, "two with one D, of which the one takes from it", unspelled("9 9\nconst v3 1\nmove v3 v3"+end), 1)
	mustIdle(t, "three with one D, of which two take from it", unspelled("9 9\nconst v3 1\nmove v3 v3\nsame v3 v3 v3"+end))
	mustIdle(t, "numbers are handed round through a value", unspelled("9 9\nbox v3 n3\nopen n3 v3 x0"+end))
}

// Ops count that one cannot come to, and those behind which one cannot.
func TestOpsThatNobodyComesTo(t *testing.T) {
	end := "\nexit x0\nx0 trap / 0 0 v0 |"
	mustIdle(t, "taken where nobody comes to", unspelled("9 9\nconst v3 1\nexit x0\nprint v3 x0"+end))
	mustIdle(t, "taken ahead of where it comes from", unspelled("9 9\nprint v3 x0\nconst v3 1"+end))
	mustIdle(t, "idle where nobody comes to", unspelled("9 9\njump 2\nconst v3 1"+end), 1)
	mustIdle(t, "an exit that nobody comes to", unspelled("9 9\nconst v3 1\nexit x0\nexit x1\nx0 trap / 0 0 v0 |\nx1 trap / 0 0 v3 |"))
	mustIdle(t, "a local", unspelled("9 9\nconst v0 1\nexit x0\nx0 trap / 0 0 _ |"), 0)
}
