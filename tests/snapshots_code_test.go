package tests

import (
	"fmt"
	"slices"
	"strings"
	"testing"

	"loop.example/g00094/impl"
)

// fullExitsWritten are the numbers of fullExits, an exit each.
var fullExitsWritten = []string{
	"1  0 0 0 0  1  0 9  3  2 0 0 0 0  2 1 0 0 0  2 2 0 0 0  2  2 3 0 0 0  3 1 0 0 0  0",
	"2  0 7 2 2  1  0 7  3  2 0 0 0 0  2 1 0 0 0  2 2 0 0 0  3  2 3 0 0 0  1 0 5 2 0  4 1 0 0 0" +
		"  2  0  6  2 4 0 0 0  3 4 0 0 0  4 0 0 0 0  1 0 0 0 0  1 0 1 -5 0  1 0 3 0 2 97 98",
	"3  0 0 0 0  4  0 8  3  2 0 0 0 0  3 0 0 0 0  1 0 2 1 0  1  2 3 0 0 0" +
		"  1 3  2  2 4 0 0 0  4 0 0 0 0  1  3 2 0 0 0" +
		"  2 3  1  4 1 0 0 0  0" +
		"  2 2  1  2 5 0 0 0  2  1 0 5 1 0  2 8 0 0 0" +
		"  2  1  4 1 0 0 0  2  4 0 0 0 0  4 1 0 0 0",
	"4  0 0 0 0  1  0 1  3  2 0 0 0 0  2 1 0 0 0  2 2 0 0 0  1  2 3 0 0 0  0",
}

// fullOpsWritten are the seven numbers of each op of fullCode, and its V.
var fullOpsWritten = []string{
	"25 0 0 0 3 0 5  0 0 0", "1 4 0 0 0 0 5  3 0 2 97 98", "2 5 4 0 0 0 5  0 0 0", "3 0 0 0 0 0 5  1 7 0", "4 1 0 0 0 0 5  0 0 0",
	"5 2 3 0 1 0 5  0 0 0", "6 6 2 0 0 0 5  0 0 0", "7 7 0 1 0 0 5  0 0 0", "8 7 8 1 0 0 5  0 0 0", "9 7 0 8 0 0 5  0 0 0",
	"10 8 7 0 0 0 5  0 0 0", "11 8 1 2 0 0 5  0 0 0", "12 8 8 0 0 0 5  0 0 0", "13 3 0 1 0 0 5  0 0 0", "14 4 4 1 0 0 5  0 0 0",
	"15 3 0 4 0 0 5  0 0 0", "16 8 3 4 0 0 5  0 0 0", "17 5 2 0 0 0 5  0 0 0", "18 4 5 1 0 0 5  0 0 0", "19 1 5 4 0 0 5  0 0 0",
	"20 0 0 0 0 0 5  0 0 0", "21 6 6 0 0 0 5  0 0 0", "22 0 4 2 1 0 5  0 0 0", "28 0 8 0 0 0 5  0 0 0", "29 0 1 0 2 0 5  0 0 0",
	"24 0 8 28 0 0 5  0 0 0", "26 0 0 0 2 0 5  0 0 0", "27 0 4 0 0 0 5  0 0 0", "23 0 0 0 0 0 5  0 0 0",
}

func TestCodeIsWrittenFieldByField(t *testing.T) {
	k, m := codes(), codeModule()
	ops, exits := strings.Join(fullOpsWritten, " "), strings.Join(fullExitsWritten, " ")
	k.mustBe(t, "full code", m, fullCode(), numbersIn("0 1 9 5  29", ops, "4", exits)...)
	without := fullCode()
	without.Ops = without.Ops[27:28]
	k.mustBe(t, "one op", m, without, numbersIn("0 1 9 5  1  27 0 4 0 0 0 5  0 0 0  4", exits)...)
	without.Exits = nil
	k.mustBe(t, "no exit", m, without, numbersIn("0 1 9 5  1  27 0 4 0 0 0 5  0 0 0  0")...)
	k.mustBe(t, "another function", m, retCode(2, 0, 12, 34), numbersIn("2 0 12 34  1  27 0 0 0 0 0 0  0 0 0  0")...)
	k.mustBe(t, "the most registers", m, retCode(1, 0, 400, 400), numbersIn("1 0 400 400  1  27 0 0 0 0 0 0  0 0 0  0")...)
	seven := onFullExits(impl.FOp{Op: 7, D: 6, A: 4, B: 5, X: 3, F: 1, P: 2}, impl.FOp{Op: 27, A: 8, F: 2, P: 3})
	k.mustBe(t, "seven numbers", m, seven, numbersIn("0 1 9 5  2  7 6 4 5 3 1 2  0 0 0  27 0 8 0 0 2 3  0 0 0  4", exits)...)
	none := impl.Fast{Ops: []impl.FOp{{Op: impl.FExit}}, Exits: []impl.Exit{{Kind: impl.ExPause, Frames: exFrames(exFrame(0, 0, nil, nil))}}}
	k.mustBe(t, "no register", one(nilIns, returnIns), none, numbersIn("0 0 0 0  1  26 0 0 0 0 0 0  0 0 0  1  4 0 0 0 0  1 0 0 0 0  0")...)
}

// Each exit by itself, and each of them twice.
func TestExitsAreWrittenFieldByField(t *testing.T) {
	k, m := codes(), codeModule()
	ahead := "0 1 9 5  1  27 0 0 0 0 0 0  0 0 0 "
	c := onFullExits(impl.FOp{Op: impl.FRet})
	for i, e := range fullExits() {
		c.Exits = []impl.Exit{e}
		k.mustBe(t, fmt.Sprint("exit ", i), m, c, numbersIn(ahead, "1", fullExitsWritten[i])...)
		c.Exits = []impl.Exit{e, e}
		k.mustBe(t, fmt.Sprint("exit ", i, " twice"), m, c, numbersIn(ahead, "2", fullExitsWritten[i], fullExitsWritten[i])...)
		for n, other := range fullExits() {
			c.Exits = []impl.Exit{other, e}
			k.mustBe(t, fmt.Sprint("exits ", n, " and ", i), m, c, numbersIn(ahead, "2", fullExitsWritten[n], fullExitsWritten[i])...)
		}
	}
	for _, s := range guards() {
		c := guardCode(s)
		want := numbersIn(ahead, "2  2", fmt.Sprint(s.Func, s.Pc, s.Kind, s.Target), strings.TrimPrefix(fullExitsWritten[1], "2  0 7 2 2"), fullExitsWritten[0])
		want[11] = 5
		k.mustBe(t, fmt.Sprint(s), m, c, want...)
	}
	for _, s := range noGuards() {
		k.mustNotBeWritten(t, fmt.Sprint(s), m, guardCode(s))
	}
}

// exitOf is code with one exit, in whose first frame the last source is s, and so are the fields of its record.
func exitOf(kind int, s impl.Src) impl.Fast {
	c := retCode(0, 0, 9, 5)
	f := exFrame(0, 1, srcs(valSrc(0), valSrc(1), s), srcs(s))
	c.Exits = []impl.Exit{{Kind: kind, Frames: exFrames(f), Recs: exRecs(exRec(s, s))}}
	return c
}

func TestSourcesAreWritten(t *testing.T) {
	k, m := codes(), codeModule()
	list := map[string]impl.Src{"2 0 0 0 0": valSrc(0), "2 8 0 0 0": valSrc(8), "3 0 0 0 0": numSrc(0), "3 4 0 0 0": numSrc(4), "4 0 0 0 0": recSrc(0)}
	for word, v := range valuesWritten() {
		if v.Kind != impl.VRec {
			list["1 0 "+word] = constSrc(v)
		}
	}
	for word, s := range list {
		for _, kind := range []int{1, 3, 4} {
			want := numbersIn("0 0 9 5  1  27 0 0 0 0 0 0  0 0 0  1", fmt.Sprint(kind), "0 0 0 0  1  0 1  3  2 0 0 0 0  2 1 0 0 0", word, "1", word, "1  2", word, word)
			k.mustBe(t, word, m, exitOf(kind, s), want...)
		}
	}
	wrong := []impl.Src{valSrc(-1), valSrc(9), numSrc(-1), numSrc(5), recSrc(-1), recSrc(1), constSrc(rec(0)), {}, {Kind: 5}, {Kind: -1}, {Kind: 1, N: 1},
		{Kind: 2, V: num(0)}, {Kind: 2, V: text("")}, {Kind: 3, V: impl.Value{N: 1}}, {Kind: 4, V: impl.Value{S: "a"}}}
	for _, v := range valuesThatAreNone() {
		wrong = append(wrong, constSrc(v))
	}
	for _, s := range wrong {
		for kind := range 5 {
			k.mustNotBeWritten(t, fmt.Sprint(s), m, exitOf(kind, s))
		}
	}
}

// constCode has a text, a number or another value of its own in its first op.
func constCode(op int, v impl.Value) impl.Fast {
	c := retCode(0, 0, 9, 5)
	c.Ops = []impl.FOp{{Op: op, D: 3, P: 1, V: v}, {Op: impl.FRet, A: 3}}
	return c
}

func TestConstantsAreWritten(t *testing.T) {
	k, m := codes(), codeModule()
	for word, v := range valuesWritten() {
		for _, op := range []int{impl.FConst, impl.FNum} {
			c := constCode(op, v)
			if op == impl.FConst && v.Kind != impl.VRec || v.Kind == impl.VInt {
				k.mustBe(t, word, m, c, numbersIn("0 0 9 5  2", fmt.Sprint(op), "3 0 0 0 0 1", word, "27 0 3 0 0 0 0  0 0 0  0")...)
			} else {
				k.mustNotBeWritten(t, word, m, c)
			}
		}
	}
	for word, v := range valuesThatAreNone() {
		k.mustNotBeWritten(t, word, m, constCode(impl.FConst, v))
		k.mustNotBeWritten(t, word, m, constCode(impl.FNum, v))
	}
	// The other ops have none.
	for _, v := range valuesWritten() {
		if v == (impl.Value{}) {
			continue
		}
		for op := range 30 {
			x := rowOp(op)
			x.V = v
			want := op == impl.FConst && v.Kind != impl.VRec || op == impl.FNum && v.Kind == impl.VInt
			codes().checkBothWays(t, m, rowCode(x), want)
		}
	}
}

// Each byte in the text of an op, and in that of a source.
func TestBytesOfCode(t *testing.T) {
	k, m := codes(), codeModule()
	for b := range 256 {
		for _, s := range []string{string([]byte{byte(b)}), string([]byte{97, byte(b)}), string([]byte{byte(b), 97})} {
			ofOp := withBytes(numbersIn("0 0 9 5  2  1 3 0 0 0 0 1  3 0"), s, numbersIn("27 0 3 0 0 0 0  0 0 0  0"))
			if within(b, 32, 126) && b != 34 {
				k.mustBe(t, s, m, constCode(impl.FConst, text(s)), ofOp...)
				k.check(t, m, exitOf(impl.ExTrap, constSrc(text(s))))
				continue
			}
			k.mustNotBeWritten(t, s, m, constCode(impl.FConst, text(s)))
			k.mustNotBeWritten(t, s, m, exitOf(impl.ExTrap, constSrc(text(s))))
			k.mustNotBeRead(t, s, m, ofOp)
		}
	}
	for _, n := range wrongBytes() {
		k.mustNotBeRead(t, fmt.Sprint("byte ", n), m, slices.Concat(numbersIn("0 0 9 5  2  1 3 0 0 0 0 1  3 0 1"), []int{n}, numbersIn("27 0 3 0 0 0 0  0 0 0  0")))
		k.mustNotBeRead(t, fmt.Sprint("byte ", n), m, slices.Concat(numbersIn("0 0 9 5  2  1 3 0 0 0 0 1  3 0 2 97"), []int{n}, numbersIn("27 0 3 0 0 0 0  0 0 0  0")))
		list := k.told(exitOf(impl.ExTrap, constSrc(text("~"))))
		for i, was := range list {
			if was == '~' {
				wrong := slices.Clone(list)
				wrong[i] = n
				k.mustNotBeRead(t, fmt.Sprint("byte ", n, " at ", i), m, wrong)
			}
		}
	}
}

func TestLengthsOfTextsOfCode(t *testing.T) {
	k, m := codes(), codeModule()
	for _, n := range []int{0, 1, 2, 59, 60, 61, 62, 120, 256, 316, 1000} {
		for _, c := range []impl.Fast{constCode(impl.FConst, text(xs(n))), exitOf(impl.ExPause, constSrc(text(xs(n))))} {
			if n <= 60 {
				k.mustBe(t, fmt.Sprint(n, " bytes"), m, c, fastTold(c)...)
			} else {
				k.mustNotBeWritten(t, fmt.Sprint(n, " bytes"), m, c)
			}
		}
	}
}

// greatestExit has as many frames, records and fields as an exit can have, with texts of MaxText bytes.
func greatestExit() impl.Exit {
	e := fullExits()[2]
	e.Recs = nil
	for range impl.MaxRecs {
		e.Recs = append(e.Recs, exRec(slices.Repeat(srcs(constSrc(text(xs(60)))), impl.MaxFields)...))
	}
	return e
}

func TestTheGreatestCode(t *testing.T) {
	k, m := codes(), codeModule()
	c := onFullExits(slices.Repeat([]impl.FOp{fop(impl.FRet, 0, 8, 0, 0)}, impl.MaxOps)...)
	c.Exits = slices.Repeat([]impl.Exit{fullExits()[0]}, impl.MaxOps-3)
	c.Exits = append(c.Exits, greatestExit(), greatestExit(), greatestExit())
	k.mustBe(t, "the greatest", m, c, fastTold(c)...)
	for name, do := range map[string]func(c *impl.Fast){
		"an op more":     func(c *impl.Fast) { c.Ops = append(c.Ops, c.Ops[0]) },
		"an exit more":   func(c *impl.Fast) { c.Exits = append(c.Exits, fullExits()[0]) },
		"a frame more":   func(c *impl.Fast) { e := &c.Exits[1499]; e.Frames = slices.Insert(e.Frames, 2, e.Frames[1]) },
		"a record more":  func(c *impl.Fast) { e := &c.Exits[1499]; e.Recs = append(e.Recs, exRec()) },
		"a field more":   func(c *impl.Fast) { x := &c.Exits[1499].Recs[59]; x.Fields = append(x.Fields, valSrc(0)) },
		"a value more":   func(c *impl.Fast) { f := &c.Exits[1499].Frames[3]; f.Stack = append(f.Stack, valSrc(0)) },
		"a register off": func(c *impl.Fast) { c.Vals = 8 },
	} {
		wrong := cloneFast(c)
		do(&wrong)
		k.mustNotBeWritten(t, name, m, wrong)
	}
}
