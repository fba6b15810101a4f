package tests

import (
	"fmt"
	"math"
	"regexp"
	"slices"
	"strconv"
	"strings"
	"testing"

	"loop.example/g00094/impl"
)

// wordsInOrder are the words of the Ops, from 1 on.
var wordsInOrder = strings.Fields("int bool text nil fun load store dup drop swap add sub mul less same not jump if ifnot new get put call invoke return print")

// wordsAlone are those of the Ops whose A is always 0.
var wordsAlone = strings.Fields("nil dup drop swap add sub mul less same not return print")

// lineOf is an instruction's line, without its end; what is no Op has the word op, and an A that may not be is told.
func lineOf(x impl.Ins) string {
	word := "op"
	if x.Op >= 1 && x.Op <= len(wordsInOrder) {
		word = wordsInOrder[x.Op-1]
	}
	if slices.Contains(wordsAlone, word) && x.A == 0 {
		return "  " + word
	}
	return fmt.Sprintf("  %s %d", word, x.A)
}

// linesOf are the lines of a module, ok or not, without their ends.
func linesOf(m impl.Module) []string {
	var lines []string
	for _, text := range m.Texts {
		lines = append(lines, "text \""+text+"\"")
	}
	for _, f := range m.Funcs {
		lines = append(lines, fmt.Sprintf("func %d %d", f.Params, f.Locals))
		for _, x := range f.Code {
			lines = append(lines, lineOf(x))
		}
	}
	return lines
}

// joined is a text of these lines.
func joined(lines []string) string {
	out := ""
	for _, line := range lines {
		out += line + "\n"
	}
	return out
}

// shown is what ShowModule would give if it did not ask whether the module is ok.
func shown(m impl.Module) string { return joined(linesOf(m)) }

func TestInsTextOfEachOp(t *testing.T) {
	if len(wordsInOrder) != 26 || len(wordsAlone) != 12 {
		t.Fatal("the table of words")
	}
	for i, word := range wordsInOrder {
		for _, a := range []int{0, 1, -1, 7, 10, 1000000000, -1000000000, math.MaxInt, math.MinInt} {
			want := word
			if !slices.Contains(wordsAlone, word) {
				want += " " + strconv.Itoa(a)
			}
			if x := impl.InsText(ins(i+1, a)); x != want {
				t.Errorf("Op %d with A %d: %q, not %q", i+1, a, x, want)
			}
		}
	}
}

func TestInsTextAtTheEndsOfEachRow(t *testing.T) {
	for f := range sample().Funcs {
		for _, x := range tableOf(sample(), f) {
			for _, a := range []int{x.least, x.most} {
				if text := impl.InsText(ins(x.op, a)); "  "+text != lineOf(ins(x.op, a)) {
					t.Errorf("Op %d with A %d: %q", x.op, a, text)
				}
			}
		}
	}
}

func TestInsTextOfNoOp(t *testing.T) {
	for _, op := range []int{0, -1, -26, 27, 28, 257, math.MinInt, math.MaxInt} {
		for _, a := range []int{0, 1, -1} {
			if x := impl.InsText(ins(op, a)); x != "" {
				t.Errorf("Op %d: %q", op, x)
			}
		}
	}
}

// everyOp has each Op once, in order, with the greatest A that there is for it.
func everyOp() impl.Module {
	m := impl.Module{Texts: []string{"", " ", "a  b ", "~"}, Funcs: []impl.Func{{Params: 6, Locals: 12, Code: nils(26)}, {Code: nils(1)}}}
	for _, x := range tableOf(m, 0) {
		m.Funcs[0].Code[x.op-1] = ins(x.op, x.most)
	}
	return m
}

const everyOpShown = `text ""
text " "
text "a  b "
text "~"
func 6 12
  int 1000000000
  bool 1
  text 3
  nil
  fun 1
  load 11
  store 11
  dup
  drop
  swap
  add
  sub
  mul
  less
  same
  not
  jump 25
  if 25
  ifnot 25
  new 6
  get 5
  put 5
  call 6
  invoke 1
  return
  print
func 0 0
  nil
`

const sampleShown = `text ""
text "ab"
text " !#~"
func 1 4
  int -65
  text 2
  jump 4
  nil
  return
func 0 2
  fun 1
  store 1
  return
`

// checkBothWays asks that m is shown as text, and read from it.
func checkBothWays(t *testing.T, m impl.Module, text string) {
	t.Helper()
	if x := impl.ShowModule(m); x != text {
		t.Fatalf("%v: shown as %q, not %q", m, x, text)
	}
	x, ok := impl.ReadModule(text)
	if !ok || !sameModule(x, m) {
		t.Fatalf("%q: read as %v, %v, not %v", text, x, ok, m)
	}
	if again := impl.ShowModule(x); again != text {
		t.Fatalf("%q: shown again as %q", text, again)
	}
}

func TestModulesWrittenOut(t *testing.T) {
	checkBothWays(t, sample(), sampleShown)
	checkBothWays(t, everyOp(), everyOpShown)
	checkBothWays(t, one(ins(impl.OpInt, -1000000000)), "func 0 0\n  int -1000000000\n")
	checkBothWays(t, one(ins(impl.OpInt, 0), ins(impl.OpBool, 0)), "func 0 0\n  int 0\n  bool 0\n")
}

func TestModulesShownAndRead(t *testing.T) {
	for _, m := range manyModules() {
		checkBothWays(t, m, shown(m))
	}
}

func TestTextsOfEachLimit(t *testing.T) {
	for _, x := range limitsOfModules() {
		checkBothWays(t, x.at, shown(x.at))
		if text := impl.ShowModule(x.past); text != "" {
			t.Errorf("%s: passed, and shown as %q", x.name, text)
		}
		m, ok := impl.ReadModule(shown(x.past))
		mustBeZero(t, x.name, m, ok)
	}
}

func TestTextsOfEachInstruction(t *testing.T) {
	for _, c := range changedSamples() {
		if c.ok {
			checkBothWays(t, c.m, shown(c.m))
			continue
		}
		if text := impl.ShowModule(c.m); text != "" {
			t.Errorf("%v: shown as %q", c.x, text)
		}
		y, ok := impl.ReadModule(shown(c.m))
		mustBeZero(t, shown(c.m), y, ok)
	}
}

func TestTextsThatModulesHave(t *testing.T) {
	for _, text := range []string{"", " ", "  ", " a", "a ", "a b", "  a  b  ", "~", " ~", "func 0 0", "  nil", "text ", "text 0", "\\", "\\n", "%d", "'", strings.Repeat(" ", 60), strings.Repeat("~", 60)} {
		m := withTexts(text, text)
		checkBothWays(t, m, shown(m))
	}
}

func TestTextsOfEachByte(t *testing.T) {
	for c := range 256 {
		letter := string([]byte{byte(c)})
		for _, text := range []string{letter, letter + "ab", "a" + letter + "b", "ab" + letter} {
			m := withTexts("first", text, "last")
			if c >= 32 && c <= 126 && c != 34 {
				checkBothWays(t, m, shown(m))
				continue
			}
			if x := impl.ShowModule(m); x != "" {
				t.Errorf("byte %d: shown as %q", c, x)
			}
			x, ok := impl.ReadModule(shown(m))
			mustBeZero(t, shown(m), x, ok)
		}
	}
}

func TestTextsOfModulesThatAreNotOk(t *testing.T) {
	for name, m := range wrongModules() {
		if text := impl.ShowModule(m); text != "" {
			t.Errorf("%s: shown as %q", name, text)
		}
		x, ok := impl.ReadModule(shown(m))
		mustBeZero(t, name, x, ok)
	}
}

// wrongTexts are shown by no module.
func wrongTexts() map[string]string {
	return map[string]string{
		"nothing":                            "",
		"an end of line alone":               "\n",
		"a blank":                            " ",
		"no end of the last line":            "func 0 0\n  nil",
		"no end of the only line":            "func 0 0",
		"no end of a text's line":            "text \"a\"",
		"an empty line ahead":                "\nfunc 0 0\n  nil\n",
		"an empty line between":              "func 0 0\n\n  nil\n",
		"an empty line behind":               "func 0 0\n  nil\n\n",
		"an empty line behind a text":        "text \"a\"\n\nfunc 0 0\n  nil\n",
		"lines that end with 13 and 10":      "func 0 0\r\n  nil\r\n",
		"lines that end with 13":             "func 0 0\r  nil\r",
		"a byte order mark":                  "\ufefffunc 0 0\n  nil\n",
		"a function without code":            "func 0 0\n",
		"a later function without code":      "func 0 0\n  nil\nfunc 0 0\n",
		"a first function without code":      "func 0 0\nfunc 0 0\n  nil\n",
		"texts alone":                        "text \"a\"\n",
		"a text behind a function's line":    "func 0 0\ntext \"a\"\n  nil\n",
		"a text behind code":                 "func 0 0\n  nil\ntext \"a\"\n",
		"a text between functions":           "func 0 0\n  nil\ntext \"a\"\nfunc 0 0\n  nil\n",
		"an instruction ahead":               "  nil\nfunc 0 0\n  nil\n",
		"an instruction alone":               "  nil\n",
		"an instruction behind a text":       "text \"a\"\n  nil\nfunc 0 0\n  nil\n",
		"no blank ahead":                     "func 0 0\nnil\n",
		"one blank ahead":                    "func 0 0\n nil\n",
		"three blanks ahead":                 "func 0 0\n   nil\n",
		"a tab ahead":                        "func 0 0\n\tnil\n",
		"two tabs ahead":                     "func 0 0\n\t\tnil\n",
		"other blanks ahead":                 "func 0 0\n\u00a0\u00a0nil\n",
		"a blank behind a word":              "func 0 0\n  nil \n",
		"a blank behind an A":                "func 0 0\n  int 1 \n",
		"two blanks ahead of an A":           "func 0 0\n  int  1\n",
		"no blank ahead of an A":             "func 0 0\n  int1\n",
		"a tab ahead of an A":                "func 0 0\n  int\t1\n",
		"two As":                             "func 0 0\n  int 1 1\n",
		"a blank and no A":                   "func 0 0\n  int \n",
		"no A":                               "func 0 0\n  int\n",
		"no A of a jump":                     "func 0 0\n  jump\n",
		"no A of a call":                     "func 0 0\n  call\n",
		"an A of nil":                        "func 0 0\n  nil 0\n",
		"an A of print":                      "func 0 0\n  print 0\n",
		"an A that is no number":             "func 0 0\n  int x\n",
		"an A that is a word":                "func 0 0\n  int nil\n",
		"a nought ahead":                     "func 0 0\n  int 01\n",
		"noughts alone":                      "func 0 0\n  int 00\n",
		"a nought ahead below 0":             "func 0 0\n  int -01\n",
		"a + ahead":                          "func 0 0\n  int +1\n",
		"a + ahead of 0":                     "func 0 0\n  int +0\n",
		"-0":                                 "func 0 0\n  int -0\n",
		"- alone":                            "func 0 0\n  int -\n",
		"- twice":                            "func 0 0\n  int --1\n",
		"a - behind":                         "func 0 0\n  int 1-\n",
		"digits parted":                      "func 0 0\n  int 1_0\n",
		"sixteens":                           "func 0 0\n  int 0x1\n",
		"a part of a number":                 "func 0 0\n  int 1.0\n",
		"digits of another script":           "func 0 0\n  int \u0661\n",
		"a number that leaves 64 bits":       "func 0 0\n  int 9223372036854775808\n",
		"one that leaves them below 0":       "func 0 0\n  int -9223372036854775809\n",
		"one that wraps round to 1":          "func 0 0\n  int 18446744073709551617\n",
		"one of 100 digits":                  "func 0 0\n  int " + strings.Repeat("1", 100) + "\n",
		"the greatest number of 64 bits":     "func 0 0\n  int 9223372036854775807\n",
		"the least number of 64 bits":        "func 0 0\n  int -9223372036854775808\n",
		"one past MaxNum":                    "func 0 0\n  int 1000000001\n",
		"one below -MaxNum":                  "func 0 0\n  int -1000000001\n",
		"a word that is none":                "func 0 0\n  noop\n",
		"a word in capitals":                 "func 0 0\n  NIL\n",
		"a beginning of a word":              "func 0 0\n  ni\n",
		"a word that goes on":                "func 0 0\n  nill\n",
		"no word":                            "func 0 0\n  \n",
		"no word, and an A":                  "func 0 0\n   1\n",
		"a number as a word":                 "func 0 0\n  4\n",
		"a byte 0 behind a word":             "func 0 0\n  nil\x00\n",
		"letters that are not UTF-8":         "func 0 0\n  \xffnil\n",
		"a function as an instruction":       "func 0 0\n  func 0 0\n",
		"func in capitals":                   "Func 0 0\n  nil\n",
		"func alone":                         "func\n  nil\n",
		"func with one number":               "func 0\n  nil\n",
		"func with three numbers":            "func 0 0 0\n  nil\n",
		"two blanks behind func":             "func  0 0\n  nil\n",
		"two blanks ahead of Locals":         "func 0  0\n  nil\n",
		"a blank behind Locals":              "func 0 0 \n  nil\n",
		"a blank ahead of func":              " func 0 0\n  nil\n",
		"no blank behind func":               "func0 0\n  nil\n",
		"a nought ahead of Params":           "func 00 0\n  nil\n",
		"a + ahead of Locals":                "func 0 +1\n  nil\n",
		"-0 for Params":                      "func -0 0\n  nil\n",
		"-0 for Locals":                      "func 0 -0\n  nil\n",
		"Params that leave 64 bits":          "func 18446744073709551616 0\n  nil\n",
		"Locals that leave 64 bits":          "func 0 18446744073709551616\n  nil\n",
		"Params that are no number":          "func a 0\n  nil\n",
		"a text without its first quotes":    "text a\"\nfunc 0 0\n  nil\n",
		"a text without its last quotes":     "text \"a\nfunc 0 0\n  nil\n",
		"a text of one byte 34":              "text \"\nfunc 0 0\n  nil\n",
		"a text of three bytes 34":           "text \"\"\"\nfunc 0 0\n  nil\n",
		"a text without quotes":              "text a\nfunc 0 0\n  nil\n",
		"a text that is none":                "text\nfunc 0 0\n  nil\n",
		"two blanks ahead of a text":         "text  \"a\"\nfunc 0 0\n  nil\n",
		"no blank ahead of a text":           "text\"a\"\nfunc 0 0\n  nil\n",
		"a blank behind a text":              "text \"a\" \nfunc 0 0\n  nil\n",
		"a blank ahead of a text's line":     " text \"a\"\nfunc 0 0\n  nil\n",
		"two blanks ahead of a text's line":  "  text \"a\"\nfunc 0 0\n  nil\n",
		"two texts in a line":                "text \"a\" \"b\"\nfunc 0 0\n  nil\n",
		"a text of two lines":                "text \"a\nb\"\nfunc 0 0\n  nil\n",
		"a text with a byte 9":               "text \"\t\"\nfunc 0 0\n  nil\n",
		"a text with a byte 127":             "text \"\x7f\"\nfunc 0 0\n  nil\n",
		"a text that is not ASCII":           "text \"\u00e4\"\nfunc 0 0\n  nil\n",
		"a text that is not UTF-8":           "text \"\xff\"\nfunc 0 0\n  nil\n",
		"a text of 61 bytes":                 "text \"" + strings.Repeat("a", 61) + "\"\nfunc 0 0\n  nil\n",
		"a text named that is not there":     "func 0 0\n  text 0\n",
		"a function named that is not there": "func 0 0\n  fun 1\n",
		"a local that is not there":          "func 0 0\n  load 0\n",
		"a jump out of the function":         "func 0 0\n  jump 1\nfunc 0 0\n  nil\n  nil\n",
		"a field that is not there":          "func 0 0\n  get 6\n",
		"fewer Locals than Params":           "func 2 1\n  nil\n",
		"Params below 0":                     "func -1 0\n  nil\n",
	}
}

func TestReadModuleOfWrongTexts(t *testing.T) {
	for name, text := range wrongTexts() {
		m, ok := impl.ReadModule(text)
		mustBeZero(t, name, m, ok)
	}
}

var (
	textLine = regexp.MustCompile(`^text "([^"]*)"$`)
	funcLine = regexp.MustCompile(`^func (0|-?[1-9][0-9]*) (0|-?[1-9][0-9]*)$`)
	argLine  = regexp.MustCompile(`^  ([a-z]+) (0|-?[1-9][0-9]*)$`)
	bareLine = regexp.MustCompile(`^  ([a-z]+)$`)
)

// readByLaw says what ReadModule must, by the form of each line.
func readByLaw(text string) (impl.Module, bool) {
	m := impl.Module{}
	wrong := !strings.HasSuffix(text, "\n")
	number := func(s string) int {
		n, err := strconv.Atoi(s)
		wrong = wrong || err != nil
		return n
	}
	add := func(word string, a int, alone bool) {
		op := slices.Index(wordsInOrder, word) + 1
		if op == 0 || slices.Contains(wordsAlone, word) != alone || len(m.Funcs) == 0 {
			wrong = true
			return
		}
		f := &m.Funcs[len(m.Funcs)-1]
		f.Code = append(f.Code, ins(op, a))
	}
	for _, line := range strings.Split(strings.TrimSuffix(text, "\n"), "\n") {
		if x := textLine.FindStringSubmatch(line); x != nil && len(m.Funcs) == 0 {
			m.Texts = append(m.Texts, x[1])
		} else if x := funcLine.FindStringSubmatch(line); x != nil {
			m.Funcs = append(m.Funcs, impl.Func{Params: number(x[1]), Locals: number(x[2])})
		} else if x := argLine.FindStringSubmatch(line); x != nil {
			add(x[1], number(x[2]), false)
		} else if x := bareLine.FindStringSubmatch(line); x != nil {
			add(x[1], 0, true)
		} else {
			wrong = true
		}
	}
	if wrong || !impl.ModuleOk(m) {
		return impl.Module{}, false
	}
	return m, true
}

// checkRead holds what ReadModule answers against the law, and asks that what is read is shown so.
func checkRead(t *testing.T, text string) {
	t.Helper()
	want, wantOk := readByLaw(text)
	m, ok := impl.ReadModule(text)
	if ok != wantOk || !sameModule(m, want) {
		t.Fatalf("%q: read as %v, %v, not %v, %v", text, m, ok, want, wantOk)
	}
	if again := impl.ShowModule(m); ok && again != text || !ok && again != "" {
		t.Fatalf("%q: shown again as %q", text, again)
	}
}

func TestReadModuleWithEachByteChanged(t *testing.T) {
	for _, m := range append(someModules(), everyOp()) {
		text := shown(m)
		for i := range len(text) {
			for c := range 256 {
				checkRead(t, text[:i]+string([]byte{byte(c)})+text[i+1:])
			}
			for _, c := range "\n \"-+0159Aa~\u00e4" {
				checkRead(t, text[:i]+string(c)+text[i:])
			}
			checkRead(t, text[:i]+text[i+1:])
			checkRead(t, text[:i])
			checkRead(t, text[i:])
		}
		checkRead(t, text+text)
	}
}

func TestReadModuleWithLinesMoved(t *testing.T) {
	for _, m := range append(someModules(), everyOp()) {
		lines := linesOf(m)
		for i := range lines {
			checkRead(t, joined(slices.Delete(slices.Clone(lines), i, i+1)))
			for j := range lines {
				checkRead(t, joined(slices.Insert(slices.Clone(lines), i, lines[j])))
				swapped := slices.Clone(lines)
				swapped[i], swapped[j] = swapped[j], swapped[i]
				checkRead(t, joined(swapped))
			}
		}
	}
}

func FuzzReadModule(f *testing.F) {
	for _, m := range append(someModules(), everyOp(), greatest()) {
		f.Add(shown(m))
	}
	for _, text := range wrongTexts() {
		f.Add(text)
	}
	f.Fuzz(checkRead)
}
