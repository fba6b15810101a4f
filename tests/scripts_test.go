package tests

import (
	"fmt"
	"math"
	"slices"
	"strings"
	"testing"

	"loop.example/g00094/impl"
)

func TestNumbersOfScripts(t *testing.T) {
	if impl.MaxActs != 60 {
		t.Error(impl.MaxActs)
	}
}

const everyActWritten = `run 0
run 500
tier 0 0 made
tier 11 3 bare
tier 1 2 made
loop 0 0 0 made
loop 11 119 3 bare
loop 1 2 3 made
drop 0
drop 11
forge
forge 0 0 0 0
forge 1 2 3 4
forge 9 8 7 6 5 4 3 2
forge -1 -2 -3 -4 10 200 3000 -50000
run 7
`

// everyAct has acts of each Kind, in no order, with numbers that are unlike each other.
func everyAct() []impl.Act {
	return acts(runAct(0), runAct(500), tierAct(0, 0, false), tierAct(11, 3, true), tierAct(1, 2, false), loopAct(0, 0, 0, false),
		loopAct(11, 119, 3, true), loopAct(1, 2, 3, false), dropAct(0), dropAct(11), forgeAct(), forgeAct(site(0, 0, 0, 0)), forgeAct(site(1, 2, 3, 4)),
		forgeAct(site(9, 8, 7, 6), site(5, 4, 3, 2)), forgeAct(site(-1, -2, -3, -4), site(10, 200, 3000, -50000)), runAct(7))
}

func TestScriptsWrittenOut(t *testing.T) {
	mustBeRead(t, everyActWritten, everyAct()...)
	mustBeRead(t, "run 5\n", runAct(5))
	mustBeRead(t, "forge\n", forgeAct())
	mustBeRead(t, "run 0\n", forgeless(runAct(0)))
	mustBeRead(t, "loop 10 20 3 bare\ntier 10 2 made\n", loopAct(10, 20, 3, true), tierAct(10, 2, false))
	mustBeRead(t, "tier 10 2 made\nloop 10 20 3 bare\n", tierAct(10, 2, false), loopAct(10, 20, 3, true))
	mustBeRead(t, "drop 3\ndrop 3\ndrop 3\n", dropAct(3), dropAct(3), dropAct(3))
	for i, line := range strings.SplitAfter(strings.TrimSuffix(everyActWritten, "\n"), "\n") {
		mustBeRead(t, strings.TrimSuffix(line, "\n")+"\n", everyAct()[i])
	}
}

// forgeless is a with a list of Sites that is empty, not nil.
func forgeless(a impl.Act) impl.Act {
	a.Sites = []impl.Site{}
	return a
}

func TestScriptsWithoutActs(t *testing.T) {
	for _, none := range [][]impl.Act{nil, {}, make([]impl.Act, 0, 9), everyAct()[:0]} {
		if text := impl.ScriptText(none); text != "" {
			t.Errorf("no act is written as %q", text)
		}
	}
	list, ok := impl.ReadScript("")
	if !ok || len(list) != 0 {
		t.Errorf("nothing is read as %+v, %v", list, ok)
	}
}

// Each act alone, and among others.
func TestScriptTextOfEachKind(t *testing.T) {
	written := 0
	actsAtEdges(func(x impl.Act) {
		checkScript(t, acts(x))
		checkScript(t, acts(runAct(1), x, dropAct(2)))
		if impl.ScriptText(acts(x)) != "" {
			written++
		}
	})
	if written != oksAtEdges {
		t.Errorf("%d acts are written", written)
	}
}

// All acts that there are of the first four Kinds, in scripts of MaxActs acts.
func TestScriptsOfAllActs(t *testing.T) {
	var all []impl.Act
	for n := range 501 {
		all = append(all, runAct(n))
	}
	for f := range 12 {
		all = append(all, dropAct(f))
		for lay := range 4 {
			for _, bare := range []bool{false, true} {
				all = append(all, tierAct(f, lay, bare))
				for entry := range 120 {
					all = append(all, loopAct(f, entry, lay, bare))
				}
			}
		}
	}
	for list := range slices.Chunk(all, impl.MaxActs) {
		checkScript(t, list)
		mustBeRead(t, actLines(list), list...)
	}
}

func TestScriptsWithSites(t *testing.T) {
	numbers := []int{0, 1, -1, 7, 10, 99, 100, -100, impl.MaxNum, -impl.MaxNum, impl.MaxNum + 1, math.MaxInt32 + 1, math.MaxInt, math.MinInt, math.MaxInt - 1, math.MinInt + 1}
	for _, n := range numbers {
		mustBeRead(t, fmt.Sprintf("forge %d 0 0 0\n", n), forgeAct(site(n, 0, 0, 0)))
		mustBeRead(t, fmt.Sprintf("forge 0 %d 0 0\n", n), forgeAct(site(0, n, 0, 0)))
		mustBeRead(t, fmt.Sprintf("forge 0 0 %d 0\n", n), forgeAct(site(0, 0, n, 0)))
		mustBeRead(t, fmt.Sprintf("forge 0 0 0 %d\n", n), forgeAct(site(0, 0, 0, n)))
		mustBeRead(t, fmt.Sprintf("forge 1 2 3 4 %d 6 7 8\n", n), forgeAct(site(1, 2, 3, 4), site(n, 6, 7, 8)))
	}
	for _, n := range []int{0, 1, 2, 3, 149, 150} {
		list := allSums(n, 3)
		checkScript(t, acts(forgeAct(list...), runAct(n), forgeAct(list...)))
		if text := impl.ScriptText(acts(forgeAct(list...))); strings.Count(text, " ") != 4*n || strings.Count(text, "\n") != 1 {
			t.Errorf("%d Sites are written as %q", n, text)
		}
	}
	// In whatever order they are, also twice: a script hangs on no module.
	back := allSums(150, 2)
	slices.Reverse(back)
	for _, list := range [][]impl.Site{back, slices.Repeat(sites(site(3, 3, 3, 3)), 150), sites(site(0, 5, 9, -9), site(0, 5, 9, -9))} {
		mustBeRead(t, actLines(acts(forgeAct(list...))), forgeAct(list...))
	}
	for _, n := range []int{151, 152, 1000, 100000} {
		for _, list := range [][]impl.Act{acts(forgeAct(make([]impl.Site, n)...)), acts(forgeAct(), forgeAct(make([]impl.Site, n)...), runAct(1))} {
			checkScript(t, list)
			mustNotBeRead(t, fmt.Sprint(n, " Sites"), actLines(list))
		}
	}
}

func TestScriptsOfMaxActsAndOneMore(t *testing.T) {
	for _, a := range append(greatestActs(), everyAct()...) {
		for _, n := range []int{1, 2, 58, 59, 60, 61, 62, 120, 1000} {
			list := slices.Repeat(acts(a), n)
			checkScript(t, list)
			if got := impl.ScriptText(list) != ""; got != (n <= 60) {
				t.Errorf("%d acts are written: %v", n, got)
			}
			if checkReadScript(t, actLines(list)) != (n <= 60) {
				t.Errorf("%d acts are read: %v", n, n > 60)
			}
		}
	}
	// The last line of too many may be any, also one that is none.
	full := actLines(slices.Repeat(everyAct(), 4)[:60])
	mustBeRead(t, full, slices.Repeat(everyAct(), 4)[:60]...)
	for _, line := range []string{"run 0\n", "forge\n", "\n", " ", "halt\n", "run 5"} {
		mustNotBeRead(t, "a line too many", full+line)
		mustNotBeRead(t, "a line too many", line+full)
	}
}

func TestScriptTextOfActsThatAreNotOk(t *testing.T) {
	wrong := wrongActs()
	for _, most := range greatestActs() {
		a, b, lay, one := most, most, most, most
		a.A, b.B, lay.Lay, one.Sites = a.A+1, b.B+1, lay.Lay+1, make([]impl.Site, len(one.Sites)+1)
		wrong = append(wrong, a, b, lay, one)
	}
	for _, a := range wrong {
		for _, n := range []int{1, 2, 3, 16, 59, 60, 61} {
			list := slices.Repeat(everyAct(), 4)[:n]
			for at := range n {
				was := list[at]
				list[at] = a
				if text := impl.ScriptText(list); text != "" {
					t.Errorf("%+v as act %d of %d: written as %q", a, at, n, text)
				}
				list[at] = was
			}
			checkScript(t, list)
		}
	}
}

// lineField is a place in a line where a number stands, and the greatest one that may.
type lineField struct {
	ahead  string
	behind string
	most   int
}

func fieldsOfLines() []lineField {
	return []lineField{{"run ", "\n", 500}, {"tier ", " 0 made\n", 11}, {"tier 11 ", " bare\n", 3}, {"loop ", " 0 0 bare\n", 11}, {"loop 11 ", " 3 made\n", 119},
		{"loop 0 0 ", " made\n", 3}, {"drop ", "\n", 11}}
}

// siteFields are the numbers of Sites; they have no limit.
func siteFields() []lineField {
	return []lineField{{ahead: "forge ", behind: " 2 3 4\n"}, {ahead: "forge 1 ", behind: " 3 4\n"}, {ahead: "forge 1 2 ", behind: " 4\n"}, {ahead: "forge 1 2 3 ", behind: "\n"},
		{ahead: "forge 1 2 3 4 ", behind: " 6 7 8\n"}, {ahead: "forge 1 2 3 4 5 6 7 ", behind: "\n"}}
}

// noNumbers are words that are no number, or not the number's form.
var noNumbers = []string{"", "+0", "+1", "-0", "00", "01", "-01", "000000000000000000000000000001", "-", "+", "--1", "-+1", "+-1", "1-", "1+", "- 1", "x", "a1", "1a", "one", "1.0", "1.", ".1",
	"0x1", "0b1", "0o1", "1e0", "1_0", "1,0", "1'0", "\u0661", "\uff11", "1\u00a0", "\u22121", "1\x00", "\xff", "1\xff", "nil", "inf", "NaN", "\"1\"", "(1)", "bare", "made", "run", "forge",
	"9223372036854775808", "-9223372036854775809", "18446744073709551615", "18446744073709551616", "18446744073709551617", "-18446744073709551616", "99999999999999999999",
	"340282366920938463463374607431768211457", strings.Repeat("1", 100), "-" + strings.Repeat("9", 1000)}

func TestReadScriptOfNumbers(t *testing.T) {
	for _, f := range fieldsOfLines() {
		for n := range f.most + 1 {
			if !checkReadScript(t, fmt.Sprint(f.ahead, n, f.behind)) {
				t.Errorf("%s%d%s: refused", f.ahead, n, f.behind)
			}
		}
		for _, n := range []int{f.most + 1, f.most + 2, 10 * (f.most + 1), 999, 1000000001, math.MaxInt32 + 1, math.MaxInt, -1, -2, -f.most, -f.most - 1, math.MinInt} {
			mustNotBeRead(t, "past a limit", fmt.Sprint(f.ahead, n, f.behind))
		}
	}
	for _, f := range append(fieldsOfLines(), siteFields()...) {
		for _, word := range noNumbers {
			mustNotBeRead(t, "no number", f.ahead+word+f.behind)
			mustNotBeRead(t, "no number, later on", everyActWritten+f.ahead+word+f.behind)
		}
	}
	for _, f := range siteFields() {
		for _, n := range []int{0, 1, -1, 10, -10, impl.MaxNum + 1, math.MaxInt, math.MinInt} {
			if !checkReadScript(t, fmt.Sprint(f.ahead, n, f.behind)) {
				t.Errorf("%s%d%s: refused", f.ahead, n, f.behind)
			}
		}
	}
}

func TestReadScriptOfTooFewAndTooManyWords(t *testing.T) {
	counts := map[string]int{"run": 1, "tier": 2, "loop": 3, "drop": 1}
	for word, count := range counts {
		for n := range 8 {
			numbers := strings.Repeat(" 1", n)
			for _, last := range []string{"", " bare", " made", " bare bare", " made bare", " 1 made", " bare 1"} {
				text := word + numbers + last + "\n"
				alone := word == "run" || word == "drop"
				want := n == count && (alone && last == "" || !alone && (last == " bare" || last == " made")) || !alone && n == count-1 && last == " 1 made"
				if checkReadScript(t, text) != want {
					t.Errorf("%q is read: %v", text, !want)
				}
			}
		}
	}
	for n := range 620 {
		text := "forge" + strings.Repeat(" 3", n) + "\n"
		if want := n%4 == 0 && n <= 600; checkReadScript(t, text) != want {
			t.Errorf("forge and %d numbers is read: %v", n, !want)
		}
		if n < 12 {
			mustNotBeRead(t, "a word behind Sites", "forge"+strings.Repeat(" 3", n)+" bare\n")
			mustNotBeRead(t, "a word among Sites", "forge made"+strings.Repeat(" 3", n)+"\n")
		}
	}
}

// wrongScripts are written by no acts.
func wrongScripts() map[string]string {
	return map[string]string{
		"an end of line alone":               "\n",
		"two ends of lines":                  "\n\n",
		"a blank":                            " ",
		"a blank in a line":                  " \n",
		"a byte 13 alone":                    "\r",
		"an empty line of 13 and 10":         "\r\n",
		"no end of the only line":            "run 5",
		"no end of the last line":            "run 5\ndrop 1",
		"no end behind forge":                "forge",
		"no end behind many":                 strings.TrimSuffix(everyActWritten, "\n"),
		"an empty line ahead":                "\nrun 5\n",
		"an empty line between":              "run 5\n\nrun 5\n",
		"an empty line behind":               "run 5\n\n",
		"lines that end with 13 and 10":      "run 5\r\ndrop 1\r\n",
		"a last line that ends so":           "run 5\ndrop 1\r\n",
		"lines that end with 13":             "run 5\rdrop 1\r",
		"lines that end with 10 and 13":      "run 5\n\rdrop 1\n\r",
		"a byte order mark":                  "\ufeffrun 5\n",
		"a blank ahead":                      " run 5\n",
		"a blank ahead of a later line":      "run 5\n drop 1\n",
		"a blank behind":                     "run 5 \n",
		"a blank behind forge":               "forge \n",
		"a blank behind Sites":               "forge 1 2 3 4 \n",
		"a blank behind made":                "tier 1 2 made \n",
		"a blank behind the last end":        "run 5\n ",
		"two blanks":                         "run  5\n",
		"two blanks behind forge":            "forge  1 2 3 4\n",
		"two blanks among Sites":             "forge 1 2 3  4\n",
		"two blanks ahead of bare":           "tier 1 2  bare\n",
		"a tab":                              "run\t5\n",
		"a tab ahead":                        "\trun 5\n",
		"a tab behind":                       "run 5\t\n",
		"a tab among Sites":                  "forge 1 2\t3 4\n",
		"a byte 11":                          "run\v5\n",
		"a byte 12":                          "run\f5\n",
		"a byte 13 between":                  "run\r5\n",
		"a byte 0 between":                   "run\x005\n",
		"another blank":                      "run\u00a05\n",
		"a blank of another script":          "run\u30005\n",
		"an end of line of another kind":     "run 5\u2028drop 1\n",
		"a comma":                            "run,5\n",
		"a comma and a blank":                "forge 1, 2, 3, 4\n",
		"a colon":                            "run: 5\n",
		"a sign of equality":                 "run=5\n",
		"a semicolon":                        "run 5; drop 1\n",
		"a semicolon behind":                 "run 5;\n",
		"brackets":                           "run(5)\n",
		"quotes":                             "\"run\" 5\n",
		"a line in quotes":                   "\"run 5\"\n",
		"a remark":                           "run 5 # so many\n",
		"a remark alone":                     "# so many\nrun 5\n",
		"no blank":                           "run5\n",
		"no blank ahead of bare":             "tier 1 2bare\n",
		"no blank behind bare":               "tier 1 2 baremade\n",
		"two acts in a line":                 "run 5 drop 1\n",
		"an act in two lines":                "run\n5\n",
		"bare in a line of its own":          "tier 1 2\nbare\n",
		"Sites in lines of their own":        "forge\n1 2 3 4\n",
		"a word that is none":                "halt\n",
		"a word that is none, and a number":  "halt 5\n",
		"a word that is none, later on":      "run 5\nhalt\n",
		"a Kind as a word":                   "1 5\n",
		"a number alone":                     "5\n",
		"bare alone":                         "bare\n",
		"made alone":                         "made\n",
		"a word of another chapter":          "int 5\n",
		"a word in capitals":                 "RUN 5\n",
		"a word with a capital":              "Run 5\n",
		"the last letter a capital":          "ruN 5\n",
		"forge with a capital":               "Forge\n",
		"bare in capitals":                   "tier 1 2 BARE\n",
		"bare with a capital":                "tier 1 2 Bare\n",
		"made with a capital":                "tier 1 2 Made\n",
		"a word's beginning":                 "ru 5\n",
		"a word that goes on":                "runs 5\n",
		"a word turned about":                "nur 5\n",
		"a beginning of bare":                "tier 1 2 bar\n",
		"bare that goes on":                  "tier 1 2 bared\n",
		"neither bare nor made":              "tier 1 2 none\n",
		"a truth in place of bare":           "tier 1 2 true\n",
		"a number in place of bare":          "tier 1 2 1\n",
		"bare ahead of the numbers":          "tier bare 1 2\n",
		"bare between the numbers":           "tier 1 bare 2\n",
		"bare in place of a number":          "tier 1 bare\n",
		"made in place of a number":          "loop 1 2 made\n",
		"bare of a run":                      "run 5 bare\n",
		"made of a drop":                     "drop 1 made\n",
		"bare of a forge":                    "forge bare\n",
		"letters of another script":          "r\u1d1cn 5\n",
		"letters that are wide":              "\uff52\uff55\uff4e 5\n",
		"letters that are not UTF-8":         "r\xffun 5\n",
		"a letter that is not, ahead":        "\xffrun 5\n",
		"a letter that is not, behind":       "run 5\xff\n",
		"a byte 0 ahead":                     "\x00run 5\n",
		"a byte 0 behind":                    "run 5\x00\n",
		"a byte 0 alone":                     "\x00",
		"a byte 127":                         "run\x7f 5\n",
		"bytes that are no letters":          "\x01\x02\xfe\n",
		"a run past MaxRun":                  "run 501\n",
		"a function past MaxFuncs":           "tier 12 0 made\n",
		"a function past it, of a loop":      "loop 12 0 0 made\n",
		"a function past it, dropped":        "drop 12\n",
		"an instruction past MaxCode":        "loop 0 120 0 made\n",
		"a Lay past its end":                 "tier 0 4 made\n",
		"a Lay past its end, of a loop":      "loop 0 0 4 bare\n",
		"a Site too many":                    "forge" + strings.Repeat(" 1 2 3 4", 151) + "\n",
		"an act that is not ok, first":       "run 501\nrun 5\n",
		"an act that is not ok, in between":  "run 5\ndrop 12\nrun 5\n",
		"an act that is not ok, last":        "run 5\nrun 5\nloop 0 120 0 made\n",
		"a module":                           sampleShown,
		"a state":                            "run\nframe 0 1 5 5 | 5\nmade 0 out 0\n",
		"a guess":                            "int 0 2\n",
		"far too many lines":                 strings.Repeat("run 5\n", 100000),
		"far too many words":                 "run" + strings.Repeat(" 5", 100000) + "\n",
		"far too many Sites":                 "forge" + strings.Repeat(" 1 2 3 4", 100000) + "\n",
		"far too many blanks":                "run" + strings.Repeat(" ", 100000) + "5\n",
		"far too many ends":                  "run 5\n" + strings.Repeat("\n", 100000),
		"a word that is far too long":        strings.Repeat("run", 100000) + " 5\n",
		"a number that is far too long":      "run " + strings.Repeat("5", 100000) + "\n",
		"noughts, far too many":              "run " + strings.Repeat("0", 100000) + "5\n",
		"a number that wraps round to 5":     "run 18446744073709551621\n",
		"one that wraps round to 5 in 32":    "run 4294967301\n",
		"one that wraps round to 1 in 8":     "drop 257\n",
		"a line of an ok script in capitals": strings.ToUpper(everyActWritten),
	}
}

func TestReadScriptOfWrongTexts(t *testing.T) {
	for name, text := range wrongScripts() {
		mustNotBeRead(t, name, text)
		mustNotBeRead(t, name+", behind acts", everyActWritten+text)
		mustNotBeRead(t, name+", ahead of acts", text+everyActWritten)
	}
}
