package tests

import (
	"math"
	"math/rand"
	"slices"
	"strings"
	"testing"

	"loop.example/g00094/impl"
)

// spoiledAct is an act with one thing changed; it is ok still now and then.
func spoiledAct(r *rand.Rand, a impl.Act) impl.Act {
	a = cloneAct(a)
	switch r.Intn(6) {
	case 0:
		a.Bare = !a.Bare
	case 1:
		a.Sites = make([]impl.Site, []int{0, 1, 150, 151}[r.Intn(4)])
	default:
		number := []*int{&a.Kind, &a.A, &a.B, &a.Lay}[r.Intn(4)]
		*number += []int{1, -1, 2, 12, 500, -500, math.MaxInt, math.MinInt}[r.Intn(8)]
	}
	return a
}

// TestManyScriptsAreReadBack asks promise 20 of many lists of acts, and that nothing is written of such as are not ok.
func TestManyScriptsAreReadBack(t *testing.T) {
	r := rand.New(rand.NewSource(96))
	oks := map[bool]int{}
	var kinds [6]int
	for range 3000 {
		list := scriptActs(r, edge(r, impl.MaxActs))
		checkScript(t, list)
		for _, a := range list {
			kinds[a.Kind]++
		}
		if len(list) == 0 {
			continue
		}
		at := r.Intn(len(list))
		list[at] = spoiledAct(r, list[at])
		checkScript(t, list)
		checkReadScript(t, actLines(list))
		oks[scriptOkByLaw(list)]++
	}
	for range 200 {
		list := scriptActs(r, impl.MaxActs+r.Intn(3))
		checkScript(t, list)
		checkReadScript(t, actLines(list))
		oks[scriptOkByLaw(list)]++
	}
	if slices.Min(kinds[1:]) < 5000 || oks[true] < 500 || oks[false] < 1000 {
		t.Errorf("Kinds %v, ok or not %v times: they try too little", kinds, oks)
	}
}

// Acts that were drawn up for a module, with what was watched there.
func TestScriptsOfProgramsAreReadBack(t *testing.T) {
	r := rand.New(rand.NewSource(97))
	for n := range 100 {
		m := playedProgram(r, n)
		var list []impl.Act
		for range impl.MaxActs {
			list = append(list, randomAct(r, m, impl.MaxRun))
		}
		checkScript(t, list)
		list[r.Intn(len(list))] = anyAct(r, m, impl.MaxRun)
		checkScript(t, list)
	}
}

// What is read back plays as what was written.
func TestScriptsThatAreReadBackPlayAsTheyDid(t *testing.T) {
	played := 0
	for _, s := range someScripts() {
		ok := slices.DeleteFunc(slices.Clone(s.acts), func(a impl.Act) bool { return !actOkByLaw(a) })
		list, read := impl.ReadScript(impl.ScriptText(ok))
		if !read {
			t.Fatalf("%+v is not read back", ok)
		}
		want := s.play()
		if got := impl.Play(s.m, s.args, list); !sameTier(got, want) {
			t.Fatalf("%+v: plays to %+v, not %+v", list, got, want)
		}
		if want.Vm.Steps > 0 {
			played++
		}
	}
	if played < 50 {
		t.Errorf("%d scripts come to something", played)
	}
}

func TestReadScriptWithEachByteChanged(t *testing.T) {
	for _, text := range []string{everyActWritten, "run 50\ntier 1 2 bare\nloop 0 5 1 made\ndrop 1\nforge 1 2 1 -7\nforge\n", "forge\n", "drop 0\n"} {
		for i := range len(text) {
			for c := range 256 {
				checkReadScript(t, text[:i]+string([]byte{byte(c)})+text[i+1:])
				checkReadScript(t, text[:i]+string([]byte{byte(c)})+text[i:])
			}
			for _, s := range []string{"\r\n", "\n\n", "  ", " 0", "0 ", " 1", "-1 ", "\u00e4", "\u00a0", "bare", "run", " 5\nrun "} {
				checkReadScript(t, text[:i]+s+text[i:])
			}
			checkReadScript(t, text[:i]+text[i+1:])
			checkReadScript(t, text[:i])
			checkReadScript(t, text[i:])
		}
		checkReadScript(t, text+text)
	}
}

func TestReadScriptWithLinesMoved(t *testing.T) {
	lines := strings.Split(strings.TrimSuffix(everyActWritten, "\n"), "\n")
	all := everyAct()
	for i := range lines {
		mustBeRead(t, joined(slices.Delete(slices.Clone(lines), i, i+1)), slices.Delete(slices.Clone(all), i, i+1)...)
		for k := range lines {
			mustBeRead(t, joined(slices.Insert(slices.Clone(lines), i, lines[k])), slices.Insert(slices.Clone(all), i, all[k])...)
			turned, turnedActs := slices.Clone(lines), slices.Clone(all)
			turned[i], turned[k] = turned[k], turned[i]
			turnedActs[i], turnedActs[k] = turnedActs[k], turnedActs[i]
			mustBeRead(t, joined(turned), turnedActs...)
		}
	}
}

// soupWords are of what lines are made, right or wrong.
var soupWords = strings.Fields("run tier loop drop forge bare made run tier loop drop forge bare made 0 1 2 3 4 11 12 119 120 500 501 -1 -0 00 +1 x")

// wordSoup is a text of words in any order, some of whose lines are right.
func wordSoup(r *rand.Rand) string {
	text := ""
	for range 1 + r.Intn(4) {
		var words []string
		switch r.Intn(4) {
		case 0:
			words = strings.Fields(actLineByLaw(scriptAct(r)))
			words[r.Intn(len(words))] = soupWords[r.Intn(len(soupWords))]
		case 1:
			words = strings.Fields(actLineByLaw(spoiledAct(r, scriptAct(r))))
		case 2:
			for range 1 + r.Intn(6) {
				words = append(words, soupWords[r.Intn(len(soupWords))])
			}
		default:
			words = strings.Fields(actLineByLaw(scriptAct(r)))
		}
		blank := " "
		if r.Intn(30) == 0 {
			blank = []string{"  ", "\t", ",", "", "\r", "\n"}[r.Intn(6)]
		}
		text += strings.Join(words, blank) + "\n"
	}
	if r.Intn(30) == 0 {
		text = strings.TrimSuffix(text, "\n")
	}
	return text
}

// TestManyTextsOfScripts asks of each text that is read that it is what is written of what was read, byte by byte.
func TestManyTextsOfScripts(t *testing.T) {
	r := rand.New(rand.NewSource(98))
	read := map[bool]int{}
	for range 20000 {
		read[checkReadScript(t, wordSoup(r))]++
	}
	for range 1000 {
		text := []byte(actLines(scriptActs(r, 1+r.Intn(8))))
		for range 1 + r.Intn(3) {
			at := r.Intn(len(text))
			switch r.Intn(3) {
			case 0:
				text[at] = byte(r.Intn(256))
			case 1:
				text[at] = "0123456789 -\nbarem"[r.Intn(18)]
			default:
				text = slices.Delete(text, at, min(at+1+r.Intn(2), len(text)))
			}
			if len(text) == 0 {
				break
			}
		}
		read[checkReadScript(t, string(text))]++
	}
	if read[true] < 2000 || read[false] < 5000 {
		t.Errorf("read or not %v times: they try too little", read)
	}
}

func FuzzScripts(f *testing.F) {
	f.Add(everyActWritten, int64(1))
	for _, text := range wrongScripts() {
		if len(text) < 5000 {
			f.Add(text, int64(2))
		}
	}
	f.Fuzz(func(t *testing.T, text string, seed int64) {
		checkReadScript(t, text)
		r := rand.New(rand.NewSource(seed))
		list := scriptActs(r, edge(r, impl.MaxActs+1))
		checkScript(t, list)
		if list, ok := impl.ReadScript(text); ok && len(list) > 0 {
			at := r.Intn(len(list))
			list[at] = spoiledAct(r, list[at])
			checkScript(t, list)
		}
	})
}
