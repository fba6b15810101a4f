package tests

import (
	"bytes"
	"encoding/binary"
	"math"
	"slices"
	"testing"

	"loop.example/g00094/impl"
)

// someModules are ordinary ones: with texts and without, of one function and of several.
func someModules() []impl.Module {
	return []impl.Module{
		sample(),
		one(ins(impl.OpNil, 0), ins(impl.OpReturn, 0)),
		one(ins(impl.OpInt, -1), ins(impl.OpInt, -64), ins(impl.OpInt, -65), ins(impl.OpInt, -8193), ins(impl.OpReturn, 0)),
		withTexts("one", "", "two words"),
		manyFuncs(3),
		withRoom(6, 12),
	}
}

func TestNumbersInBytes(t *testing.T) {
	for _, x := range []struct {
		n    int
		want []byte
	}{
		{0, []byte{0}}, {-1, []byte{1}}, {1, []byte{2}}, {-2, []byte{3}}, {63, []byte{126}}, {-64, []byte{127}},
		{64, []byte{128, 1}}, {-65, []byte{129, 1}}, {8191, []byte{254, 127}}, {-8192, []byte{255, 127}},
		{8192, []byte{128, 128, 1}}, {-8193, []byte{129, 128, 1}}, {1048575, []byte{254, 255, 127}}, {1048576, []byte{128, 128, 128, 1}},
		{134217727, []byte{254, 255, 255, 127}}, {134217728, []byte{128, 128, 128, 128, 1}},
		{1000000000, []byte{128, 168, 214, 185, 7}}, {-1000000000, []byte{255, 167, 214, 185, 7}},
	} {
		m := one(ins(impl.OpInt, x.n))
		want := append([]byte{0, 2, 0, 0, 2, 2}, x.want...)
		if b := impl.Save(m); !bytes.Equal(b, want) {
			t.Errorf("%d is saved as %v", x.n, b)
		}
		if y, ok := impl.Load(want); !ok || !sameModule(y, m) {
			t.Errorf("%d is loaded as %v, %v", x.n, y, ok)
		}
	}
}

func TestSaveOfAModuleWrittenOut(t *testing.T) {
	want := []byte{
		6, 0, 4, 'a', 'b', 8, ' ', '!', '#', '~',
		4, 2, 8, 10, 2, 129, 1, 6, 4, 34, 8, 8, 0, 50, 0,
		0, 4, 6, 10, 2, 14, 2, 50, 0,
	}
	if b := impl.Save(sample()); !bytes.Equal(b, want) {
		t.Error(b)
	}
	if m, ok := impl.Load(want); !ok || !sameModule(m, sample()) {
		t.Error(m, ok)
	}
}

func TestModulesThereAndBack(t *testing.T) {
	for i, m := range manyModules() {
		b := impl.Save(m)
		if !bytes.Equal(b, told(m)) || len(b) == 0 {
			t.Fatalf("module %d, %v: saved as %v", i, m, b)
		}
		x, ok := impl.Load(b)
		if !ok || !sameModule(x, m) {
			t.Fatalf("module %d, %v: loaded as %v, %v", i, m, x, ok)
		}
		if again := impl.Save(x); !bytes.Equal(again, b) {
			t.Fatalf("module %d, %v: saved again as %v", i, m, again)
		}
	}
}

// No module comes as far as MaxBytes: the greatest has 9910 bytes.
func TestTheGreatestModule(t *testing.T) {
	b := impl.Save(greatest())
	if len(b) != 9910 || len(b) > impl.MaxBytes {
		t.Error(len(b))
	}
	if m, ok := impl.Load(b); !ok || !sameModule(m, greatest()) {
		t.Error("the greatest module is not loaded")
	}
	for _, size := range []int{9911, impl.MaxBytes, impl.MaxBytes + 1} {
		m, ok := impl.Load(append(slices.Clone(b), make([]byte, size-len(b))...))
		mustBeZero(t, "bytes behind the greatest module", m, ok)
	}
}

// wrongModules are not ok, each for a reason of its own.
func wrongModules() map[string]impl.Module {
	noCode := sample()
	noCode.Funcs[1].Code = nil
	badLater := sample()
	badLater.Funcs[1].Code[2] = ins(impl.OpLoad, 2)
	return map[string]impl.Module{
		"nothing":                     {},
		"texts alone":                 {Texts: []string{"a"}},
		"a function without code":     noCode,
		"a fault in the last":         badLater,
		"Op 0":                        one(ins(0, 0)),
		"Op -1":                       one(ins(-1, 0)),
		"Op 27":                       one(ins(27, 0)),
		"Op 1 and 256 more":           one(ins(257, 0)),
		"an A of an Op without":       one(ins(impl.OpReturn, 1)),
		"an A below 0":                one(ins(impl.OpPrint, -1)),
		"a text that is none":         one(ins(impl.OpText, 0)),
		"a function that is none":     one(ins(impl.OpFun, 1)),
		"an invoke of none":           one(ins(impl.OpInvoke, -1)),
		"a jump behind the last":      one(ins(impl.OpJump, 1)),
		"a local that is none":        one(ins(impl.OpLoad, 0)),
		"Params below 0":              withRoom(-1, 0),
		"fewer Locals than Params":    withRoom(2, 1),
		"a number far below 0":        one(ins(impl.OpInt, math.MinInt)),
		"a number far above MaxNum":   one(ins(impl.OpInt, math.MaxInt)),
		"a number that wraps round":   one(ins(impl.OpInt, 1<<62)),
		"a number of 32 bits and one": one(ins(impl.OpInt, 1<<32)),
		"a number of 36 bits":         one(ins(impl.OpInt, 1<<35)),
		"Params that wrap round":      withRoom(1<<35, 12),
		"an end of line in a text":    withTexts("a\n"),
		"quotes in a text":            withTexts("\""),
		"letters that are not ASCII":  withTexts("\u00e4"),
	}
}

func TestModulesThatAreNotOk(t *testing.T) {
	for name, m := range wrongModules() {
		if impl.ModuleOk(m) {
			t.Errorf("%s: taken", name)
		}
		if b := impl.Save(m); len(b) != 0 {
			t.Errorf("%s: saved as %v", name, b)
		}
		x, ok := impl.Load(told(m))
		mustBeZero(t, name, x, ok)
	}
}

// Where bytes end too early, those that are missing lie behind the list, and are not to be read.
func TestBytesThatEndTooEarlyOrGoOn(t *testing.T) {
	for _, m := range someModules() {
		b := impl.Save(m)
		for n := range b {
			x, ok := impl.Load(b[:n])
			mustBeZero(t, "bytes that end early", x, ok)
		}
		for c := range 256 {
			x, ok := impl.Load(append(slices.Clone(b), byte(c)))
			mustBeZero(t, "bytes that go on", x, ok)
		}
		x, ok := impl.Load(append(slices.Clone(b), b...))
		mustBeZero(t, "bytes twice", x, ok)
	}
	x, ok := impl.Load(nil)
	mustBeZero(t, "no bytes", x, ok)
}

// longer is a number told in more groups than there need be.
func longer(number []byte, more int) []byte {
	out := slices.Clone(number)
	out[len(out)-1] += 128
	for range more - 1 {
		out = append(out, 128)
	}
	return append(out, 0)
}

// isText tells which pieces of a module are no numbers: each text stands behind its length.
func isText(m impl.Module, piece int) bool {
	return piece > 0 && piece <= 2*len(m.Texts) && piece%2 == 0
}

func TestNumbersInMoreGroupsThanNeedBe(t *testing.T) {
	for _, m := range someModules() {
		for i := range piecesOf(m) {
			if isText(m, i) {
				continue
			}
			for more := 1; more < 12; more++ {
				pieces := piecesOf(m)
				pieces[i] = longer(pieces[i], more)
				x, ok := impl.Load(slices.Concat(pieces...))
				mustBeZero(t, "a number in more groups", x, ok)
			}
		}
	}
}

// These come to a number that is there if bits are lost at 32, 35, 63, 64 or 70 bits.
func TestNumbersThatWrapRound(t *testing.T) {
	for _, m := range someModules() {
		for i := range piecesOf(m) {
			if isText(m, i) {
				continue
			}
			for _, lost := range []int{32, 35, 42, 49, 56, 63, 64, 70, 77} {
				pieces := piecesOf(m)
				number := longer(pieces[i], 12)[:lost/7+1]
				number[lost/7] = byte(1 << (lost % 7))
				pieces[i] = number
				x, ok := impl.Load(slices.Concat(pieces...))
				mustBeZero(t, "a number that wraps round", x, ok)
			}
			pieces := piecesOf(m)
			pieces[i] = slices.Repeat([]byte{255}, 40)
			x, ok := impl.Load(slices.Concat(pieces...))
			mustBeZero(t, "a number without end", x, ok)
		}
	}
}

func TestCountsThatCannotBe(t *testing.T) {
	for i := range piecesOf(sample()) {
		if isText(sample(), i) {
			continue
		}
		for _, n := range []int{-1, -2, -64, -impl.MaxNum, impl.MaxNum + 1, 1<<34 - 1, math.MinInt, math.MaxInt} {
			pieces := piecesOf(sample())
			pieces[i] = tell(n)
			checkLoad(t, slices.Concat(pieces...))
		}
	}
	for _, b := range [][]byte{
		told(withTexts())[:1],
		slices.Concat(tell(impl.MaxNum), told(one(nils(1)...))[1:]),
		slices.Concat(tell(1), tell(impl.MaxNum), []byte("abc")),
		slices.Concat(tell(1), tell(-1), told(one(nils(1)...))[1:]),
		slices.Concat(tell(-1), told(one(nils(1)...))[1:]),
		slices.Concat(tell(0), tell(-1)),
		slices.Concat(tell(0), tell(0)),
		slices.Concat(tell(0), tell(impl.MaxNum)),
		slices.Concat(tell(0), tell(1), tell(0), tell(0), tell(-1)),
		slices.Concat(tell(0), tell(1), tell(0), tell(0), tell(0)),
		slices.Concat(tell(0), tell(1), tell(0), tell(0), tell(impl.MaxNum)),
	} {
		x, ok := impl.Load(b)
		mustBeZero(t, "a count that cannot be", x, ok)
	}
}

// loadByLaw says what Load must: it takes numbers in any form, and then asks what would be told of what they are.
func loadByLaw(b []byte) (impl.Module, bool) {
	m := impl.Module{}
	rest := b
	short := false
	next := func(most int) int {
		n, size := binary.Varint(rest)
		if size <= 0 || n < math.MinInt32 || n > math.MaxInt32 || most >= 0 && (n < 0 || n > int64(most)) {
			short = true
			return 0
		}
		rest = rest[size:]
		return int(n)
	}
	for range next(impl.MaxTexts) {
		length := min(next(impl.MaxText), len(rest))
		m.Texts = append(m.Texts, string(rest[:length]))
		rest = rest[length:]
	}
	for range next(impl.MaxFuncs) {
		f := impl.Func{Params: next(-1), Locals: next(-1)}
		for range next(impl.MaxCode) {
			f.Code = append(f.Code, ins(next(-1), next(-1)))
		}
		m.Funcs = append(m.Funcs, f)
	}
	if short || !impl.ModuleOk(m) || !bytes.Equal(told(m), b) {
		return impl.Module{}, false
	}
	return m, true
}

// checkLoad holds what Load answers against the law, and asks that what is loaded saves back.
func checkLoad(t *testing.T, b []byte) {
	t.Helper()
	want, wantOk := loadByLaw(b)
	m, ok := impl.Load(b)
	if ok != wantOk || !sameModule(m, want) {
		t.Fatalf("%v: loaded as %v, %v, not %v, %v", b, m, ok, want, wantOk)
	}
	if again := impl.Save(m); ok && !bytes.Equal(again, b) {
		t.Fatalf("%v: saved again as %v", b, again)
	}
}

func TestLoadWithEachByteChanged(t *testing.T) {
	for _, m := range someModules() {
		b := impl.Save(m)
		for i := range b {
			for c := range 256 {
				x := slices.Clone(b)
				x[i] = byte(c)
				checkLoad(t, x)
			}
			checkLoad(t, slices.Delete(slices.Clone(b), i, i+1))
			checkLoad(t, slices.Insert(slices.Clone(b), i, b[i]))
		}
	}
}

func TestLoadOfShortBytes(t *testing.T) {
	taken := 0
	for op := range 256 {
		for a := range 256 {
			b := []byte{0, 2, 0, 0, 2, byte(op), byte(a)}
			checkLoad(t, b)
			if _, ok := impl.Load(b); ok {
				taken++
			}
			checkLoad(t, []byte{byte(op), byte(a)})
		}
	}
	// 128 numbers, 2 truths, function 0 twice, 12 Ops without A, instruction 0 for 3, 7 sizes, 6 fields for 2, 7 calls.
	if taken != 128+2+2+12+3+7+12+7 {
		t.Error(taken)
	}
}

func FuzzLoad(f *testing.F) {
	for _, m := range append(someModules(), greatest()) {
		f.Add(told(m))
	}
	for _, m := range wrongModules() {
		f.Add(told(m))
	}
	f.Fuzz(checkLoad)
}
