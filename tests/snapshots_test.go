package tests

import (
	"fmt"
	"math"
	"slices"
	"strconv"
	"strings"
	"testing"

	"loop.example/g00094/impl"
)

// numbersIn are all numbers that stand in these lines.
func numbersIn(lines ...string) []int {
	var out []int
	for _, word := range strings.Fields(strings.Join(lines, " ")) {
		n, err := strconv.Atoi(word)
		if err != nil {
			panic(err)
		}
		out = append(out, n)
	}
	return out
}

// withBytes are numbers ahead, how many bytes a text has, each of them, and numbers behind.
func withBytes(ahead []int, s string, behind []int) []int {
	return slices.Concat(ahead, textTold(s), behind)
}

// fullHead are the numbers of the frames and the heap of fullState, and of what was made and printed.
func fullHead() []int {
	return numbersIn(
		"3",
		"0 5  2  1 4 0  5 2 0  2  1 4 0  1 1 0",
		"1 2  3  4 1 0  3 0 1 97  2 1 0  1  4 0 0",
		"2 4  0  1  2 0 0",
		fullRecs,
	)
}

const fullRecs = "3  2  4 1 0  0 0 0  0  3  3 0 1 98  4 2 0  5 0 0  5  2  1 120  0"

func TestStatesAreWrittenFieldByField(t *testing.T) {
	k, m := vms(), stateModule()
	k.mustBe(t, "a state that runs", m, fullState(), append(fullHead(), 0, 0, 0, 0, 0, 9)...)
	k.mustBe(t, "a state that trapped", m, trappedState(), append(fullHead(), 2, 1, 0, 0, 0, 9)...)
	k.mustBe(t, "a state that is done", m, doneState(), numbersIn("0", fullRecs, "1 0  4 2 0  9")...)
	k.mustBe(t, "the last trap", m, withTrap(8), append(fullHead(), 2, 8, 0, 0, 0, 9)...)
	k.mustBe(t, "neither a record nor a print", one(nilIns, returnIns), at(0, nil, nil, 0), numbersIn("1  0 0 0 0  0 0 0  0 0  0 0 0  0")...)
	k.mustBe(t, "done at once", one(nilIns, returnIns), impl.Vm{Status: impl.StDone}, numbersIn("0 0 0 0  1 0  0 0 0  0")...)
	k.mustBe(t, "a stack without locals", one(nilIns, returnIns), at(1, nil, vals(num(-7)), 3), numbersIn("1  0 1 0 1  1 -7 0  0 0 0  0 0  0 0 0  3")...)
	k.mustBe(t, "locals without a stack", mod("func 1 2; nil; return"), at(0, vals(num(-7), truth(1)), nil, 3),
		numbersIn("1  0 0 2  1 -7 0  2 1 0  0  0 0 0  0 0  0 0 0  3")...)
	k.mustBe(t, "records without fields", one(nilIns, returnIns), impl.Vm{Heap: make([]impl.Rec, 3), Made: 4, Status: impl.StDone},
		numbersIn("0  3 0 0 0  4  0  1 0  0 0 0  0")...)
	k.mustBe(t, "texts without bytes", one(nilIns, returnIns), impl.Vm{Out: []string{"", "", ""}, Status: impl.StDone, Value: text(""), Steps: 50000},
		numbersIn("0 0 0  3 0 0 0  1 0  3 0 0  50000")...)
	k.mustBe(t, "a heap alone", one(nilIns, returnIns), impl.Vm{Heap: []impl.Rec{record(rec(1)), record(rec(0), num(6))}, Made: 120, Status: impl.StDone, Value: rec(1)},
		numbersIn("0  2  1 4 1 0  2 4 0 0  1 6 0  120  0  1 0  4 1 0  0")...)
}

func withTrap(trap int) impl.Vm {
	vm := trappedState()
	vm.Trap = trap
	return vm
}

// Each Status with each Trap: those that go together are written, the others are neither written nor read.
func TestEachStatusAndTrapIsWritten(t *testing.T) {
	k, m := vms(), stateModule()
	for name, base := range bases() {
		for status := -2; status <= 4; status++ {
			for trap := -2; trap <= 10; trap++ {
				vm := base()
				vm.Status, vm.Trap = status, trap
				told := fmt.Sprint("what ", name, " with Status ", status, " and Trap ", trap)
				if name != "done" && (status == 0 && trap == 0 || status == 2 && within(trap, 1, 8)) || name == "done" && status == 1 && trap == 0 {
					k.mustBe(t, told, m, vm, vmTold(vm)...)
				} else {
					k.mustNotBeWritten(t, told, m, vm)
				}
			}
		}
	}
}

// valuesWritten are values of every Kind that are ok in stateModule with three records, and their numbers.
func valuesWritten() map[string]impl.Value {
	return map[string]impl.Value{
		"0 0 0": {}, "1 0 0": num(0), "1 -1000000000 0": num(-1000000000), "1 1000000000 0": num(1000000000), "2 0 0": truth(0), "2 1 0": truth(1),
		"3 0 0": text(""), "3 0 1 32": text(" "), "3 0 3 33 35 126": text("!#~"), "3 0 60" + strings.Repeat(" 120", 60): text(xs(60)),
		"4 0 0": rec(0), "4 2 0": rec(2), "5 0 0": fun(0), "5 2 0": fun(2),
	}
}

// valuesThatAreNone are values of no Kind, with a field that their Kind doesn't have, or out of their range, and their
// numbers.
func valuesThatAreNone() map[string]impl.Value {
	return map[string]impl.Value{
		"-1 0 0": {Kind: -1}, "6 0 0": {Kind: 6}, "0 1 0": {N: 1}, "0 -1 0": {N: -1}, "0 0 1 97": {S: "a"}, "1 4 1 97": {Kind: 1, N: 4, S: "a"},
		"1 1000000001 0": num(1000000001), "1 -1000000001 0": num(-1000000001), "2 2 0": truth(2), "2 -1 0": truth(-1), "2 1 1 97": {Kind: 2, N: 1, S: "a"},
		"3 1 0": {Kind: 3, N: 1}, "3 1 1 97": {Kind: 3, N: 1, S: "a"}, "3 0 1 34": text("\""), "3 0 1 10": text("\n"), "3 0 1 127": text("\x7f"),
		"3 0 2 195 169": text("é"), "3 0 61" + strings.Repeat(" 120", 61): text(xs(61)), "4 3 0": rec(3), "4 -1 0": rec(-1), "4 0 1 97": {Kind: 4, S: "a"},
		"5 3 0": fun(3), "5 -1 0": fun(-1), "5 0 1 97": {Kind: 5, S: "a"},
	}
}

// Values are written alike wherever they stand.
func TestValuesOfStatesAreWritten(t *testing.T) {
	k, m := vms(), stateModule()
	places := map[string]func(vm *impl.Vm) *impl.Value{
		"1 2 3 # 3 0 1 97 2 1 0 1 4 0 0": func(vm *impl.Vm) *impl.Value { return &vm.Frames[1].Locals[0] },
		"2 4 0 1 # 3 2 4 1 0 0 0 0":      func(vm *impl.Vm) *impl.Value { return &vm.Frames[2].Stack[0] },
		"4 2 0 # 5 2 1 120 0 0":          func(vm *impl.Vm) *impl.Value { return &vm.Heap[2].Fields[2] },
	}
	for around, place := range places {
		ahead, behind, _ := strings.Cut(around, "#")
		for word, v := range valuesWritten() {
			vm := fullState()
			*place(&vm) = v
			k.mustBe(t, word, m, vm, vmTold(vm)...)
			if list := fmt.Sprint(k.write(m, vm)); !strings.Contains(list, " "+ahead+word+behind+" ") {
				t.Errorf("%s: %s between %s and %s: %s", around, word, ahead, behind, list)
			}
		}
		for word, v := range valuesThatAreNone() {
			vm := fullState()
			*place(&vm) = v
			k.mustNotBeWritten(t, word, m, vm)
		}
	}
	for word, v := range valuesWritten() {
		k.mustBe(t, word, m, doneWith(fullState(), v), numbersIn("0", fullRecs, "1 0", word, "9")...)
	}
	for word, v := range valuesThatAreNone() {
		k.mustNotBeWritten(t, word, m, doneWith(fullState(), v))
		k.mustNotBeRead(t, word, m, numbersIn("0", fullRecs, "1 0", word, "9"))
	}
}

// wrongBytes are numbers that are no byte, many of which would be one if more than eight bits of them were left out.
func wrongBytes() []int {
	return []int{-1, -2, -128, -159, -256, 256, 257, 256 + 97, 512 + 97, 1<<16 + 97, 1<<32 + 97, 1<<62 + 97, math.MinInt, math.MinInt + 97, math.MaxInt, math.MaxInt - 30}
}

// Each byte in a text that was printed, at its end or alone, and in an answer.
func TestBytesOfStates(t *testing.T) {
	k, m := vms(), one(nilIns, returnIns)
	for b := range 256 {
		want := within(b, 32, 126) && b != 34
		for _, s := range []string{string([]byte{byte(b)}), string([]byte{97, byte(b)}), string([]byte{byte(b), 97})} {
			printed, answered := impl.Vm{Out: []string{s}, Status: impl.StDone}, impl.Vm{Status: impl.StDone, Value: text(s)}
			ofPrint, ofAnswer := withBytes([]int{0, 0, 0, 1}, s, numbersIn("1 0 0 0 0 0")), withBytes(numbersIn("0 0 0 0 1 0 3 0"), s, []int{0})
			if want {
				k.mustBe(t, s, m, printed, ofPrint...)
				k.mustBe(t, s, m, answered, ofAnswer...)
				continue
			}
			k.mustNotBeWritten(t, s, m, printed)
			k.mustNotBeWritten(t, s, m, answered)
			k.mustNotBeRead(t, s, m, ofPrint)
			k.mustNotBeRead(t, s, m, ofAnswer)
		}
	}
	for _, n := range wrongBytes() {
		k.mustNotBeRead(t, fmt.Sprint("printed byte ", n), m, []int{0, 0, 0, 1, 1, n, 1, 0, 0, 0, 0, 0})
		k.mustNotBeRead(t, fmt.Sprint("printed byte ", n, " behind another"), m, []int{0, 0, 0, 1, 2, 97, n, 1, 0, 0, 0, 0, 0})
		k.mustNotBeRead(t, fmt.Sprint("printed byte ", n, " ahead of another"), m, []int{0, 0, 0, 1, 2, n, 97, 1, 0, 0, 0, 0, 0})
		k.mustNotBeRead(t, fmt.Sprint("answered byte ", n), m, []int{0, 0, 0, 0, 1, 0, 3, 0, 1, n, 0})
	}
}

// Texts may have up to MaxText bytes, wherever they stand.
func TestLengthsOfTextsOfStates(t *testing.T) {
	k, m := vms(), one(nilIns, returnIns)
	for _, n := range []int{0, 1, 2, 59, 60, 61, 62, 120, 256, 316, 1000} {
		s := xs(n)
		printed, answered := impl.Vm{Out: []string{"a", s}, Status: impl.StDone}, impl.Vm{Status: impl.StDone, Value: text(s)}
		ofPrint, ofAnswer := withBytes(numbersIn("0 0 0 2 1 97"), s, numbersIn("1 0 0 0 0 0")), withBytes(numbersIn("0 0 0 0 1 0 3 0"), s, []int{0})
		if n <= 60 {
			k.mustBe(t, fmt.Sprint(n, " bytes"), m, printed, ofPrint...)
			k.mustBe(t, fmt.Sprint(n, " bytes"), m, answered, ofAnswer...)
			continue
		}
		k.mustNotBeWritten(t, s, m, printed)
		k.mustNotBeWritten(t, s, m, answered)
		k.mustNotBeRead(t, s, m, ofPrint)
		k.mustNotBeRead(t, s, m, ofAnswer)
	}
}

// greatestState has as much of everything as there can be.
func greatestState() stateOf {
	m := impl.Module{Funcs: []impl.Func{{Locals: impl.MaxLocals, Code: append(nils(impl.MaxStack), dropIns, invoke(0), returnIns)}}}
	full := slices.Repeat(vals(text(xs(60))), impl.MaxStack)
	vm := impl.Vm{Frames: slices.Repeat(frames(frame(0, 18, full[:12], full[:15])), 23), Made: 120, Steps: 50000}
	vm.Frames = append(vm.Frames, frame(0, 16, full[:12], full))
	vm.Heap = slices.Repeat([]impl.Rec{record(full[:6]...)}, 120)
	vm.Out = slices.Repeat([]string{xs(60)}, 200)
	return stateOf{m, cloneVm(vm)}
}

func TestTheGreatestState(t *testing.T) {
	k, x := vms(), greatestState()
	k.mustBe(t, "the greatest", x.m, x.vm, vmTold(x.vm)...)
	for name, do := range map[string]func(vm *impl.Vm){
		"a frame more":  func(vm *impl.Vm) { vm.Frames = append(vm.Frames[:1:1], vm.Frames...) },
		"a value more":  func(vm *impl.Vm) { vm.Frames[23].Stack = append(vm.Frames[23].Stack, num(1)) },
		"a local more":  func(vm *impl.Vm) { vm.Frames[23].Locals = append(vm.Frames[23].Locals, num(1)) },
		"a field more":  func(vm *impl.Vm) { vm.Heap[119].Fields = append(vm.Heap[119].Fields, num(1)) },
		"a record more": func(vm *impl.Vm) { vm.Heap, vm.Made = append(vm.Heap, record()), 121 },
		"a print more":  func(vm *impl.Vm) { vm.Out = append(vm.Out, "a") },
		"a step more":   func(vm *impl.Vm) { vm.Steps++ },
	} {
		wrong := greatestState()
		do(&wrong.vm)
		k.mustNotBeWritten(t, name, wrong.m, wrong.vm)
	}
}

func TestStatesOfModulesThatAreNotGoodAreNotWritten(t *testing.T) {
	k := vms()
	for name, m := range notGood() {
		for _, vm := range []impl.Vm{at(0, nil, nil, 0), {Status: impl.StDone}, {}} {
			k.mustNotBeWritten(t, name, m, vm)
		}
	}
	for _, x := range limitsOfModules() {
		k.mustNotBeWritten(t, x.name, x.past, impl.Vm{Status: impl.StDone})
	}
	// A state is read in its own module, and not in another one.
	k.mustNotBeWritten(t, "another module", one(nilIns, returnIns), fullState())
	k.mustNotBeWritten(t, "another module, and a record as a value", several(), doneWith(fullState(), fun(9)))
	k.mustNotBeWritten(t, "the zero state", stateModule(), impl.Vm{})
}
