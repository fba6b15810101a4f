package impl

import "errors"

const (
	MaxFuncs  = 12
	MaxCode   = 120
	MaxLocals = 12
	MaxParams = 6
	MaxFields = 6
	MaxTexts  = 20
	MaxText   = 60
	MaxNum    = 1000000000
	MaxBytes  = 20000
)

const OK = 0

const (
	OpInt = iota + 1
	OpBool
	OpText
	OpNil
	OpFun
	OpLoad
	OpStore
	OpDup
	OpDrop
	OpSwap
	OpAdd
	OpSub
	OpMul
	OpLess
	OpSame
	OpNot
	OpJump
	OpIf
	OpIfNot
	OpNew
	OpGet
	OpPut
	OpCall
	OpInvoke
	OpReturn
	OpPrint
)

type Ins struct {
	Op int
	A  int
}

type Func struct {
	Params int
	Locals int
	Code   []Ins
}

type Module struct {
	Texts []string
	Funcs []Func
}

// InsOk tells whether x may stand in function f of m, which need not be ModuleOk.
func InsOk(m Module, f int, x Ins) bool {
	if f < 0 || f >= len(m.Funcs) {
		return false
	}
	first, end := argBounds(m, m.Funcs[f], x.Op)
	return first <= x.A && x.A < end
}

// argBounds gives the least A of an Op in function f of m, and the number behind the greatest.
// The end is left out of the range because Locals - 1 would wrap round where Locals is the least int.
func argBounds(m Module, f Func, op int) (int, int) {
	switch op {
	case OpInt:
		return -MaxNum, MaxNum + 1
	case OpBool:
		return 0, 2
	case OpText:
		return 0, len(m.Texts)
	case OpFun, OpInvoke:
		return 0, len(m.Funcs)
	case OpLoad, OpStore:
		return 0, f.Locals
	case OpJump, OpIf, OpIfNot:
		return 0, len(f.Code)
	case OpNew:
		return 0, MaxFields + 1
	case OpGet, OpPut:
		return 0, MaxFields
	case OpCall:
		return 0, MaxParams + 1
	}
	if bareOp(op) {
		return 0, 1
	}
	return 0, 0
}

// bareOp tells whether an Op's A says nothing, being always 0.
func bareOp(op int) bool {
	switch op {
	case OpNil, OpDup, OpDrop, OpSwap, OpAdd, OpSub, OpMul, OpLess, OpSame, OpNot, OpReturn, OpPrint:
		return true
	}
	return false
}

// ModuleOk tells whether m keeps the limits of a module, text by text and function by function.
func ModuleOk(m Module) bool {
	if len(m.Texts) > MaxTexts || len(m.Funcs) < 1 || len(m.Funcs) > MaxFuncs {
		return false
	}
	for _, text := range m.Texts {
		if !textOk(text) {
			return false
		}
	}
	for f := range m.Funcs {
		if !funcOk(m, f) {
			return false
		}
	}
	return true
}

func textOk(text string) bool {
	if len(text) > MaxText {
		return false
	}
	for i := 0; i < len(text); i++ {
		if text[i] < 32 || text[i] > 126 || text[i] == 34 {
			return false
		}
	}
	return true
}

func funcOk(m Module, f int) bool {
	fn := m.Funcs[f]
	if fn.Params < 0 || fn.Params > MaxParams || fn.Locals < fn.Params || fn.Locals > MaxLocals {
		return false
	}
	if len(fn.Code) < 1 || len(fn.Code) > MaxCode {
		return false
	}
	for _, x := range fn.Code {
		if !InsOk(m, f, x) {
			return false
		}
	}
	return true
}

// Save gives the bytes of a ModuleOk module.
func Save(m Module) []byte {
	if !ModuleOk(m) {
		return nil
	}
	b := putNumber(nil, len(m.Texts))
	for _, text := range m.Texts {
		b = putNumber(b, len(text))
		b = append(b, text...)
	}
	b = putNumber(b, len(m.Funcs))
	for _, fn := range m.Funcs {
		b = putFunc(b, fn)
	}
	if len(b) > MaxBytes {
		return nil
	}
	return b
}

func putFunc(b []byte, fn Func) []byte {
	b = putNumber(b, fn.Params)
	b = putNumber(b, fn.Locals)
	b = putNumber(b, len(fn.Code))
	for _, x := range fn.Code {
		b = putNumber(b, x.Op)
		b = putNumber(b, x.A)
	}
	return b
}

// putNumber lays n behind b; a ModuleOk module has no number whose double leaves an int.
func putNumber(b []byte, n int) []byte {
	u := 2 * n
	if n < 0 {
		u = -2*n - 1
	}
	for u >= 128 {
		b = append(b, byte(u%128+128))
		u /= 128
	}
	return append(b, byte(u))
}

// Load gives the module whose Save these bytes are.
func Load(b []byte) (Module, bool) {
	r := byteReader{bytes: b}
	m, err := takeModule(r.number, r.text)
	if err == nil {
		err = r.end()
	}
	var fault loadFault
	if errors.As(err, &fault) || !ModuleOk(m) {
		return Module{}, false
	}
	return m, true
}

// loadFault is what is wrong with bytes that Save gives for no module.
type loadFault struct {
	why string
}

func (f loadFault) Error() string { return f.why }

// maxGroups is how many groups of 7 bits the greatest number of a module has.
const maxGroups = 5

// byteReader takes numbers and texts off bytes, one behind the other.
type byteReader struct {
	bytes []byte
	at    int
}

// number refuses a last group of 0 behind others, as Save would have left it out.
func (r *byteReader) number() (int, error) {
	u := 0
	for i := 0; i < maxGroups; i++ {
		if r.at >= len(r.bytes) {
			return 0, loadFault{why: "the bytes end within a number"}
		}
		group := int(r.bytes[r.at])
		r.at++
		u += (group % 128) << (7 * i)
		if group == 0 && i > 0 {
			return 0, loadFault{why: "a number has more groups than need be"}
		}
		if group < 128 {
			return foldBack(u), nil
		}
	}
	return 0, loadFault{why: "a number is too great"}
}

// foldBack gives the number that is told as u.
func foldBack(u int) int {
	if u%2 == 1 {
		return -(u / 2) - 1
	}
	return u / 2
}

func (r *byteReader) text(length int) (string, error) {
	if length < 0 || length > len(r.bytes)-r.at {
		return "", loadFault{why: "the bytes end within a text"}
	}
	text := string(r.bytes[r.at : r.at+length])
	r.at += length
	return text, nil
}

func (r *byteReader) end() error {
	if r.at < len(r.bytes) {
		return loadFault{why: "the bytes go on behind the module"}
	}
	return nil
}

// takeModule leaves open whether what the numbers tell is ModuleOk.
func takeModule(next func() (int, error), nextText func(int) (string, error)) (Module, error) {
	texts, err := takeTexts(next, nextText)
	if err != nil {
		return Module{}, err
	}
	funcs, err := takeFuncs(next)
	if err != nil {
		return Module{}, err
	}
	return Module{Texts: texts, Funcs: funcs}, nil
}

// takeCount keeps a count within its limit ahead of anything being made for it.
func takeCount(next func() (int, error), most int) (int, error) {
	n, err := next()
	if err != nil {
		return 0, err
	}
	if n < 0 || n > most {
		return 0, loadFault{why: "a count cannot be"}
	}
	return n, nil
}

func takeTexts(next func() (int, error), nextText func(int) (string, error)) ([]string, error) {
	count, err := takeCount(next, MaxTexts)
	if err != nil {
		return nil, err
	}
	var texts []string
	for range count {
		length, err := takeCount(next, MaxText)
		if err != nil {
			return nil, err
		}
		text, err := nextText(length)
		if err != nil {
			return nil, err
		}
		texts = append(texts, text)
	}
	return texts, nil
}

func takeFuncs(next func() (int, error)) ([]Func, error) {
	count, err := takeCount(next, MaxFuncs)
	if err != nil {
		return nil, err
	}
	var funcs []Func
	for range count {
		fn, err := takeFunc(next)
		if err != nil {
			return nil, err
		}
		funcs = append(funcs, fn)
	}
	return funcs, nil
}

func takeFunc(next func() (int, error)) (Func, error) {
	params, err := next()
	if err != nil {
		return Func{}, err
	}
	locals, err := next()
	if err != nil {
		return Func{}, err
	}
	code, err := takeCode(next)
	if err != nil {
		return Func{}, err
	}
	return Func{Params: params, Locals: locals, Code: code}, nil
}

func takeCode(next func() (int, error)) ([]Ins, error) {
	count, err := takeCount(next, MaxCode)
	if err != nil {
		return nil, err
	}
	var code []Ins
	for range count {
		op, err := next()
		if err != nil {
			return nil, err
		}
		a, err := next()
		if err != nil {
			return nil, err
		}
		code = append(code, Ins{Op: op, A: a})
	}
	return code, nil
}
