package vm

import (
	"truce/api"
	"truce/hash"
	"truce/mem"
	"truce/modu"
	"truce/mul"
	"truce/num"
	"truce/sign"
)

const wordBytes = 32

// allBits is by how many bits a number is shifted of which nothing stays but its sign.
const allBits = 256

func (m *machine) stop()     { m.Stand = api.RnDone }
func (m *machine) giveOut()  { m.end(api.RnDone) }
func (m *machine) giveBack() { m.end(api.RnBack) }

func (m *machine) add()      { m.two(func(a, b api.U) api.U { return first(num.Add(a, b)) }) }
func (m *machine) mul()      { m.two(mul.Mul) }
func (m *machine) sub()      { m.two(func(a, b api.U) api.U { return first(num.Sub(a, b)) }) }
func (m *machine) div()      { m.two(func(a, b api.U) api.U { return first(mul.Div(a, b)) }) }
func (m *machine) rest()     { m.two(func(a, b api.U) api.U { return second(mul.Div(a, b)) }) }
func (m *machine) signDiv()  { m.two(func(a, b api.U) api.U { return first(sign.Div(a, b)) }) }
func (m *machine) signRest() { m.two(func(a, b api.U) api.U { return second(sign.Div(a, b)) }) }
func (m *machine) addMod()   { m.three(modu.AddMod) }
func (m *machine) mulMod()   { m.three(modu.MulMod) }
func (m *machine) power()    { m.two(modu.Exp) }
func (m *machine) extend()   { m.two(sign.Extend) }

func (m *machine) less()     { m.which(func(a, b api.U) bool { return num.Cmp(a, b) < 0 }) }
func (m *machine) more()     { m.which(func(a, b api.U) bool { return num.Cmp(a, b) > 0 }) }
func (m *machine) signLess() { m.which(sign.Less) }
func (m *machine) signMore() { m.which(func(a, b api.U) bool { return sign.Less(b, a) }) }
func (m *machine) same()     { m.which(func(a, b api.U) bool { return a == b }) }
func (m *machine) isZero()   { m.lay(truth(m.take() == api.U{})) }

func (m *machine) and()       { m.two(num.And) }
func (m *machine) or()        { m.two(num.Or) }
func (m *machine) xor()       { m.two(num.Xor) }
func (m *machine) not()       { m.lay(num.Not(m.take())) }
func (m *machine) oneByte()   { m.two(sign.Byte) }
func (m *machine) shiftUp()   { m.shift(num.Shl) }
func (m *machine) shiftDown() { m.shift(num.Shr) }
func (m *machine) signDown()  { m.shift(sign.Shr) }

func (m *machine) keccak() {
	from, n := m.take(), m.take()
	m.layBytes(hash.Sum(mem.Slice(m.Mem, from, small(n))))
}

func (m *machine) inputLoad() { m.layBytes(mem.Slice(m.Input, m.take(), wordBytes)) }
func (m *machine) inputSize() { m.layInt(len(m.Input)) }
func (m *machine) inputCopy() { m.copyOf(m.Input) }
func (m *machine) codeSize()  { m.layInt(len(m.Code)) }
func (m *machine) codeCopy()  { m.copyOf(m.Code) }

func (m *machine) pop()  { m.take() }
func (m *machine) load() { m.layBytes(mem.Slice(m.Mem, m.take(), wordBytes)) }

func (m *machine) store() {
	at, u := m.take(), m.take()
	m.put(at, num.Bytes(u))
}

func (m *machine) storeByte() {
	at, u := m.take(), m.take()
	m.put(at, num.Bytes(u)[wordBytes-1:])
}

func (m *machine) jump() { m.Pc = small(m.take()) }

func (m *machine) jumpIf() {
	to, asked := m.take(), m.take()
	if asked != (api.U{}) {
		m.Pc = small(to)
	}
}

func (m *machine) place()   { m.layInt(m.at) }
func (m *machine) memSize() { m.layInt(len(m.Mem)) }
func (m *machine) gasLeft() { m.layInt(m.Gas) }
func (m *machine) dest()    {}

func (m *machine) push() {
	n := int(m.op - opPush0)
	m.layBytes(mem.Slice(m.Code, num.Of(uint64(m.Pc)), n))
	m.Pc += n
}

func (m *machine) dup() { m.lay(m.top(int(m.op - opDup1))) }

func (m *machine) swap() {
	top := len(m.Stack) - 1
	low := top - 1 - int(m.op-opSwap1)
	m.Stack[top], m.Stack[low] = m.Stack[low], m.Stack[top]
}

func (m *machine) two(reckon func(a, b api.U) api.U) {
	a, b := m.take(), m.take()
	m.lay(reckon(a, b))
}

func (m *machine) three(reckon func(a, b, c api.U) api.U) {
	a, b, c := m.take(), m.take(), m.take()
	m.lay(reckon(a, b, c))
}

func (m *machine) which(holds func(a, b api.U) bool) {
	a, b := m.take(), m.take()
	m.lay(truth(holds(a, b)))
}

func (m *machine) shift(by func(a api.U, n uint64) api.U) {
	n, u := m.take(), m.take()
	if num.Bits(n) > 64 {
		n = num.Of(allBits)
	}
	m.lay(by(u, n[0]))
}

func (m *machine) copyOf(text string) {
	to, from, n := m.take(), m.take(), m.take()
	m.put(to, mem.Slice(text, from, small(n)))
}

func (m *machine) end(stand int) {
	from, n := m.take(), m.take()
	m.Out = mem.Slice(m.Mem, from, small(n))
	m.Stand = stand
}

func (m *machine) put(at api.U, s string) { m.Mem = mem.Put(m.Mem, small(at), s) }

// layBytes lays down the number of at most 32 bytes.
func (m *machine) layBytes(s string) { m.lay(first(num.Read(s))) }

func (m *machine) layInt(n int) { m.lay(num.Of(uint64(n))) }

func truth(holds bool) api.U {
	if holds {
		return num.Of(1)
	}
	return num.Of(0)
}

// first and second are what is wanted of two results.
func first[T any](a api.U, _ T) api.U  { return a }
func second[T any](_ T, b api.U) api.U { return b }
