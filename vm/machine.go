package vm

import (
	"truce/api"
	"truce/codes"
	"truce/mem"
	"truce/num"
)

// What an operation's numbers add to its gas.
const (
	gasPowerByte  = 50
	gasKeccakWord = 6
	gasCopyWord   = 3
)

// wrong is what is thrown where a run can't go on.
type wrong api.Errno

func ask(holds bool, err api.Errno) {
	if !holds {
		panic(wrong(err))
	}
}

// machine does the operations of the run that it embeds.
type machine struct {
	api.Frame
	op byte
	at int // the place of op, Pc being behind it already while it is done
	// dests is asked for at a run's first jump alone: it takes going through all of the code.
	dests []bool
}

// step does the next operation. All that can be wrong is asked ahead of the first change, so that a wrong run is left as it was.
func (m *machine) step() {
	m.op, m.at = m.next(), m.Pc
	do := operation(m.op)
	ask(do != nil, api.ErrOp)
	m.askStack()
	grown, cost := m.grow()
	gas := codes.Gas(m.op) + m.extra() + cost
	ask(gas <= m.Gas, api.ErrGas)
	ask(!m.jumps() || m.isDest(m.top(0)), api.ErrJump)
	m.Gas -= gas
	m.Mem = grown
	m.Pc++
	do(m)
}

// catch does work, and ends the run where something wrong was thrown. What no machine threw is a fault of the program: it goes on.
func (m *machine) catch(work func()) {
	defer func() {
		thrown := recover()
		if thrown == nil {
			return
		}
		why, ok := thrown.(wrong)
		if !ok {
			panic(thrown)
		}
		m.Gas, m.Stand, m.Err = 0, api.RnWrong, api.Errno(why)
	}()
	work()
}

// told is the run as it is handed out: a stack without numbers is none.
func (m *machine) told() api.Frame {
	if len(m.Stack) == 0 {
		m.Stack = nil
	}
	return m.Frame
}

// next is the operation at the run's place; ahead of the code there is none.
func (m *machine) next() byte {
	switch {
	case m.Pc < 0:
		return opInvalid
	case m.Pc >= len(m.Code):
		return opStop
	}
	return m.Code[m.Pc]
}

func (m *machine) askStack() {
	takes, lays := codes.Takes(m.op)
	left := len(m.Stack) - takes
	ask(left >= 0 && left+lays <= api.MaxStack, api.ErrStack)
}

// grow is memory as the operation needs it, and what that costs.
func (m *machine) grow() (string, int) {
	at, n := m.reach()
	grown, cost, err := mem.Grow(m.Mem, at, n)
	ask(err == api.OK, err)
	return grown, cost
}

// reach is from where on, and how many, bytes of memory the operation reads or writes.
func (m *machine) reach() (api.U, api.U) {
	switch m.op {
	case opKeccak, opGiveOut, opGiveBack:
		return m.top(0), m.top(1)
	case opInputCopy, opCodeCopy:
		return m.top(0), m.top(2)
	case opLoad, opStore:
		return m.top(0), num.Of(wordBytes)
	case opStoreByte:
		return m.top(0), num.Of(1)
	}
	return api.U{}, api.U{}
}

// extra is the gas that the operation's numbers add. Its lengths are small: it is asked behind grow.
func (m *machine) extra() int {
	switch m.op {
	case opPower:
		return gasPowerByte * bytesOf(m.top(1))
	case opKeccak:
		return gasKeccakWord * mem.Words(small(m.top(1)))
	case opInputCopy, opCodeCopy:
		return gasCopyWord * mem.Words(small(m.top(2)))
	}
	return 0
}

// jumps tells whether the operation goes elsewhere.
func (m *machine) jumps() bool {
	return m.op == opJump || m.op == opJumpIf && m.top(1) != api.U{}
}

func (m *machine) isDest(to api.U) bool {
	if m.dests == nil {
		m.dests = codes.Dests(m.Code)
	}
	return num.Cmp(to, num.Of(uint64(len(m.dests)))) < 0 && m.dests[small(to)]
}

// top is the k-th number from the top, which is 0.
func (m *machine) top(k int) api.U { return m.Stack[len(m.Stack)-1-k] }

func (m *machine) take() api.U {
	u := m.top(0)
	m.Stack = m.Stack[:len(m.Stack)-1]
	return u
}

func (m *machine) lay(u api.U) { m.Stack = append(m.Stack, u) }

// small is a number that is known to be one of int's.
func small(u api.U) int { return int(u[0]) }

// bytesOf is how many bytes a number needs.
func bytesOf(u api.U) int { return (num.Bits(u) + 7) / 8 }
