package vm

// The operations' bytes; of those that go by a number the first and the last. Behind them the chapter's name, where it is another.
const (
	opStop      = 0x00
	opAdd       = 0x01
	opMul       = 0x02
	opSub       = 0x03
	opDiv       = 0x04
	opSignDiv   = 0x05 // SDIV
	opRest      = 0x06 // MOD
	opSignRest  = 0x07 // SMOD
	opAddMod    = 0x08
	opMulMod    = 0x09
	opPower     = 0x0a // EXP
	opExtend    = 0x0b // SIGNEXTEND
	opLess      = 0x10 // LT
	opMore      = 0x11 // GT
	opSignLess  = 0x12 // SLT
	opSignMore  = 0x13 // SGT
	opSame      = 0x14 // EQ
	opIsZero    = 0x15
	opAnd       = 0x16
	opOr        = 0x17
	opXor       = 0x18
	opNot       = 0x19
	opOneByte   = 0x1a // BYTE
	opShiftUp   = 0x1b // SHL
	opShiftDown = 0x1c // SHR
	opSignDown  = 0x1d // SAR
	opKeccak    = 0x20 // KECCAK256
	opInputLoad = 0x35 // CALLDATALOAD
	opInputSize = 0x36 // CALLDATASIZE
	opInputCopy = 0x37 // CALLDATACOPY
	opCodeSize  = 0x38
	opCodeCopy  = 0x39
	opPop       = 0x50
	opLoad      = 0x51 // MLOAD
	opStore     = 0x52 // MSTORE
	opStoreByte = 0x53 // MSTORE8
	opJump      = 0x56
	opJumpIf    = 0x57 // JUMPI
	opPlace     = 0x58 // PC
	opMemSize   = 0x59 // MSIZE
	opGasLeft   = 0x5a // GAS
	opDest      = 0x5b // JUMPDEST
	opPush0     = 0x5f
	opPush32    = 0x7f
	opDup1      = 0x80
	opDup16     = 0x8f
	opSwap1     = 0x90
	opSwap16    = 0x9f
	opGiveOut   = 0xf3 // RETURN
	opGiveBack  = 0xfd // REVERT
	opInvalid   = 0xfe
)

// operation is the method that does an operation; none of a byte that is none, nor of INVALID, which is there to be wrong.
func operation(op byte) func(*machine) {
	switch {
	case op <= opExtend:
		return reckoning(op)
	case op <= opSignDown:
		return holding(op)
	case op <= opCodeCopy:
		return reading(op)
	case op <= opDest:
		return keeping(op)
	case opPush0 <= op && op <= opPush32:
		return (*machine).push
	case opDup1 <= op && op <= opDup16:
		return (*machine).dup
	case opSwap1 <= op && op <= opSwap16:
		return (*machine).swap
	case op == opGiveOut:
		return (*machine).giveOut
	case op == opGiveBack:
		return (*machine).giveBack
	}
	return nil
}

// reckoning has STOP to SIGNEXTEND.
func reckoning(op byte) func(*machine) {
	switch op {
	case opStop:
		return (*machine).stop
	case opAdd:
		return (*machine).add
	case opMul:
		return (*machine).mul
	case opSub:
		return (*machine).sub
	case opDiv:
		return (*machine).div
	case opSignDiv:
		return (*machine).signDiv
	case opRest:
		return (*machine).rest
	case opSignRest:
		return (*machine).signRest
	case opAddMod:
		return (*machine).addMod
	case opMulMod:
		return (*machine).mulMod
	case opPower:
		return (*machine).power
	case opExtend:
		return (*machine).extend
	}
	return nil
}

// holding has LT to SAR: what holds of numbers, and of their bits.
func holding(op byte) func(*machine) {
	switch op {
	case opLess:
		return (*machine).less
	case opMore:
		return (*machine).more
	case opSignLess:
		return (*machine).signLess
	case opSignMore:
		return (*machine).signMore
	case opSame:
		return (*machine).same
	case opIsZero:
		return (*machine).isZero
	case opAnd:
		return (*machine).and
	case opOr:
		return (*machine).or
	case opXor:
		return (*machine).xor
	case opNot:
		return (*machine).not
	case opOneByte:
		return (*machine).oneByte
	case opShiftUp:
		return (*machine).shiftUp
	case opShiftDown:
		return (*machine).shiftDown
	case opSignDown:
		return (*machine).signDown
	}
	return nil
}

// reading has KECCAK256 to CODECOPY.
func reading(op byte) func(*machine) {
	switch op {
	case opKeccak:
		return (*machine).keccak
	case opInputLoad:
		return (*machine).inputLoad
	case opInputSize:
		return (*machine).inputSize
	case opInputCopy:
		return (*machine).inputCopy
	case opCodeSize:
		return (*machine).codeSize
	case opCodeCopy:
		return (*machine).codeCopy
	}
	return nil
}

// keeping has POP to JUMPDEST.
func keeping(op byte) func(*machine) {
	switch op {
	case opPop:
		return (*machine).pop
	case opLoad:
		return (*machine).load
	case opStore:
		return (*machine).store
	case opStoreByte:
		return (*machine).storeByte
	case opJump:
		return (*machine).jump
	case opJumpIf:
		return (*machine).jumpIf
	case opPlace:
		return (*machine).place
	case opMemSize:
		return (*machine).memSize
	case opGasLeft:
		return (*machine).gasLeft
	case opDest:
		return (*machine).dest
	}
	return nil
}
