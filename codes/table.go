package codes

// Bytes of operations that are asked for by themselves.
const (
	keccak   = 0x20
	jumpDest = 0x5b
	goBack   = 0xf3 // RETURN
	revert   = 0xfd
	invalid  = 0xfe
)

// The first byte of each table, and of those that go by a number.
const (
	fromStop  = 0x00
	fromLess  = 0x10
	fromInput = 0x35
	fromPop   = 0x50
	fromPush  = 0x60
	fromDup   = 0x80
	fromSwap  = 0x90
	pastSwap  = 0xa0
)

// operation is what is known of an operation; its name is without its number, if it goes by one. A byte that is none has no name.
type operation struct {
	name  string
	takes int
	lays  int
	gas   int
}

var stopTable = [...]operation{
	{"STOP", 0, 0, 0},
	{"ADD", 2, 1, 3},
	{"MUL", 2, 1, 5},
	{"SUB", 2, 1, 3},
	{"DIV", 2, 1, 5},
	{"SDIV", 2, 1, 5},
	{"MOD", 2, 1, 5},
	{"SMOD", 2, 1, 5},
	{"ADDMOD", 3, 1, 8},
	{"MULMOD", 3, 1, 8},
	{"EXP", 2, 1, 10},
	{"SIGNEXTEND", 2, 1, 5},
}

var lessTable = [...]operation{
	{"LT", 2, 1, 3},
	{"GT", 2, 1, 3},
	{"SLT", 2, 1, 3},
	{"SGT", 2, 1, 3},
	{"EQ", 2, 1, 3},
	{"ISZERO", 1, 1, 3},
	{"AND", 2, 1, 3},
	{"OR", 2, 1, 3},
	{"XOR", 2, 1, 3},
	{"NOT", 1, 1, 3},
	{"BYTE", 2, 1, 3},
	{"SHL", 2, 1, 3},
	{"SHR", 2, 1, 3},
	{"SAR", 2, 1, 3},
}

var inputTable = [...]operation{
	{"CALLDATALOAD", 1, 1, 3},
	{"CALLDATASIZE", 0, 1, 2},
	{"CALLDATACOPY", 3, 0, 3},
	{"CODESIZE", 0, 1, 2},
	{"CODECOPY", 3, 0, 3},
}

// The rows of popTable without a name hold the places of bytes that are none.
var popTable = [...]operation{
	{"POP", 1, 0, 2},
	{"MLOAD", 1, 1, 3},
	{"MSTORE", 2, 0, 3},
	{"MSTORE8", 2, 0, 3},
	{},
	{},
	{"JUMP", 1, 0, 8},
	{"JUMPI", 2, 0, 10},
	{"PC", 0, 1, 2},
	{"MSIZE", 0, 1, 2},
	{"GAS", 0, 1, 2},
	{"JUMPDEST", 0, 0, 1},
	{},
	{},
	{},
	{"PUSH0", 0, 1, 2},
}

// find is what is known of a byte.
func find(op byte) operation {
	at := int(op)
	switch {
	case at < fromStop+len(stopTable):
		return stopTable[at-fromStop]
	case fromLess <= at && at < fromLess+len(lessTable):
		return lessTable[at-fromLess]
	case at == keccak:
		return operation{"KECCAK256", 2, 1, 30}
	case fromInput <= at && at < fromInput+len(inputTable):
		return inputTable[at-fromInput]
	case fromPop <= at && at < fromPop+len(popTable):
		return popTable[at-fromPop]
	case at == goBack:
		return operation{"RETURN", 2, 0, 0}
	case at == revert:
		return operation{"REVERT", 2, 0, 0}
	case at == invalid:
		return operation{"INVALID", 0, 0, 0}
	}
	return findNumbered(op)
}

// findNumbered is what is known of a byte PUSH1 to SWAP16.
func findNumbered(op byte) operation {
	n := number(op)
	switch {
	case n == 0:
		return operation{}
	case op < fromDup:
		return operation{"PUSH", 0, 1, 3}
	case op < fromSwap:
		return operation{"DUP", n, n + 1, 3}
	}
	return operation{"SWAP", n + 1, n + 1, 3}
}

// number is which PUSH, DUP or SWAP a byte is; 0: it goes by no number. PUSH0 does not: it has a row, as it costs less.
func number(op byte) int {
	switch {
	case fromPush <= op && op < fromDup:
		return int(op-fromPush) + 1
	case fromDup <= op && op < fromSwap:
		return int(op-fromDup) + 1
	case fromSwap <= op && op < pastSwap:
		return int(op-fromSwap) + 1
	}
	return 0
}

// owned is how many bytes behind an operation are its own.
func owned(op byte) int {
	if op >= fromDup {
		return 0
	}
	return number(op)
}
