package vm

import (
	"fmt"
	"math/big"
	"strings"

	"truce/api"
	"truce/hash"
	"truce/num"
)

// table is the operations, their bytes, what they take and lay down, their gas, without those that go by a number.
const table = `
00 STOP 0 0 0
01 ADD 2 1 3
02 MUL 2 1 5
03 SUB 2 1 3
04 DIV 2 1 5
05 SDIV 2 1 5
06 MOD 2 1 5
07 SMOD 2 1 5
08 ADDMOD 3 1 8
09 MULMOD 3 1 8
0a EXP 2 1 10
0b SIGNEXTEND 2 1 5
10 LT 2 1 3
11 GT 2 1 3
12 SLT 2 1 3
13 SGT 2 1 3
14 EQ 2 1 3
15 ISZERO 1 1 3
16 AND 2 1 3
17 OR 2 1 3
18 XOR 2 1 3
19 NOT 1 1 3
1a BYTE 2 1 3
1b SHL 2 1 3
1c SHR 2 1 3
1d SAR 2 1 3
20 KECCAK256 2 1 30
35 CALLDATALOAD 1 1 3
36 CALLDATASIZE 0 1 2
37 CALLDATACOPY 3 0 3
38 CODESIZE 0 1 2
39 CODECOPY 3 0 3
50 POP 1 0 2
51 MLOAD 1 1 3
52 MSTORE 2 0 3
53 MSTORE8 2 0 3
56 JUMP 1 0 8
57 JUMPI 2 0 10
58 PC 0 1 2
59 MSIZE 0 1 2
5a GAS 0 1 2
5b JUMPDEST 0 0 1
f3 RETURN 2 0 0
fd REVERT 2 0 0
fe INVALID 0 0 0
5f PUSH0 0 1 2`

type plainOp struct {
	name             string
	number           int
	takes, lays, gas int
}

// plain is the operations by their bytes.
var plain = plainTable()

func plainTable() map[byte]plainOp {
	out := map[byte]plainOp{}
	for _, line := range strings.Split(strings.TrimSpace(table), "\n") {
		var op byte
		var o plainOp
		if _, err := fmt.Sscanf(line, "%x %s %d %d %d", &op, &o.name, &o.takes, &o.lays, &o.gas); err != nil {
			panic(err)
		}
		out[op] = o
	}
	for n := 1; n <= 32; n++ {
		out[byte(0x5f+n)] = plainOp{"PUSH", n, 0, 1, 3}
	}
	for n := 1; n <= 16; n++ {
		out[byte(0x7f+n)] = plainOp{"DUP", n, n, n + 1, 3}
		out[byte(0x8f+n)] = plainOp{"SWAP", n, n + 1, n + 1, 3}
	}
	return out
}

// whole is 2^256.
var whole = new(big.Int).Lsh(big.NewInt(1), 256)

func toBig(u api.U) *big.Int { return new(big.Int).SetBytes([]byte(num.Bytes(u))) }

// ofBig is a number modulo 2^256.
func ofBig(x *big.Int) api.U {
	var raw [32]byte
	new(big.Int).Mod(x, whole).FillBytes(raw[:])
	u, _ := num.Read(string(raw[:]))
	return u
}

// signed is a number below 2^256 with its sign.
func signed(x *big.Int) *big.Int {
	if x.Bit(255) == 1 {
		return new(big.Int).Sub(x, whole)
	}
	return x
}

func truthOf(holds bool) *big.Int {
	if holds {
		return big.NewInt(1)
	}
	return new(big.Int)
}

// plainBytes is n bytes of a text, looked for one by one.
func plainBytes(s string, from *big.Int, n int) string {
	var out []byte
	for i := range n {
		at := new(big.Int).Add(from, big.NewInt(int64(i)))
		if at.Cmp(big.NewInt(int64(len(s)))) < 0 {
			out = append(out, s[at.Int64()])
		} else {
			out = append(out, 0)
		}
	}
	return string(out)
}

func plainWords(n int) int { return (n + 31) / 32 }

func plainCost(words int) int { return 3*words + words*words/512 }

// plainJump tells whether one can jump to a place: the code is gone through from its first byte on.
func plainJump(code string, to *big.Int) bool {
	for at := 0; at < len(code); at++ {
		if to.Cmp(big.NewInt(int64(at))) == 0 {
			return code[at] == 0x5b
		}
		at += owned(code[at])
	}
	return false
}

func owned(op byte) int {
	if o := plain[op]; o.name == "PUSH" {
		return o.number
	}
	return 0
}

// plainReckon is what an operation makes of its numbers alone.
func plainReckon(name string, a, b, c *big.Int) (*big.Int, bool) {
	z := new(big.Int)
	zero := func(by *big.Int, reckon func() *big.Int) *big.Int {
		if by.Sign() == 0 {
			return z
		}
		return reckon()
	}
	switch name {
	case "ADD":
		return z.Add(a, b), true
	case "MUL":
		return z.Mul(a, b), true
	case "SUB":
		return z.Sub(a, b), true
	case "DIV":
		return zero(b, func() *big.Int { return z.Div(a, b) }), true
	case "SDIV":
		return zero(b, func() *big.Int { return z.Quo(signed(a), signed(b)) }), true
	case "MOD":
		return zero(b, func() *big.Int { return z.Mod(a, b) }), true
	case "SMOD":
		return zero(b, func() *big.Int { return z.Rem(signed(a), signed(b)) }), true
	case "ADDMOD":
		return zero(c, func() *big.Int { return z.Mod(z.Add(a, b), c) }), true
	case "MULMOD":
		return zero(c, func() *big.Int { return z.Mod(z.Mul(a, b), c) }), true
	case "EXP":
		return z.Exp(a, b, whole), true
	case "SIGNEXTEND":
		return plainExtend(a, b), true
	case "LT":
		return truthOf(a.Cmp(b) < 0), true
	case "GT":
		return truthOf(a.Cmp(b) > 0), true
	case "SLT":
		return truthOf(signed(a).Cmp(signed(b)) < 0), true
	case "SGT":
		return truthOf(signed(a).Cmp(signed(b)) > 0), true
	case "EQ":
		return truthOf(a.Cmp(b) == 0), true
	case "ISZERO":
		return truthOf(a.Sign() == 0), true
	case "AND":
		return z.And(a, b), true
	case "OR":
		return z.Or(a, b), true
	case "XOR":
		return z.Xor(a, b), true
	case "NOT":
		return z.Not(a), true
	case "BYTE":
		return plainByte(a, b), true
	case "SHL":
		return z.Lsh(b, plainShift(a)), true
	case "SHR":
		return z.Rsh(b, plainShift(a)), true
	case "SAR":
		return z.Rsh(signed(b), plainShift(a)), true
	}
	return nil, false
}

// plainShift is by how much is shifted: behind 256 nothing changes any more.
func plainShift(a *big.Int) uint {
	if a.Cmp(big.NewInt(256)) > 0 {
		return 256
	}
	return uint(a.Uint64())
}

func plainExtend(k, x *big.Int) *big.Int {
	if k.Cmp(big.NewInt(31)) >= 0 {
		return x
	}
	out := new(big.Int).Set(x)
	top := int(k.Int64())*8 + 7
	for bit := top + 1; bit < 256; bit++ {
		out.SetBit(out, bit, x.Bit(top))
	}
	return out
}

func plainByte(k, x *big.Int) *big.Int {
	if k.Cmp(big.NewInt(32)) >= 0 {
		return new(big.Int)
	}
	return big.NewInt(int64(x.FillBytes(make([]byte, 32))[k.Int64()]))
}

// plainReach is how many bytes of memory are read or written from the top number on.
func plainReach(name string, b, c *big.Int) *big.Int {
	switch name {
	case "KECCAK256", "RETURN", "REVERT":
		return b
	case "CALLDATACOPY", "CODECOPY":
		return c
	case "MLOAD", "MSTORE":
		return big.NewInt(32)
	case "MSTORE8":
		return big.NewInt(1)
	}
	return new(big.Int)
}

// plainStep does an operation as the chapter says it, in numbers without bounds.
func plainStep(f api.Frame) api.Frame {
	wrong := func(err api.Errno) api.Frame {
		out := f
		out.Gas, out.Stand, out.Err = 0, api.RnWrong, err
		return out
	}
	if f.Stand != api.RnGoes {
		return f
	}
	op := byte(0)
	if f.Pc < len(f.Code) {
		op = f.Code[f.Pc]
	}
	o, there := plain[op]
	if !there || o.name == "INVALID" {
		return wrong(api.ErrOp)
	}
	if len(f.Stack) < o.takes || len(f.Stack)-o.takes+o.lays > 256 {
		return wrong(api.ErrStack)
	}
	n := func(k int) *big.Int {
		if k >= o.takes {
			return new(big.Int)
		}
		return toBig(f.Stack[len(f.Stack)-1-k])
	}
	a, b, c := n(0), n(1), n(2)
	mem, gas := f.Mem, o.gas
	if reach := plainReach(o.name, b, c); reach.Sign() > 0 {
		end := new(big.Int).Add(a, reach)
		if end.Cmp(big.NewInt(4096)) > 0 {
			return wrong(api.ErrRange)
		}
		for len(mem) < int(end.Int64()) {
			mem += strings.Repeat("\x00", 32)
		}
		gas += plainCost(len(mem)/32) - plainCost(len(f.Mem)/32)
	}
	switch o.name {
	case "EXP":
		gas += 50 * len(b.Bytes())
	case "KECCAK256":
		gas += 6 * plainWords(int(b.Int64()))
	case "CALLDATACOPY", "CODECOPY":
		gas += 3 * plainWords(int(c.Int64()))
	}
	if gas > f.Gas {
		return wrong(api.ErrGas)
	}
	if o.name == "JUMP" || o.name == "JUMPI" && b.Sign() != 0 {
		if !plainJump(f.Code, a) {
			return wrong(api.ErrJump)
		}
	}
	out := f
	out.Gas, out.Mem, out.Pc = f.Gas-gas, mem, f.Pc+1
	out.Stack = append([]api.U{}, f.Stack[:len(f.Stack)-o.takes]...)
	return plainDo(f, out, o, a, b, c)
}

// plainDo lays down what an operation tells: f is the run ahead of it, out the one whose numbers are taken and whose memory has grown.
func plainDo(f, out api.Frame, o plainOp, a, b, c *big.Int) api.Frame {
	lay := func(x *big.Int) { out.Stack = append(out.Stack, ofBig(x)) }
	layBytes := func(s string) { lay(new(big.Int).SetBytes([]byte(s))) }
	layInt := func(n int) { lay(big.NewInt(int64(n))) }
	put := func(s string) {
		raw := []byte(out.Mem)
		for i := range len(s) {
			raw[int(a.Int64())+i] = s[i]
		}
		out.Mem = string(raw)
	}
	if x, ok := plainReckon(o.name, a, b, c); ok {
		lay(x)
		return out
	}
	taken := f.Stack[len(f.Stack)-o.takes:]
	switch o.name {
	case "STOP":
		out.Stand = api.RnDone
	case "RETURN", "REVERT":
		out.Out, out.Stand = plainBytes(out.Mem, a, int(b.Int64())), api.RnDone
		if o.name == "REVERT" {
			out.Stand = api.RnBack
		}
	case "KECCAK256":
		layBytes(hash.Sum(plainBytes(out.Mem, a, int(b.Int64()))))
	case "CALLDATALOAD":
		layBytes(plainBytes(f.Input, a, 32))
	case "CALLDATASIZE":
		layInt(len(f.Input))
	case "CALLDATACOPY":
		put(plainBytes(f.Input, b, int(c.Int64())))
	case "CODESIZE":
		layInt(len(f.Code))
	case "CODECOPY":
		put(plainBytes(f.Code, b, int(c.Int64())))
	case "POP", "JUMPDEST":
	case "MLOAD":
		layBytes(plainBytes(out.Mem, a, 32))
	case "MSTORE":
		put(string(b.FillBytes(make([]byte, 32))))
	case "MSTORE8":
		put(string([]byte{byte(new(big.Int).And(b, big.NewInt(255)).Int64())}))
	case "JUMP":
		out.Pc = int(a.Int64())
	case "JUMPI":
		if b.Sign() != 0 {
			out.Pc = int(a.Int64())
		}
	case "PC":
		layInt(f.Pc)
	case "MSIZE":
		layInt(len(out.Mem))
	case "GAS":
		layInt(out.Gas)
	case "PUSH0":
		layInt(0)
	case "PUSH":
		layBytes(plainBytes(f.Code, big.NewInt(int64(f.Pc+1)), o.number))
		out.Pc += o.number
	case "DUP":
		out.Stack = append(append(out.Stack, taken...), taken[0])
	case "SWAP":
		out.Stack = append(append(append(out.Stack, taken[o.number]), taken[1:o.number]...), taken[0])
	default:
		panic("no plain way of " + o.name)
	}
	return out
}

// plainRun steps the plain way till it does not go, and counts the steps.
func plainRun(code, input string, gas int) (api.Frame, int) {
	f := api.Frame{Code: code, Input: input, Gas: gas}
	steps := 0
	for f.Stand == api.RnGoes {
		f = plainStep(f)
		steps++
	}
	return f, steps
}
