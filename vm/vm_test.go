package vm

import (
	"encoding/hex"
	"fmt"
	"math"
	"reflect"
	"slices"
	"strings"
	"testing"

	"truce/api"
	"truce/codes"
	"truce/hash"
	"truce/num"
)

// most is the greatest number.
var most = num.Not(api.U{})

func zeros(n int) string { return strings.Repeat("\x00", n) }

// up is 2^n.
func up(n uint64) api.U { return num.Shl(num.Of(1), n) }

// minus is a small number's negative.
func minus(n uint64) api.U {
	u, _ := num.Sub(api.U{}, num.Of(n))
	return u
}

// less is a number less a small one.
func less(u api.U, n uint64) api.U {
	out, _ := num.Sub(u, num.Of(n))
	return out
}

// stack is numbers, the top one first, as a run has them.
func stack(top ...api.U) []api.U {
	out := slices.Clone(top)
	slices.Reverse(out)
	return out
}

func ofs(ns ...uint64) []api.U {
	var out []api.U
	for _, n := range ns {
		out = append(out, num.Of(n))
	}
	return out
}

// mix is splitmix64.
func mix(seed *uint64) uint64 {
	*seed += 0x9e3779b97f4a7c15
	z := *seed
	z = (z ^ z>>30) * 0xbf58476d1ce4e5b9
	z = (z ^ z>>27) * 0x94d049bb133111eb
	return z ^ z>>31
}

func below(seed *uint64, n int) int { return int(mix(seed) % uint64(n)) }

func textOf(seed *uint64, n int) string {
	out := make([]byte, n)
	for i := range out {
		out[i] = byte(mix(seed))
	}
	return string(out)
}

// numberOf is one of those at which operations turn, or any.
func numberOf(seed *uint64) api.U {
	switch below(seed, 6) {
	case 0:
		return num.Of(mix(seed) % 70)
	case 1:
		return num.Of(mix(seed) % 4200)
	case 2:
		return less(up(mix(seed)%257), mix(seed)%3)
	case 3:
		return minus(mix(seed) % 300)
	case 4:
		return num.Shr(api.U{mix(seed), mix(seed), mix(seed), mix(seed)}, mix(seed)%256)
	}
	return num.Of([]uint64{0, 1, 31, 32, 255, 256, 4063, 4064, 4065, 4095, 4096, 4097, 65536, 65537, 1 << 63, math.MaxUint64}[below(seed, 16)])
}

// frameOf is a fit run that goes, with an operation at its place.
func frameOf(seed *uint64, op byte) api.Frame {
	pc := below(seed, 40)
	code := []byte(textOf(seed, pc) + string([]byte{op}) + textOf(seed, below(seed, 50)))
	for i := range code {
		if i != pc && below(seed, 4) == 0 {
			code[i] = 0x5b
		}
	}
	f := api.Frame{Code: string(code), Input: textOf(seed, below(seed, 80)), Pc: pc, Gas: api.MaxGas - below(seed, 1000)}
	f.Mem = textOf(seed, 32*[]int{0, 0, 1, 2, 5, 22, 23, 127, 128}[below(seed, 9)])
	size := []int{0, 1, 2, 3, 4, below(seed, 257), below(seed, 40), 254, 255, 256}[below(seed, 10)]
	for range size {
		f.Stack = append(f.Stack, numberOf(seed))
	}
	if below(seed, 3) == 0 {
		f.Out, f.Err = textOf(seed, below(seed, 5)), api.Errno(below(seed, 30))
	}
	return f
}

// sameFrame is by all that a run holds, as Same is a thing to be tested itself.
func sameFrame(a, b api.Frame) bool {
	a.Stack, b.Stack = append([]api.U{}, a.Stack...), append([]api.U{}, b.Stack...)
	return reflect.DeepEqual(a, b)
}

func show(f api.Frame) string {
	tail := f.Stack[max(0, len(f.Stack)-4):]
	return fmt.Sprintf("code %x pc %d gas %d stand %d err %d out %x mem %d stack %d .. %x", f.Code, f.Pc, f.Gas, f.Stand, f.Err, f.Out, len(f.Mem), len(f.Stack), tail)
}

func code(t testing.TB, text string) string {
	t.Helper()
	out, at, err := codes.Assemble(text)
	if err != api.OK {
		t.Fatalf("%q can't be assembled: %d", text, at)
	}
	return out
}

// The chapter's examples, and the document's of runs.
func TestExamples(t *testing.T) {
	a := Run(code(t, "PUSH1 02 PUSH1 03 ADD PUSH0 MSTORE PUSH1 20 PUSH0 RETURN"), "", 1000)
	if a.Stand != api.RnDone || a.Out != num.Bytes(num.Of(5)) || a.Err != api.OK {
		t.Errorf("2 and 3: %s", show(a))
	}
	for _, c := range []struct {
		code  string
		stand int
		err   api.Errno
		out   string
	}{
		{"01", api.RnWrong, api.ErrStack, ""},
		{"600956", api.RnWrong, api.ErrJump, ""},
		{"600556", api.RnWrong, api.ErrJump, ""},
		{"60055f5260205ff3", api.RnDone, api.OK, num.Bytes(num.Of(5))},
		{"5f5ffd", api.RnBack, api.OK, ""},
		{"60", api.RnDone, api.OK, ""},
		{"", api.RnDone, api.OK, ""},
		{"fe", api.RnWrong, api.ErrOp, ""},
		{"0c", api.RnWrong, api.ErrOp, ""},
	} {
		raw, _ := hex.DecodeString(c.code)
		f := Run(string(raw), "", 1000)
		if f.Stand != c.stand || f.Err != c.err || f.Out != c.out {
			t.Errorf("run of %s: %s", c.code, show(f))
		}
	}
}

// P13.1: each operation's numbers, written out.
func TestTold(t *testing.T) {
	minusOne := most
	for _, c := range []struct {
		op   string
		take []api.U // the top one first
		lays []api.U
	}{
		{"ADD", ofs(2, 3), ofs(5)},
		{"ADD", stack(num.Of(2), most), ofs(1)},
		{"MUL", ofs(6, 7), ofs(42)},
		{"SUB", ofs(7, 5), ofs(2)},
		{"SUB", ofs(5, 7), []api.U{minus(2)}},
		{"DIV", ofs(7, 2), ofs(3)},
		{"DIV", ofs(7, 0), ofs(0)},
		{"DIV", []api.U{minus(7), num.Of(2)}, []api.U{less(up(255), 4)}},
		{"SDIV", []api.U{minus(7), num.Of(2)}, []api.U{minus(3)}},
		{"SDIV", []api.U{up(255), minusOne}, []api.U{up(255)}},
		{"MOD", ofs(7, 4), ofs(3)},
		{"MOD", ofs(7, 0), ofs(0)},
		{"SMOD", []api.U{minus(7), num.Of(4)}, []api.U{minus(3)}},
		{"SMOD", []api.U{num.Of(7), minus(4)}, ofs(3)},
		{"ADDMOD", []api.U{most, most, num.Of(7)}, ofs(2)},
		{"ADDMOD", ofs(5, 6, 7), ofs(4)},
		{"ADDMOD", ofs(5, 6, 0), ofs(0)},
		{"MULMOD", ofs(5, 6, 7), ofs(2)},
		{"MULMOD", []api.U{most, most, num.Of(12)}, ofs(9)},
		{"EXP", ofs(2, 10), ofs(1024)},
		{"EXP", ofs(10, 2), ofs(100)},
		{"EXP", ofs(0, 0), ofs(1)},
		{"SIGNEXTEND", ofs(0, 0xff), []api.U{minusOne}},
		{"SIGNEXTEND", ofs(0, 0x17f), ofs(0x7f)},
		{"SIGNEXTEND", ofs(1, 0x80ff), []api.U{minus(0x7f01)}},
		{"SIGNEXTEND", ofs(31, 0xff), ofs(0xff)},
		{"LT", ofs(1, 2), ofs(1)}, {"LT", ofs(2, 1), ofs(0)}, {"LT", ofs(2, 2), ofs(0)}, {"LT", []api.U{minusOne, num.Of(1)}, ofs(0)},
		{"GT", ofs(2, 1), ofs(1)}, {"GT", ofs(1, 2), ofs(0)}, {"GT", ofs(2, 2), ofs(0)}, {"GT", []api.U{minusOne, num.Of(1)}, ofs(1)},
		{"SLT", []api.U{minusOne, num.Of(1)}, ofs(1)}, {"SLT", []api.U{num.Of(1), minusOne}, ofs(0)}, {"SLT", ofs(3, 3), ofs(0)},
		{"SGT", []api.U{minusOne, num.Of(1)}, ofs(0)}, {"SGT", []api.U{num.Of(1), minusOne}, ofs(1)}, {"SGT", ofs(3, 3), ofs(0)},
		{"EQ", ofs(3, 3), ofs(1)}, {"EQ", []api.U{up(255), up(254)}, ofs(0)},
		{"ISZERO", ofs(0), ofs(1)}, {"ISZERO", ofs(1), ofs(0)}, {"ISZERO", []api.U{up(192)}, ofs(0)},
		{"AND", ofs(12, 10), ofs(8)}, {"OR", ofs(12, 10), ofs(14)}, {"XOR", ofs(12, 10), ofs(6)},
		{"NOT", ofs(0), []api.U{most}},
		{"BYTE", ofs(31, 0x1234), ofs(0x34)}, {"BYTE", ofs(30, 0x1234), ofs(0x12)}, {"BYTE", ofs(32, 0x1234), ofs(0)}, {"BYTE", []api.U{num.Of(0), up(255)}, ofs(0x80)},
		{"SHL", ofs(4, 1), ofs(16)}, {"SHL", ofs(255, 1), []api.U{up(255)}}, {"SHL", ofs(256, 1), ofs(0)}, {"SHL", []api.U{up(64), num.Of(1)}, ofs(0)},
		{"SHR", ofs(4, 255), ofs(15)}, {"SHR", []api.U{num.Of(256), most}, ofs(0)}, {"SHR", []api.U{up(64), most}, ofs(0)}, {"SHR", []api.U{up(255), num.Of(9)}, ofs(0)},
		{"SAR", []api.U{num.Of(1), minus(3)}, []api.U{minus(2)}}, {"SAR", []api.U{up(64), minus(3)}, []api.U{minusOne}}, {"SAR", []api.U{up(64), num.Of(3)}, ofs(0)}, {"SAR", []api.U{num.Of(256), up(255)}, []api.U{minusOne}},
		{"POP", ofs(3), nil},
		{"PUSH0", nil, ofs(0)},
		{"DUP1", ofs(7), ofs(7, 7)},
		{"DUP3", ofs(1, 2, 3), ofs(3, 1, 2, 3)},
		{"SWAP1", ofs(1, 2), ofs(2, 1)},
		{"SWAP3", ofs(1, 2, 3, 4), ofs(4, 2, 3, 1)},
	} {
		f := api.Frame{Code: code(t, c.op), Stack: append(ofs(77), stack(c.take...)...), Gas: 2000}
		got := Step(f)
		want := append(ofs(77), stack(c.lays...)...)
		if !slices.Equal(got.Stack, want) || got.Stand != api.RnGoes || got.Pc != 1 {
			t.Errorf("%s of %x: %s, want %x", c.op, c.take, show(got), want)
		}
	}
}

// P13.1: what an operation tells of the run, and does to it, written out.
func TestOfTheRun(t *testing.T) {
	input := "abcdefghijklmnopqrstuvwxyz0123456789"
	for _, c := range []struct {
		text string
		gas  int // that goes
		top  api.U
		mem  string
	}{
		{"PUSH1 04 CALLDATALOAD", 6, read(input[4:]), ""},
		{"PUSH1 20 CALLDATALOAD", 6, read("6789" + zeros(28)), ""},
		{"PUSH1 24 CALLDATALOAD", 6, num.Of(0), ""},
		{"PUSH32 " + strings.Repeat("ff", 32) + " CALLDATALOAD", 6, num.Of(0), ""},
		{"CALLDATASIZE", 2, num.Of(36), ""},
		{"PUSH0 POP CODESIZE", 6, num.Of(3), ""},
		{"PC", 2, num.Of(0), ""},
		{"PUSH2 0102 PC", 5, num.Of(3), ""},
		{"PC PC PC", 6, num.Of(2), ""},
		{"GAS", 2, num.Of(2998), ""},
		{"PUSH1 05 POP GAS", 7, num.Of(2993), ""},
		{"MSIZE", 2, num.Of(0), ""},
		{"PUSH0 MLOAD MSIZE", 10, num.Of(32), zeros(32)},
		{"PUSH1 01 MLOAD MSIZE", 14, num.Of(64), zeros(64)},
		{"PUSH1 2a PUSH1 20 MSTORE PUSH1 20 MLOAD", 9 + 6 + 6, num.Of(42), zeros(32) + num.Bytes(num.Of(42))},
		{"PUSH2 0102 PUSH1 03 MSTORE8 PUSH0 MLOAD", 9 + 3 + 5, read("\x00\x00\x00\x02" + zeros(28)), "\x00\x00\x00\x02" + zeros(28)},
		{"PUSH1 02 PUSH1 01 PUSH1 05 CALLDATACOPY MSIZE", 9 + 3 + 3 + 3 + 2, num.Of(32), zeros(5) + "bc" + zeros(25)},
		{"PUSH1 21 PUSH1 22 PUSH0 CALLDATACOPY MSIZE", 8 + 3 + 6 + 6 + 2, num.Of(64), "89" + zeros(62)},
		{"PUSH1 03 PUSH1 02 PUSH0 CODECOPY MSIZE", 8 + 3 + 3 + 3 + 2, num.Of(32), "\x60\x02\x5f" + zeros(29)},
		{"PUSH0 PUSH0 KECCAK256", 4 + 30, read(hash.Sum("")), ""},
		{"PUSH1 21 PUSH1 1f KECCAK256", 6 + 30 + 12 + 6, read(hash.Sum(zeros(33))), zeros(64)},
		{"PUSH0 PUSH32 " + strings.Repeat("ff", 32) + " KECCAK256", 5 + 30, read(hash.Sum("")), ""},
		{"PUSH1 07 PUSH1 06 JUMP INVALID JUMPDEST", 6 + 8 + 1, num.Of(7), ""},
		{"PUSH1 09 PUSH1 01 PUSH1 08 JUMPI INVALID JUMPDEST", 9 + 10 + 1, num.Of(9), ""},
		{"PUSH1 09 PUSH0 PUSH1 ff JUMPI", 8 + 10, num.Of(9), ""},
		{"PUSH1 03 PUSH1 ff EXP", 6 + 10 + 50, num.Of(255 * 255 * 255), ""},
		{"PUSH0 PUSH1 ff EXP", 5 + 10, num.Of(1), ""},
		{"PUSH2 0100 PUSH1 02 EXP", 6 + 10 + 100, num.Of(0), ""},
		{"PUSH32 80" + strings.Repeat("00", 31) + " PUSH1 02 EXP", 6 + 10 + 1600, num.Of(0), ""},
	} {
		f := Run(code(t, c.text), input, 3000)
		if f.Stand != api.RnDone || len(f.Stack) == 0 || f.Stack[len(f.Stack)-1] != c.top || f.Mem != c.mem || f.Gas != 3000-c.gas {
			t.Errorf("%s: %s, want %x on top, %d gas left", c.text, show(f), c.top, 3000-c.gas)
		}
	}
}

func read(s string) api.U {
	u, err := num.Read(s[:min(len(s), 32)])
	if err != api.OK {
		panic(err)
	}
	return u
}

// P13.1: each byte, of runs of all kinds, against the plain way; and so with just as much gas as it needs, with less, and with none.
func TestStepPlain(t *testing.T) {
	seed := uint64(131)
	for i := range 256 {
		op := byte(i)
		rounds := 60
		if plain[op].takes > 0 && plain[op].number == 0 {
			rounds = 400
		}
		for range rounds {
			f := frameOf(&seed, op)
			holdStep(t, f)
			needs := f.Gas - plainStep(f).Gas
			for _, gas := range []int{needs - 1, needs, needs + 1, 0} {
				f.Gas = min(max(gas, 0), api.MaxGas)
				holdStep(t, f)
			}
		}
	}
}

// holdStep holds a step against the plain one, and what holds of every step of a fit run.
func holdStep(t *testing.T, f api.Frame) {
	t.Helper()
	was := slices.Clone(f.Stack)
	got, want := Step(f), plainStep(f)
	if !sameFrame(got, want) {
		t.Fatalf("Step of %s:\n%s, want\n%s", show(f), show(got), show(want))
	}
	if !slices.Equal(was, f.Stack) {
		t.Fatalf("Step of %s changed its stack", show(f))
	}
	if len(got.Stack) == 0 && got.Stack != nil {
		t.Fatalf("Step of %s: an empty list", show(f))
	}
	if !fit(got) || got.Gas > f.Gas || got.Gas == f.Gas && got.Stand == api.RnGoes {
		t.Fatalf("Step of %s: %s is not fit, or has its gas yet", show(f), show(got))
	}
}

// fit is the chapter's.
func fit(f api.Frame) bool {
	last := len(f.Code) + 32
	if f.Stand != api.RnGoes {
		last++
	}
	return len(f.Stack) <= 256 && len(f.Mem) <= 4096 && len(f.Mem)%32 == 0 && f.Pc >= 0 && f.Pc <= last && f.Gas >= 0 && f.Gas <= 100000
}

// P13.1: bytes that are none, and INVALID, are told ahead of all else; the others are just those of codes.
func TestNoOperation(t *testing.T) {
	for i := range 256 {
		op := byte(i)
		none := codes.Name(op) == "" || codes.Name(op) == "INVALID"
		for _, f := range []api.Frame{
			{Code: string([]byte{op})},
			{Code: string([]byte{op}), Gas: 9000, Stack: make([]api.U, 20)},
			{Code: string([]byte{op}), Gas: 9000, Stack: make([]api.U, 256)},
		} {
			if got := Step(f); (got.Err == api.ErrOp) != none {
				t.Errorf("%02x: %s", op, show(got))
			}
		}
	}
}

// P13.1: the stack at its ends: what an operation takes is there or not, and behind it are 256, or one more.
func TestStackEnds(t *testing.T) {
	for op, o := range plain {
		if o.name == "INVALID" {
			continue
		}
		for size := range 257 {
			f := api.Frame{Code: string([]byte{op}), Gas: 100000, Stack: make([]api.U, size)}
			bad := size < o.takes || size-o.takes+o.lays > 256
			if got := Step(f); (got.Err == api.ErrStack) != bad {
				t.Errorf("%s%d at %d numbers: %s", o.name, o.number, size, show(got))
			}
		}
	}
	long := strings.Repeat("\x5f", 256)
	if f := Run(long, "", 1000); f.Stand != api.RnDone || len(f.Stack) != 256 {
		t.Errorf("256 numbers: %s", show(f))
	}
	if f := Run(long+"\x5f", "", 1000); f.Err != api.ErrStack || len(f.Stack) != 256 || f.Pc != 256 {
		t.Errorf("257 numbers: %s", show(f))
	}
	if f := Run(long+"\x90\x15\x80", "", 2000); f.Err != api.ErrStack || f.Pc != 258 {
		t.Errorf("one more by DUP1: %s", show(f))
	}
}

// P13.1: where several are wrong, the first one that is asked for is told; and a wrong run has no gas, and all else as it was.
func TestWrong(t *testing.T) {
	for _, c := range []struct {
		name  string
		op    string
		take  []api.U // the top one first
		gas   int
		want  api.Errno
		stand int
	}{
		{"none ahead of the stack", "INVALID", nil, 0, api.ErrOp, api.RnWrong},
		{"stack ahead of the gas", "ADD", ofs(1), 0, api.ErrStack, api.RnWrong},
		{"stack ahead of memory", "MSTORE", []api.U{most}, 0, api.ErrStack, api.RnWrong},
		{"memory ahead of the gas", "MLOAD", []api.U{most}, 0, api.ErrRange, api.RnWrong},
		{"memory ahead of the gas, by one", "MLOAD", ofs(4065), 0, api.ErrRange, api.RnWrong},
		{"gas behind memory", "MLOAD", ofs(4064), 418, api.ErrGas, api.RnWrong},
		{"gas enough", "MLOAD", ofs(4064), 419, api.OK, api.RnGoes},
		{"its own gas alone is there", "MLOAD", ofs(0), 3, api.ErrGas, api.RnWrong},
		{"memory's gas alone is there", "MLOAD", ofs(0), 5, api.ErrGas, api.RnWrong},
		{"both", "MLOAD", ofs(0), 6, api.OK, api.RnGoes},
		{"gas ahead of a jump", "JUMP", ofs(9), 7, api.ErrGas, api.RnWrong},
		{"a jump", "JUMP", ofs(9), 8, api.ErrJump, api.RnWrong},
		{"gas ahead of a jump, if", "JUMPI", ofs(9, 1), 9, api.ErrGas, api.RnWrong},
		{"a jump, if", "JUMPI", ofs(9, 1), 10, api.ErrJump, api.RnWrong},
		{"a jump, if by a high number", "JUMPI", []api.U{num.Of(9), up(255)}, 10, api.ErrJump, api.RnWrong},
		{"no jump", "JUMPI", ofs(9, 0), 10, api.OK, api.RnGoes},
		{"a jump to itself", "JUMP", ofs(0), 8, api.ErrJump, api.RnWrong},
		{"a jump behind the code", "JUMP", ofs(1), 8, api.ErrJump, api.RnWrong},
		{"a jump far behind", "JUMP", []api.U{most}, 8, api.ErrJump, api.RnWrong},
		{"a power's bytes", "EXP", ofs(2, 256), 109, api.ErrGas, api.RnWrong},
		{"a power's bytes, enough", "EXP", ofs(2, 256), 110, api.OK, api.RnGoes},
		{"a power's one byte", "EXP", ofs(2, 255), 60, api.OK, api.RnGoes},
		{"a power's no byte", "EXP", ofs(2, 0), 10, api.OK, api.RnGoes},
		{"stop without gas", "STOP", nil, 0, api.OK, api.RnDone},
		{"return without gas", "RETURN", ofs(0, 0), 0, api.OK, api.RnDone},
		{"revert without gas", "REVERT", ofs(0, 0), 0, api.OK, api.RnBack},
		{"return needs memory's gas", "RETURN", ofs(0, 1), 2, api.ErrGas, api.RnWrong},
		{"return has memory's gas", "RETURN", ofs(0, 1), 3, api.OK, api.RnDone},
		{"return beyond memory", "RETURN", ofs(4096, 1), 9000, api.ErrRange, api.RnWrong},
		{"revert beyond memory", "REVERT", ofs(1, 4096), 9000, api.ErrRange, api.RnWrong},
		{"return of nothing, far away", "RETURN", []api.U{most, {}}, 0, api.OK, api.RnDone},
		{"keccak too long", "KECCAK256", ofs(0, 65537), 9000, api.ErrRange, api.RnWrong},
		{"keccak of 4097", "KECCAK256", ofs(0, 4097), 0, api.ErrRange, api.RnWrong},
		{"keccak of 4096", "KECCAK256", ofs(0, 4096), 30 + 768 + 416, api.OK, api.RnGoes},
		{"keccak of 4096, too little", "KECCAK256", ofs(0, 4096), 30 + 768 + 415, api.ErrGas, api.RnWrong},
		{"keccak whose sum goes over", "KECCAK256", []api.U{most, num.Of(1)}, 9000, api.ErrRange, api.RnWrong},
		{"copy too long", "CALLDATACOPY", []api.U{{}, {}, up(64)}, 0, api.ErrRange, api.RnWrong},
		{"copy of 65537", "CODECOPY", ofs(0, 0, 65537), 0, api.ErrRange, api.RnWrong},
		{"copy of 4096", "CODECOPY", ofs(0, 0, 4096), 3 + 384 + 416, api.OK, api.RnGoes},
		{"copy of 4096, too little", "CALLDATACOPY", ofs(0, 0, 4096), 3 + 384 + 415, api.ErrGas, api.RnWrong},
		{"copy of nothing, far away", "CALLDATACOPY", []api.U{most, most, {}}, 3, api.OK, api.RnGoes},
		{"one byte at the end", "MSTORE8", ofs(4095, 1), 3 + 416, api.OK, api.RnGoes},
		{"one byte behind the end", "MSTORE8", ofs(4096, 1), 9000, api.ErrRange, api.RnWrong},
	} {
		f := api.Frame{Code: code(t, c.op), Input: "in", Stack: stack(c.take...), Gas: c.gas, Out: "out", Err: api.ErrSeal}
		got := Step(f)
		want := f
		want.Gas, want.Stand, want.Err = 0, api.RnWrong, c.want
		if c.want != api.OK && !sameFrame(got, want) || got.Stand != c.stand || c.want == api.OK && got.Err != api.ErrSeal {
			t.Errorf("%s: %s", c.name, show(got))
		}
	}
}

// P13.1: memory that was there stays as it was, and is not paid for again; a wrong run's does not grow.
func TestMemory(t *testing.T) {
	m := strings.Repeat("m", 64)
	f := api.Frame{Code: "\x51", Stack: ofs(32), Mem: m, Gas: 3}
	if got := Step(f); got.Stand != api.RnGoes || got.Gas != 0 || got.Mem != m || got.Stack[0] != read(m) {
		t.Errorf("MLOAD of what is there: %s", show(got))
	}
	f = api.Frame{Code: "\x51", Stack: ofs(33), Mem: m, Gas: 6}
	if got := Step(f); got.Stand != api.RnGoes || got.Gas != 0 || got.Mem != m+zeros(32) || got.Stack[0] != read(m[33:]+"\x00") {
		t.Errorf("MLOAD of one word more: %s", show(got))
	}
	f.Gas = 5
	if got := Step(f); got.Err != api.ErrGas || got.Mem != m || len(got.Stack) != 1 {
		t.Errorf("MLOAD of one word more, too little gas: %s", show(got))
	}
	f = api.Frame{Code: "\xf3", Stack: stack(num.Of(60), num.Of(7)), Mem: m, Gas: 10, Out: "before"}
	if got := Step(f); got.Out != "mmmm"+zeros(3) || got.Mem != m+zeros(32) || got.Gas != 7 || got.Stack != nil {
		t.Errorf("RETURN of what is half there: %s", show(got))
	}
	f = api.Frame{Code: "\x00", Gas: 10, Out: "before"}
	if got := Step(f); got.Out != "before" || got.Stand != api.RnDone || got.Gas != 10 {
		t.Errorf("STOP: %s", show(got))
	}
	f = api.Frame{Code: "\xfd", Stack: stack(num.Of(62), num.Of(2)), Mem: m, Gas: 10, Out: "before"}
	if got := Step(f); got.Out != "mm" || got.Stand != api.RnBack || got.Gas != 10 {
		t.Errorf("REVERT: %s", show(got))
	}
}

// P13.1: Pc goes on by 1 behind all but jumps, and by a PUSH's own bytes more, even behind the code's end; there stands STOP.
func TestPlace(t *testing.T) {
	for n := 0; n <= 32; n++ {
		for there := range n + 2 {
			own := strings.Repeat("\xab", there)
			f := api.Frame{Code: "\x5b" + string([]byte{byte(0x5f + n)}) + own, Pc: 1, Gas: 3}
			got := Step(f)
			want := read((own + zeros(32))[:n])
			if got.Pc != 2+n || len(got.Stack) != 1 || got.Stack[0] != want {
				t.Errorf("PUSH%d with %d bytes: %s, want %x", n, there, show(got), want)
			}
		}
	}
	f := Run("\x7f", "", 3)
	if f.Stand != api.RnDone || f.Pc != 34 || !fit(f) {
		t.Errorf("PUSH32 at the end: %s", show(f))
	}
	for _, c := range []struct{ pc, want int }{{0, 1}, {3, 4}, {4, 5}, {35, 36}} {
		got := Step(api.Frame{Code: "\x00\x5b\x5b", Pc: c.pc})
		if got.Pc != c.want || got.Stand != api.RnDone {
			t.Errorf("STOP at %d: %s", c.pc, show(got))
		}
	}
	for _, op := range []string{"\xf3", "\xfd"} {
		if got := Step(api.Frame{Code: "\x5b" + op, Pc: 1, Stack: ofs(0, 0)}); got.Pc != 2 || got.Stand == api.RnGoes {
			t.Errorf("%x at 1: %s", op, show(got))
		}
	}
}

// P13.1: one can jump just to a byte JUMPDEST that is no PUSH's own, up to the last byte of the longest code.
func TestJumps(t *testing.T) {
	raw := code(t, "JUMPDEST PUSH2 5b5b JUMPDEST PUSH1 5b JUMPDEST 0x5b 0x60 0x5b")
	for to := range 20 {
		want := to == 0 || to == 4 || to == 7 || to == 8
		for _, tail := range []string{"\x56", "\x57"} {
			f := api.Frame{Code: tail + raw, Stack: stack(num.Of(uint64(to+1)), num.Of(1)), Gas: 100}
			got := Step(f)
			if (got.Err == api.OK) != want || want && got.Pc != to+1 || !want && (got.Err != api.ErrJump || got.Pc != 0 || len(got.Stack) != 2) {
				t.Errorf("%x to %d: %s", tail, to+1, show(got))
			}
			f.Stack[len(f.Stack)-1][2] = 1
			if got := Step(f); got.Err != api.ErrJump {
				t.Errorf("%x to 2^128 and %d: %s", tail, to+1, show(got))
			}
		}
	}
	long := code(t, "PUSH2 ffff JUMP") + zeros(65536-4-1) + "\x5b"
	if f := Run(long, "", 12); f.Stand != api.RnDone || f.Pc != 65537 || f.Gas != 0 {
		t.Errorf("to the last byte: pc %d, stand %d, err %d", f.Pc, f.Stand, f.Err)
	}
	hidden := long[:65534] + "\x60\x5b"
	if f := Run(hidden, "", 12); f.Err != api.ErrJump || f.Pc != 3 {
		t.Errorf("to a PUSH's own: pc %d, stand %d, err %d", f.Pc, f.Stand, f.Err)
	}
}

// P13.1: a run that does not go is told as it is, whatever it holds, in memory of its own.
func TestStands(t *testing.T) {
	for _, stand := range []int{api.RnDone, api.RnBack, api.RnWrong, 4, -1, math.MaxInt, math.MinInt} {
		f := api.Frame{Code: "\x5f", Input: "in", Stack: ofs(1, 2), Mem: zeros(32), Pc: 34, Gas: 7, Stand: stand, Err: api.ErrGas, Out: "out"}
		got := Step(f)
		if !sameFrame(got, f) {
			t.Errorf("stand %d: %s", stand, show(got))
		}
		got.Stack[0] = most
		if f.Stack[0] != num.Of(1) {
			t.Errorf("stand %d: the stack is shared", stand)
		}
	}
	if got := Step(api.Frame{Stand: api.RnDone, Stack: []api.U{}}); got.Stack != nil {
		t.Error("an empty list is none")
	}
}

// 0.5: no step changes the numbers that it was given, not even those behind the list's end, and shares none.
func TestShared(t *testing.T) {
	for op := range plain {
		all := make([]api.U, 40)
		for i := range all {
			all[i] = num.Of(uint64(i))
		}
		was := slices.Clone(all)
		f := api.Frame{Code: string([]byte{op}), Stack: all[:20], Gas: 90000}
		got := Step(f)
		if !slices.Equal(all, was) {
			t.Errorf("%02x changes what it was given", op)
		}
		for i := range got.Stack {
			got.Stack[i] = most
		}
		if !slices.Equal(all, was) {
			t.Errorf("%02x shares what it was given", op)
		}
	}
}

// P13.1: each field counts, and lists by what they hold.
func TestSame(t *testing.T) {
	base := func() api.Frame {
		return api.Frame{Code: "c", Input: "i", Stack: ofs(1, 2), Mem: "m", Pc: 3, Gas: 4, Stand: 1, Err: 5, Out: "o"}
	}
	if !Same(base(), base()) || !Same(api.Frame{}, api.Frame{}) || !Same(api.Frame{Stack: []api.U{}}, api.Frame{}) {
		t.Error("the same")
	}
	changes := []func(*api.Frame){
		func(f *api.Frame) { f.Code = "d" }, func(f *api.Frame) { f.Code = "" },
		func(f *api.Frame) { f.Input = "j" }, func(f *api.Frame) { f.Input = "i\x00" },
		func(f *api.Frame) { f.Stack[0] = num.Of(3) }, func(f *api.Frame) { f.Stack[1] = up(255) },
		func(f *api.Frame) { f.Stack = f.Stack[:1] }, func(f *api.Frame) { f.Stack = ofs(1, 2, 0) }, func(f *api.Frame) { f.Stack = nil },
		func(f *api.Frame) { f.Stack = ofs(2, 1) },
		func(f *api.Frame) { f.Mem = "n" }, func(f *api.Frame) { f.Mem = "m\x00" },
		func(f *api.Frame) { f.Pc = 4 }, func(f *api.Frame) { f.Pc = -3 },
		func(f *api.Frame) { f.Gas = 3 }, func(f *api.Frame) { f.Stand = 0 }, func(f *api.Frame) { f.Stand = 2 },
		func(f *api.Frame) { f.Err = 0 }, func(f *api.Frame) { f.Err = 6 },
		func(f *api.Frame) { f.Out = "p" }, func(f *api.Frame) { f.Out = "" },
	}
	for i, change := range changes {
		other := base()
		change(&other)
		if Same(base(), other) || Same(other, base()) || !Same(other, other) {
			t.Errorf("change %d is not seen", i)
		}
	}
}
