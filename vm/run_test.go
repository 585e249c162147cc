package vm

import (
	"math"
	"slices"
	"strings"
	"testing"
	"time"

	"truce/api"
	"truce/codes"
	"truce/hash"
	"truce/num"
)

// maker makes codes whose operations mostly find what they take.
type maker struct {
	seed  *uint64
	raw   []byte
	deep  int
	jumps []int // where a jump's two bytes stand
	dests []int
	skip  string // names of operations that are not to be in it
}

func (m *maker) lay(op byte, own ...byte) {
	m.raw = append(append(m.raw, op), own...)
	m.deep += plain[op].lays - plain[op].takes
}

func (m *maker) push() {
	n := []int{0, 1, 1, 1, 2, 8, 20, 32}[below(m.seed, 8)]
	own := []byte(textOf(m.seed, n))
	if n == 2 {
		own[0] &= 15
	}
	m.lay(byte(0x5f+n), own...)
}

func (m *maker) dest() {
	m.dests = append(m.dests, len(m.raw))
	m.lay(0x5b)
}

func (m *maker) jump() {
	m.jumps = append(m.jumps, len(m.raw)+1)
	m.lay(0x61, 0, 0)
	if m.deep > 1 && below(m.seed, 4) > 0 {
		m.lay(0x57)
	} else {
		m.lay(0x56)
	}
}

// any lays an operation that finds what it takes, if one is met soon.
func (m *maker) any() {
	for range 20 {
		op := byte(below(m.seed, 256))
		o, there := plain[op]
		ends := o.name == "STOP" || o.name == "RETURN" || o.name == "REVERT" || o.name == "INVALID"
		if ends && below(m.seed, 3) > 0 || o.name == "PUSH" || o.name == "JUMP" || strings.Contains(m.skip, " "+o.name+" ") {
			continue
		}
		if there && o.takes <= m.deep {
			m.lay(op)
			return
		}
	}
	m.push()
}

// codeOf is a code with loops, its jumps going mostly to where one can.
func codeOf(seed *uint64, skip string) string {
	m := maker{seed: seed, skip: skip}
	for range 1 + below(seed, 60) {
		switch below(seed, 10) {
		case 0, 1, 2, 3:
			m.push()
		case 4:
			m.dest()
		case 5:
			m.jump()
		default:
			m.any()
		}
	}
	for _, at := range m.jumps {
		to := below(seed, len(m.raw)+3)
		if len(m.dests) > 0 && below(seed, 10) > 0 {
			to = m.dests[below(seed, len(m.dests))]
		}
		m.raw[at], m.raw[at+1] = byte(to>>8), byte(to)
	}
	return string(m.raw)
}

// P13.2, P13.3: runs of codes of all kinds, against the plain way and against Step by Step; each stays fit, its gas falling till it ends.
func TestRunPlain(t *testing.T) {
	seed := uint64(132)
	ends := map[int]int{}
	wrongs := map[api.Errno]int{}
	long := 0
	for range 2500 {
		raw, input := codeOf(&seed, ""), textOf(&seed, below(&seed, 70))
		gas := []int{100, 1000, 3000}[below(&seed, 3)]
		got := Run(raw, input, gas)
		want, steps := plainRun(raw, input, gas)
		if !sameFrame(got, want) || len(got.Stack) == 0 && got.Stack != nil {
			t.Fatalf("Run of %x, %x: %s, want\n%s", raw, input, show(got), show(want))
		}
		f := api.Frame{Code: raw, Input: input, Gas: gas}
		for range steps {
			if f.Stand != api.RnGoes {
				t.Fatalf("%x ends early", raw)
			}
			holdStep(t, f)
			f = Step(f)
		}
		if !Same(f, got) {
			t.Fatalf("Run of %x is not Step by Step", raw)
		}
		ends[got.Stand]++
		wrongs[got.Err]++
		if steps > 100 {
			long++
		}
	}
	if ends[api.RnDone] < 200 || ends[api.RnBack] < 20 || long < 50 {
		t.Errorf("the codes are poor: %v, %d are long", ends, long)
	}
	for _, err := range []api.Errno{api.ErrOp, api.ErrStack, api.ErrRange, api.ErrGas, api.ErrJump} {
		if wrongs[err] < 10 {
			t.Errorf("the codes are poor: %v", wrongs)
		}
	}
}

// P13.2: bytes of no sense.
func TestRunBytes(t *testing.T) {
	seed := uint64(133)
	for range 4000 {
		raw, input := textOf(&seed, below(&seed, 40)), textOf(&seed, below(&seed, 40))
		got := Run(raw, input, 500)
		if want, _ := plainRun(raw, input, 500); !sameFrame(got, want) {
			t.Fatalf("Run of %x: %s, want\n%s", raw, show(got), show(want))
		}
	}
}

// P13.2: gas below 0 counts as 0, above 100000 as that.
func TestRunGas(t *testing.T) {
	raw := "\x5a"
	for _, c := range []struct {
		gas   int
		top   uint64
		wrong bool
	}{
		{math.MinInt, 0, true}, {-1, 0, true}, {0, 0, true}, {1, 0, true}, {2, 0, false}, {3, 1, false},
		{99999, 99997, false}, {100000, 99998, false}, {100001, 99998, false}, {math.MaxInt, 99998, false},
	} {
		f := Run(raw, "", c.gas)
		switch {
		case c.wrong && (f.Err != api.ErrGas || f.Gas != 0 || f.Pc != 0 || f.Stack != nil):
			t.Errorf("gas %d: %s", c.gas, show(f))
		case !c.wrong && (f.Stand != api.RnDone || f.Gas != int(c.top) || f.Stack[0] != num.Of(c.top)):
			t.Errorf("gas %d: %s", c.gas, show(f))
		}
	}
	if f := Run("", "", -5); f.Stand != api.RnDone || f.Gas != 0 || f.Pc != 1 {
		t.Errorf("no code, no gas: %s", show(f))
	}
}

// P13.2: a run begins with nothing but what it is given.
func TestRunBegins(t *testing.T) {
	f := Run("\x00", "in", 7)
	want := api.Frame{Code: "\x00", Input: "in", Pc: 1, Gas: 7, Stand: api.RnDone}
	if !sameFrame(f, want) {
		t.Errorf("%s", show(f))
	}
	a, b := Run("\x5f\x5f", "", 9), Run("\x5f\x5f", "", 9)
	a.Stack[0] = most
	if b.Stack[0] != num.Of(0) || Run("\x5f\x5f", "", 9).Stack[0] != num.Of(0) {
		t.Error("runs share their stacks")
	}
}

// P13.4: more gas changes nothing but the gas that is left.
func TestMoreGas(t *testing.T) {
	seed := uint64(134)
	held := 0
	for range 6000 {
		raw, input := codeOf(&seed, " GAS "), textOf(&seed, below(&seed, 70))
		gas := below(&seed, 2000)
		f := Run(raw, input, gas)
		if f.Stand == api.RnWrong || strings.Contains(codes.Listing(raw), "GAS\n") {
			continue
		}
		held++
		for _, more := range []int{1, 1 + below(&seed, 5000), api.MaxGas - gas} {
			got := Run(raw, input, gas+more)
			got.Gas -= more
			if !Same(got, f) {
				t.Fatalf("%x with %d, with %d more: %s, %s", raw, gas, more, show(f), show(got))
			}
		}
		// Just as much as it took is enough, and less is not.
		took := gas - f.Gas
		if got := Run(raw, input, took); got.Stand != f.Stand || got.Gas != 0 || got.Out != f.Out {
			t.Fatalf("%x with the %d that it takes: %s", raw, took, show(got))
		}
		if got := Run(raw, input, took-1); took > 0 && got.Err != api.ErrGas {
			t.Fatalf("%x with one less than the %d that it takes: %s", raw, took, show(got))
		}
	}
	if held < 500 {
		t.Errorf("just %d runs were done", held)
	}
}

// P13.5: what stands behind STOP plays no part, if one can't jump there and the code does not look at itself.
func TestBehindStop(t *testing.T) {
	seed := uint64(135)
	for range 4000 {
		raw, input := codeOf(&seed, " CODESIZE CODECOPY ")+"\x00", textOf(&seed, below(&seed, 70))
		tail := []byte(textOf(&seed, below(&seed, 40)))
		for i := range tail {
			if tail[i] == 0x5b {
				tail[i] = 0xfe
			}
		}
		f, got := Run(raw, input, 2000), Run(raw+string(tail), input, 2000)
		got.Code = raw
		if !Same(f, got) {
			t.Fatalf("%x, behind it %x: %s, %s", raw, tail, show(f), show(got))
		}
	}
	// Bytes JUMPDEST there that are a PUSH's own play none either.
	a, b := Run("\x60\x05\x56\x00", "", 99), Run("\x60\x05\x56\x00\x60\x5b", "", 99)
	if a.Err != api.ErrJump || b.Err != api.ErrJump {
		t.Errorf("behind STOP: %s, %s", show(a), show(b))
	}
}

// A code of some length that reckons: the sum of the numbers up to 100, by a loop, and a digest of the input.
func TestPrograms(t *testing.T) {
	sum := code(t, `
PUSH0 PUSH1 64
JUMPDEST
DUP1 SWAP2 ADD SWAP1
PUSH1 01 SWAP1 SUB
DUP1 PUSH1 03 JUMPI
POP PUSH0 MSTORE PUSH1 20 PUSH0 RETURN`)
	if f := Run(sum, "", 20000); f.Stand != api.RnDone || f.Out != num.Bytes(num.Of(5050)) {
		t.Errorf("a sum: %s", show(f))
	}
	digest := code(t, "CALLDATASIZE PUSH0 PUSH0 CALLDATACOPY CALLDATASIZE PUSH0 KECCAK256 PUSH0 MSTORE PUSH1 20 PUSH0 REVERT")
	for _, input := range []string{"", "abc", strings.Repeat("x", 4095), strings.Repeat("y", 4096)} {
		if f := Run(digest, input, 20000); f.Stand != api.RnBack || f.Out != hash.Sum(input) {
			t.Errorf("a digest of %d bytes: %s", len(input), show(f))
		}
	}
	if f := Run(digest, strings.Repeat("z", 4097), 20000); f.Err != api.ErrRange || f.Gas != 0 {
		t.Errorf("a digest of 4097 bytes: %s", show(f))
	}
}

// The longest codes and inputs, and runs with as many steps as gas allows, end soon.
func TestLongest(t *testing.T) {
	begun := time.Now()
	dests := strings.Repeat("\x5b", 65536)
	if f := Run(dests, dests, api.MaxGas); f.Stand != api.RnDone || f.Pc != 65537 || f.Gas != 100000-65536 {
		t.Errorf("65536 times JUMPDEST: pc %d, gas %d", f.Pc, f.Gas)
	}
	full := strings.Repeat("\x5f", 256) + strings.Repeat("\x5b", 65536-256)
	if f := Run(full, "", api.MaxGas); f.Stand != api.RnDone || len(f.Stack) != 256 {
		t.Errorf("a full stack: stand %d, %d numbers", f.Stand, len(f.Stack))
	}
	loop := "\x5b\x5f\x56" + strings.Repeat("\x5b", 65533)
	if f := Run(loop, "", api.MaxGas); f.Err != api.ErrGas || f.Gas != 0 {
		t.Errorf("a loop: stand %d, err %d, gas %d", f.Stand, f.Err, f.Gas)
	}
	heavy := code(t, "JUMPDEST PUSH0 NOT DUP1 EXP POP PUSH2 0ff0 PUSH0 KECCAK256 PUSH0 MSTORE PUSH0 JUMP")
	if f := Run(heavy, "", api.MaxGas); f.Err != api.ErrGas {
		t.Errorf("a heavy loop: %s", show(f))
	}
	stored := code(t, "PUSH1 01 PUSH2 0fff MSTORE8 JUMPDEST PUSH1 02 PUSH0 MSTORE8 PUSH1 06 JUMP")
	if f := Run(stored, "", api.MaxGas); f.Err != api.ErrGas || f.Mem != "\x02"+zeros(4094)+"\x01" {
		t.Errorf("a loop that stores: %s", show(f))
	}
	size := code(t, "CODESIZE CALLDATASIZE PUSH2 ffff CALLDATALOAD PUSH1 10 PUSH2 fff8 PUSH0 CODECOPY PUSH0 MLOAD")
	ends := size + strings.Repeat("\xaa", 65536-len(size))
	f := Run(size+"\x00"+ends[len(size)+1:], strings.Repeat("\xbb", 65536), 1000)
	want := []api.U{num.Of(65536), num.Of(65536), read("\xbb" + zeros(31)), read(strings.Repeat("\xaa", 8) + zeros(24))}
	if f.Stand != api.RnDone || !slices.Equal(f.Stack, want) {
		t.Errorf("the ends: stand %d, err %d, %x, want %x", f.Stand, f.Err, f.Stack, want)
	}
	if took := time.Since(begun); took > 20*time.Second {
		t.Errorf("that took %v", took)
	}
}

// 0.1: no step panics, whatever the run is.
func TestUnfit(t *testing.T) {
	seed := uint64(136)
	places := []int{math.MinInt, math.MinInt + 1, -100, -33, -1, 0, 1, 2, 33, 34, 35, 1000, math.MaxInt - 1, math.MaxInt}
	gases := []int{math.MinInt, -1, 0, 1, 100, 100000, 100001, math.MaxInt}
	sizes := []int{0, 1, 2, 3, 17, 255, 256, 257, 300}
	mems := []int{0, 1, 31, 32, 33, 4095, 4096, 4097, 5000, 65536}
	for op := range 256 {
		for _, pc := range places {
			for range 12 {
				f := api.Frame{Code: string([]byte{byte(op), byte(op), 0x5b}), Pc: pc, Gas: gases[below(&seed, len(gases))]}
				f.Mem = strings.Repeat("m", mems[below(&seed, len(mems))])
				f.Stack = make([]api.U, sizes[below(&seed, len(sizes))])
				for i := range min(4, len(f.Stack)) {
					f.Stack[len(f.Stack)-1-i] = numberOf(&seed)
				}
				f.Stand = below(&seed, 5) / 4
				got := Step(f)
				if !Same(f, got) && got.Stand == api.RnGoes && got.Gas >= f.Gas {
					t.Fatalf("%s goes on for nothing: %s", show(f), show(got))
				}
			}
		}
	}
	if got := Step(api.Frame{Code: "\x5b", Pc: -1, Gas: 9}); got.Err != api.ErrOp || got.Pc != -1 {
		t.Errorf("ahead of the code: %s", show(got))
	}
}

// What a machine did not throw is no wrong of the run.
func TestCatch(t *testing.T) {
	m := machine{Frame: api.Frame{Gas: 5}}
	m.catch(func() {})
	if m.Gas != 5 || m.Stand != api.RnGoes {
		t.Error("nothing was thrown")
	}
	m.catch(func() { ask(true, api.ErrJump); ask(false, api.ErrStack) })
	if m.Gas != 0 || m.Stand != api.RnWrong || m.Err != api.ErrStack {
		t.Errorf("thrown: %s", show(m.Frame))
	}
	defer func() {
		if what := recover(); what != "other" {
			t.Errorf("%v went on", what)
		}
	}()
	m.catch(func() { panic("other") })
}
