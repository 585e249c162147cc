package num

import (
	"fmt"
	"math/big"
	"strings"
	"testing"

	"truce/api"
)

const top = 1<<64 - 1

var (
	all    = api.U{top, top, top, top}
	modulo = new(big.Int).Lsh(big.NewInt(1), 256)
)

// step is a fixed row of numbers that look mixed: the tests must go alike each time.
func step(seed *uint64) uint64 {
	*seed += 0x9e3779b97f4a7c15
	z := *seed
	z = (z ^ z>>30) * 0xbf58476d1ce4e5b9
	z = (z ^ z>>27) * 0x94d049bb133111eb
	return z ^ z>>31
}

// samples has the edges of each part, each single bit, what lies below it, and mixed numbers.
func samples() []api.U {
	out := []api.U{{}, all, {1}, {2}, {3}, {256}, {top, top, top, top >> 1}, {top - 1, top, top, top},
		{0, top, top, top}, {top, 0, top, top}, {top, top, 0, top}, {top, 0, 0, top}, {1, 2, 3, 4}, {4, 3, 2, 1}}
	for n := range 256 {
		if n%64 > 1 && n%64 < 63 && n%17 != 0 {
			continue
		}
		var bit, below api.U
		bit[n/64] = 1 << (n % 64)
		for i := range n {
			below[i/64] |= 1 << (i % 64)
		}
		out = append(out, bit, below)
	}
	seed := uint64(1)
	for i := range 40 {
		var u api.U
		for k := range i%4 + 1 {
			u[k] = step(&seed)
		}
		out = append(out, u)
	}
	return out
}

func shifts() []uint64 {
	out := []uint64{257, 300, 320, 511, 512, 1 << 31, 1 << 32, 1<<32 + 1, 1 << 62, 1 << 63, 1<<63 + 64, top - 63, top}
	for n := range uint64(257) {
		out = append(out, n)
	}
	return out
}

func bigOf(u api.U) *big.Int {
	out := new(big.Int)
	for i := range 4 {
		out.Lsh(out, 64)
		out.Or(out, new(big.Int).SetUint64(u[3-i]))
	}
	return out
}

func ofBig(b *big.Int) api.U {
	rest := new(big.Int).Mod(b, modulo)
	var out api.U
	for i := range 4 {
		out[i] = new(big.Int).And(rest, new(big.Int).SetUint64(top)).Uint64()
		rest.Rsh(rest, 64)
	}
	return out
}

func pairs(check func(a, b api.U, x, y *big.Int)) {
	us := samples()
	var bs []*big.Int
	for _, u := range us {
		bs = append(bs, bigOf(u))
	}
	for i, a := range us {
		for k, b := range us {
			check(a, b, bs[i], bs[k])
		}
	}
}

// P1.1
func TestOf(t *testing.T) {
	for _, n := range []uint64{0, 1, 255, 1 << 32, 1 << 63, top} {
		if got := Of(n); got != (api.U{n, 0, 0, 0}) {
			t.Errorf("Of(%d) = %v", n, got)
		}
	}
}

// P1.1
func TestAddSubCmp(t *testing.T) {
	pairs(func(a, b api.U, x, y *big.Int) {
		sum := new(big.Int).Add(x, y)
		if got, over := Add(a, b); got != ofBig(sum) || over != (sum.Cmp(modulo) >= 0) {
			t.Errorf("Add(%v, %v) = %v, %v", a, b, got, over)
		}
		less := new(big.Int).Sub(x, y)
		if got, under := Sub(a, b); got != ofBig(less) || under != (less.Sign() < 0) {
			t.Errorf("Sub(%v, %v) = %v, %v", a, b, got, under)
		}
		if got := Cmp(a, b); got != x.Cmp(y) {
			t.Errorf("Cmp(%v, %v) = %d", a, b, got)
		}
	})
}

// P1.1: written out, so that nothing hangs on the reckoning of the tests.
func TestAddSubEdges(t *testing.T) {
	one := Of(1)
	adds := []struct {
		a, b, want api.U
		over       bool
	}{
		{api.U{}, api.U{}, api.U{}, false},
		{all, api.U{}, all, false},
		{api.U{}, all, all, false},
		{api.U{top - 1, top, top, top}, one, all, false},
		{all, one, api.U{}, true},
		{one, all, api.U{}, true},
		{all, all, api.U{top - 1, top, top, top}, true},
		{api.U{top}, one, api.U{0, 1}, false},
		{api.U{top, top, top}, one, api.U{0, 0, 0, 1}, false},
		{api.U{0, 0, 0, 1 << 63}, api.U{0, 0, 0, 1 << 63}, api.U{}, true},
	}
	for _, c := range adds {
		if got, over := Add(c.a, c.b); got != c.want || over != c.over {
			t.Errorf("Add(%v, %v) = %v, %v", c.a, c.b, got, over)
		}
	}
	subs := []struct {
		a, b, want api.U
		under      bool
	}{
		{api.U{}, api.U{}, api.U{}, false},
		{all, all, api.U{}, false},
		{api.U{}, one, all, true},
		{api.U{}, all, one, true},
		{one, api.U{2}, all, true},
		{api.U{0, 0, 0, 1}, one, api.U{top, top, top}, false},
		{api.U{0, 1}, api.U{0, 0, 1}, api.U{0, 1, top, top}, true},
		{all, api.U{}, all, false},
	}
	for _, c := range subs {
		if got, under := Sub(c.a, c.b); got != c.want || under != c.under {
			t.Errorf("Sub(%v, %v) = %v, %v", c.a, c.b, got, under)
		}
	}
	// A high part outweighs all lower ones.
	if Cmp(api.U{0, 0, 0, 1}, api.U{top, top, top, 0}) != 1 || Cmp(api.U{top, top, 0, 5}, api.U{0, 0, 1, 5}) != -1 || Cmp(all, all) != 0 {
		t.Error("Cmp does not go by the highest part first")
	}
}

// P1.2
func TestBitByBit(t *testing.T) {
	pairs(func(a, b api.U, x, y *big.Int) {
		if got := And(a, b); got != ofBig(new(big.Int).And(x, y)) {
			t.Errorf("And(%v, %v) = %v", a, b, got)
		}
		if got := Or(a, b); got != ofBig(new(big.Int).Or(x, y)) {
			t.Errorf("Or(%v, %v) = %v", a, b, got)
		}
		if got := Xor(a, b); got != ofBig(new(big.Int).Xor(x, y)) {
			t.Errorf("Xor(%v, %v) = %v", a, b, got)
		}
	})
	for _, a := range samples() {
		if got := Not(a); got != ofBig(new(big.Int).Not(bigOf(a))) {
			t.Errorf("Not(%v) = %v", a, got)
		}
	}
}

// P1.2
func TestShifts(t *testing.T) {
	for _, a := range samples() {
		x := bigOf(a)
		for _, n := range shifts() {
			var up, down api.U
			if n < 256 {
				up = ofBig(new(big.Int).Lsh(x, uint(n)))
				down = ofBig(new(big.Int).Rsh(x, uint(n)))
			}
			if got := Shl(a, n); got != up {
				t.Errorf("Shl(%v, %d) = %v, not %v", a, n, got, up)
			}
			if got := Shr(a, n); got != down {
				t.Errorf("Shr(%v, %d) = %v, not %v", a, n, got, down)
			}
		}
	}
}

// P1.2: written out, so that nothing hangs on the reckoning of the tests.
func TestShiftEdges(t *testing.T) {
	a := api.U{0x1111, 0x2222, 0x3333, 0x8000000000004444}
	cases := []struct {
		n        uint64
		up, down api.U
	}{
		{0, a, a},
		{4, api.U{0x11110, 0x22220, 0x33330, 0x44440}, api.U{0x2000000000000111, 0x3000000000000222, 0x4000000000000333, 0x0800000000000444}},
		{64, api.U{0, 0x1111, 0x2222, 0x3333}, api.U{0x2222, 0x3333, 0x8000000000004444, 0}},
		{128, api.U{0, 0, 0x1111, 0x2222}, api.U{0x3333, 0x8000000000004444, 0, 0}},
		{192, api.U{0, 0, 0, 0x1111}, api.U{0x8000000000004444, 0, 0, 0}},
		{255, api.U{0, 0, 0, 1 << 63}, api.U{1, 0, 0, 0}},
		{256, api.U{}, api.U{}},
		{257, api.U{}, api.U{}},
		{320, api.U{}, api.U{}},
		{1 << 63, api.U{}, api.U{}},
		{top, api.U{}, api.U{}},
	}
	for _, c := range cases {
		if got := Shl(a, c.n); got != c.up {
			t.Errorf("Shl by %d = %x", c.n, got)
		}
		if got := Shr(a, c.n); got != c.down {
			t.Errorf("Shr by %d = %x", c.n, got)
		}
	}
}

// P1.2
func TestBits(t *testing.T) {
	for _, a := range samples() {
		if got := Bits(a); got != bigOf(a).BitLen() {
			t.Errorf("Bits(%v) = %d", a, got)
		}
	}
	for n := range 256 {
		if got := Bits(Shl(Of(1), uint64(n))); got != n+1 {
			t.Errorf("Bits of 2^%d = %d", n, got)
		}
	}
	if Bits(api.U{}) != 0 || Bits(all) != 256 {
		t.Error("Bits of 0 or of all ones")
	}
}

// P1.3
func TestBytes(t *testing.T) {
	for _, a := range samples() {
		want := string(bigOf(a).FillBytes(make([]byte, 32)))
		if got := Bytes(a); got != want {
			t.Errorf("Bytes(%v) = %x", a, got)
		}
	}
	a := api.U{0x18191a1b1c1d1e1f, 0x1011121314151617, 0x08090a0b0c0d0e0f, 0x0001020304050607}
	for i, c := range []byte(Bytes(a)) {
		if int(c) != i {
			t.Errorf("byte %d is %d", i, c)
		}
	}
	if Bytes(api.U{}) != strings.Repeat("\x00", 32) || Bytes(all) != strings.Repeat("\xff", 32) {
		t.Error("Bytes of 0 or of all ones")
	}
}

// P1.3
func TestRead(t *testing.T) {
	whole := strings.Repeat("\x81\x02\x00\xff\x7f", 7)[:32]
	for n := range 33 {
		for _, s := range []string{whole[:n], whole[32-n:], strings.Repeat("\xff", n), strings.Repeat("\x00", n)} {
			if got, err := Read(s); err != api.OK || got != ofBig(new(big.Int).SetBytes([]byte(s))) {
				t.Errorf("Read(%x) = %v, %v", s, got, err)
			}
		}
	}
	if got, err := Read(""); got != (api.U{}) || err != api.OK {
		t.Errorf("Read of none = %v, %v", got, err)
	}
	if got, err := Read("\x01\x02"); got != Of(258) || err != api.OK {
		t.Errorf("Read of two bytes = %v, %v", got, err)
	}
	// What is too long stays so, even where it is a small number; beside the error nothing is told.
	for _, n := range []int{33, 34, 40, 64, 1000} {
		for _, s := range []string{strings.Repeat("\x00", n), strings.Repeat("\xff", n), strings.Repeat("\x00", n-1) + "\x01"} {
			if got, err := Read(s); got != (api.U{}) || err != api.ErrRange {
				t.Errorf("Read of %d bytes = %v, %v", n, got, err)
			}
		}
	}
}

// P1.4
func TestThereAndBack(t *testing.T) {
	for _, a := range samples() {
		if got, err := Read(Bytes(a)); got != a || err != api.OK {
			t.Errorf("Read of Bytes of %v = %v, %v", a, got, err)
		}
	}
	pairs(func(a, b api.U, _, _ *big.Int) {
		sum, over := Add(a, b)
		if back, under := Sub(sum, b); back != a || under != over {
			t.Errorf("Sub of Add(%v, %v) = %v, %v; over %v", a, b, back, under, over)
		}
	})
}

// P1.5
func TestWhatFollows(t *testing.T) {
	for _, a := range samples() {
		for _, n := range shifts() {
			want := a
			for i := range min(n, 256) {
				bit := 255 - i
				want[bit/64] &^= 1 << (bit % 64)
			}
			if got := Shr(Shl(a, n), n); got != want {
				t.Errorf("Shr of Shl(%v, %d) = %v", a, n, got)
			}
		}
		n := Not(a)
		if sum, over := Add(a, n); sum != all || over {
			t.Errorf("%v and its Not make %v, %v", a, sum, over)
		}
		if Or(a, n) != all || Xor(a, n) != all || And(a, n) != (api.U{}) {
			t.Errorf("%v and its Not are not apart", a)
		}
	}
	pairs(func(a, b api.U, _, _ *big.Int) {
		if Cmp(a, b) != -Cmp(b, a) {
			t.Errorf("Cmp(%v, %v) does not turn", a, b)
		}
	})
}

// 0.5: an array is a value, and stays what it was for the one who handed it in.
func TestArgumentsStay(t *testing.T) {
	a, b := api.U{1, 2, 3, 4}, api.U{9, 8, 7, 6}
	Add(a, b)
	Sub(a, b)
	And(a, b)
	Or(a, b)
	Xor(a, b)
	Not(a)
	Shl(a, 65)
	Shr(a, 65)
	if a != (api.U{1, 2, 3, 4}) || b != (api.U{9, 8, 7, 6}) {
		t.Error("an argument was changed")
	}
}

// The chapter's examples.
func TestExamples(t *testing.T) {
	sum, over := Add(all, Of(1))
	less, under := Sub(Of(0), Of(1))
	got := fmt.Sprint(sum, over, less == all, under, Shl(Of(3), 255), Bits(Of(256)))
	want := fmt.Sprint(api.U{}, true, true, true, api.U{0, 0, 0, 1 << 63}, 9)
	if got != want {
		t.Errorf("got %s, not %s", got, want)
	}
}
