package sign

import (
	"fmt"
	"math/big"
	"testing"

	"truce/api"
	"truce/mul"
	"truce/num"
)

const top = 1<<64 - 1

var (
	// all is -1, with a sign.
	all = api.U{top, top, top, top}
	// most is 2^255 - 1, and least -2^255.
	most   = api.U{top, top, top, top >> 1}
	least  = api.U{0, 0, 0, 1 << 63}
	modulo = new(big.Int).Lsh(big.NewInt(1), 256)
)

// step is a fixed row of numbers that look mixed: the tests must go alike each time.
func step(seed *uint64) uint64 {
	*seed += 0x9e3779b97f4a7c15
	z := *seed
	z = (z ^ z>>30) * 0xbf58476d1ce4e5b9
	z = (z ^ z>>27) * 0x94d049bb133111eb
	return z ^ z>>31
}

func mixed(seed *uint64) api.U {
	return api.U{step(seed), step(seed), step(seed), step(seed)}
}

// beside has a number and those next to it, round 2^256.
func beside(a api.U) []api.U {
	less, _ := num.Sub(a, num.Of(1))
	more, _ := num.Add(a, num.Of(1))
	return []api.U{less, a, more}
}

// samples has what lies beside 0, beside each part's edge and beside 2^255, bytes at 127 and 128, and mixed numbers of many sizes, each with its negative.
func samples() []api.U {
	var sizes []api.U
	for _, at := range []uint64{0, 7, 8, 63, 64, 65, 127, 128, 191, 192, 254, 255} {
		sizes = append(sizes, beside(num.Shl(num.Of(1), at))...)
	}
	sizes = append(sizes, num.Of(3), num.Of(7), num.Of(10), num.Of(255), api.U{0x807f00ff80, 0x7f80, 0x80, 0x7f80ff00})
	seed := uint64(41)
	for n := range 10 {
		sizes = append(sizes, num.Shr(mixed(&seed), uint64(25*n)))
	}
	var out []api.U
	for _, a := range sizes {
		out = append(out, a, ofBig(new(big.Int).Neg(bigOf(a))))
	}
	return out
}

// places has all of a number's bytes, those beside them, and numbers whose low bits alone would be a place.
func places() []api.U {
	var out []api.U
	for n := range uint64(40) {
		out = append(out, num.Of(n))
	}
	for _, low := range []uint64{0, 1, 30, 31, 32} {
		out = append(out, api.U{low, 1}, api.U{low, 0, 1}, api.U{low, 0, 0, 1}, api.U{low, 0, 0, 1 << 63}, api.U{low, top, top, top})
	}
	return append(out, api.U{248}, api.U{255}, api.U{256}, api.U{256 + 31}, api.U{1 << 32}, api.U{1<<61 + 3}, api.U{1 << 63}, api.U{top}, all)
}

func shifts() []uint64 {
	out := []uint64{257, 300, 319, 320, 511, 512, 1 << 31, 1 << 32, 1<<32 + 1, 1 << 62, 1 << 63, 1<<63 + 64, top - 63, top}
	for n := range uint64(257) {
		out = append(out, n)
	}
	return out
}

// bigOf is a number without a sign.
func bigOf(u api.U) *big.Int { return new(big.Int).SetBytes([]byte(num.Bytes(u))) }

// signedOf is a number with its sign, as the chapter says what that is.
func signedOf(u api.U) *big.Int {
	out := bigOf(u)
	if u[3]>>63 == 1 {
		out.Sub(out, modulo)
	}
	return out
}

func ofBig(b *big.Int) api.U {
	out, _ := num.Read(string(new(big.Int).Mod(b, modulo).Bytes()))
	return out
}

func pairs(check func(a, b api.U)) {
	us := samples()
	for _, a := range us {
		for _, b := range us {
			check(a, b)
		}
	}
}

// P4.1
func TestNeg(t *testing.T) {
	for _, a := range samples() {
		if got, want := Neg(a), ofBig(new(big.Int).Neg(signedOf(a))); got != want {
			t.Errorf("Neg(%x) = %x, not %x", a, got, want)
		}
	}
	// Written out, so that nothing hangs on the reckoning of the tests.
	cases := []struct{ a, want api.U }{
		{api.U{}, api.U{}},
		{api.U{1}, all},
		{all, api.U{1}},
		{api.U{2}, api.U{top - 1, top, top, top}},
		{least, least},
		{most, api.U{1, 0, 0, 1 << 63}},
		{api.U{1, 0, 0, 1 << 63}, most},
		{api.U{0, 1}, api.U{0, top, top, top}},
		{api.U{0, 0, 0, 1}, api.U{0, 0, 0, top}},
	}
	for _, c := range cases {
		if got := Neg(c.a); got != c.want {
			t.Errorf("Neg(%x) = %x, not %x", c.a, got, c.want)
		}
	}
}

// P4.1
func TestLess(t *testing.T) {
	pairs(func(a, b api.U) {
		if got, want := Less(a, b), signedOf(a).Cmp(signedOf(b)) < 0; got != want {
			t.Errorf("Less(%x, %x) = %v", a, b, got)
		}
	})
	// From the least to the greatest: each is less than all behind it, and than none else.
	row := []api.U{least, {1, 0, 0, 1 << 63}, {0, 0, 0, top}, {0, top, top, top}, {top - 1, top, top, top}, all,
		{}, {1}, {2}, {top}, {0, 1}, {0, 0, 0, 1}, {top - 1, top, top, top >> 1}, most}
	for i, a := range row {
		for k, b := range row {
			if got := Less(a, b); got != (i < k) {
				t.Errorf("Less(%x, %x) = %v", a, b, got)
			}
		}
	}
}

// P4.2
func TestDiv(t *testing.T) {
	seed := uint64(42)
	check := func(a, b api.U) {
		var quotient, left api.U
		if b != (api.U{}) {
			q, r := new(big.Int).QuoRem(signedOf(a), signedOf(b), new(big.Int))
			quotient, left = ofBig(q), ofBig(r)
		}
		if q, r := Div(a, b); q != quotient || r != left {
			t.Errorf("Div(%x, %x) = %x, %x, not %x, %x", a, b, q, r, quotient, left)
		}
	}
	pairs(check)
	for range 2000 {
		check(mixed(&seed), num.Shr(mixed(&seed), step(&seed)%256))
		check(mixed(&seed), Neg(num.Shr(mixed(&seed), step(&seed)%256)))
	}
}

// P4.2: small numbers of each sign, held against Go's own quotients, which are cut towards 0, too.
func TestSmallDiv(t *testing.T) {
	of := func(n int64) api.U { return ofBig(big.NewInt(n)) }
	for a := int64(-30); a <= 30; a++ {
		for b := int64(-12); b <= 12; b++ {
			var quotient, left int64
			if b != 0 {
				quotient, left = a/b, a%b
			}
			if q, r := Div(of(a), of(b)); q != of(quotient) || r != of(left) {
				t.Errorf("Div(%d, %d) = %x, %x", a, b, q, r)
			}
		}
	}
}

// P4.2: written out, so that nothing hangs on the reckoning of the tests.
func TestDivEdges(t *testing.T) {
	two, three, seven := api.U{top - 1, top, top, top}, api.U{top - 2, top, top, top}, api.U{top - 6, top, top, top}
	cases := []struct{ a, b, quotient, left api.U }{
		{api.U{7}, api.U{2}, api.U{3}, api.U{1}},
		{seven, api.U{2}, three, all},
		{api.U{7}, two, three, api.U{1}},
		{seven, two, api.U{3}, all},
		{api.U{6}, two, three, api.U{}},
		{ofBig(big.NewInt(-6)), api.U{2}, three, api.U{}},
		{ofBig(big.NewInt(-6)), two, api.U{3}, api.U{}},
		{all, api.U{2}, api.U{}, all},
		{api.U{1}, two, api.U{}, api.U{1}},
		{all, two, api.U{}, all},
		{api.U{}, api.U{}, api.U{}, api.U{}},
		{api.U{7}, api.U{}, api.U{}, api.U{}},
		{seven, api.U{}, api.U{}, api.U{}},
		{least, api.U{}, api.U{}, api.U{}},
		{api.U{}, api.U{5}, api.U{}, api.U{}},
		{api.U{}, least, api.U{}, api.U{}},
		{seven, api.U{1}, seven, api.U{}},
		{seven, all, api.U{7}, api.U{}},
		{api.U{7}, all, seven, api.U{}},
		{least, api.U{1}, least, api.U{}},
		{least, all, least, api.U{}},
		{most, all, api.U{1, 0, 0, 1 << 63}, api.U{}},
		{least, api.U{2}, api.U{0, 0, 0, 3 << 62}, api.U{}},
		{least, two, api.U{0, 0, 0, 1 << 62}, api.U{}},
		{least, least, api.U{1}, api.U{}},
		{most, least, api.U{}, most},
		{least, most, all, all},
		{all, least, api.U{}, all},
		{api.U{1}, least, api.U{}, api.U{1}},
	}
	for _, c := range cases {
		if q, r := Div(c.a, c.b); q != c.quotient || r != c.left {
			t.Errorf("Div(%x, %x) = %x, %x, not %x, %x", c.a, c.b, q, r, c.quotient, c.left)
		}
	}
}

// P4.3
func TestShr(t *testing.T) {
	for _, a := range samples() {
		for _, n := range shifts() {
			// Nothing changes any more from 256 on.
			want := ofBig(new(big.Int).Rsh(signedOf(a), uint(min(n, 256))))
			if got := Shr(a, n); got != want {
				t.Errorf("Shr(%x, %d) = %x, not %x", a, n, got, want)
			}
		}
	}
}

// P4.3: written out, so that nothing hangs on the reckoning of the tests.
func TestShrEdges(t *testing.T) {
	a, b := api.U{0x10, 0x21, 0x30, 1<<63 + 0x41}, api.U{0x10, 0x21, 0x30, 1<<62 + 0x41}
	cases := []struct {
		n                 uint64
		negative, another api.U
	}{
		{0, a, b},
		{1, api.U{1<<63 + 8, 0x10, 1<<63 + 0x18, 3<<62 + 0x20}, api.U{1<<63 + 8, 0x10, 1<<63 + 0x18, 1<<61 + 0x20}},
		{63, api.U{0x42, 0x60, 0x82, top}, api.U{0x42, 0x60, 1<<63 + 0x82, 0}},
		{64, api.U{0x21, 0x30, 1<<63 + 0x41, top}, api.U{0x21, 0x30, 1<<62 + 0x41, 0}},
		{65, api.U{0x10, 1<<63 + 0x18, 3<<62 + 0x20, top}, api.U{0x10, 1<<63 + 0x18, 1<<61 + 0x20, 0}},
		{254, api.U{top - 1, top, top, top}, api.U{1}},
		{255, all, api.U{}},
		{256, all, api.U{}},
		{257, all, api.U{}},
		{320, all, api.U{}},
		{1 << 32, all, api.U{}},
		{1 << 63, all, api.U{}},
		{top, all, api.U{}},
	}
	for _, c := range cases {
		if got := Shr(a, c.n); got != c.negative {
			t.Errorf("Shr by %d of one below 0 = %x, not %x", c.n, got, c.negative)
		}
		if got := Shr(b, c.n); got != c.another {
			t.Errorf("Shr by %d of another = %x, not %x", c.n, got, c.another)
		}
	}
	for _, n := range shifts() {
		if Shr(all, n) != all || Shr(api.U{}, n) != (api.U{}) {
			t.Errorf("Shr by %d of -1 or 0", n)
		}
	}
}

// extended has the bits of a up to the byte at, and above them that byte's highest one, laid bit by bit.
func extended(at int, a api.U) api.U {
	highest := a[at/8] >> (at%8*8 + 7) & 1
	for bit := at*8 + 8; bit < 256; bit++ {
		a[bit/64] &^= 1 << (bit % 64)
		a[bit/64] |= highest << (bit % 64)
	}
	return a
}

// P4.3
func TestExtend(t *testing.T) {
	for _, a := range samples() {
		for _, k := range places() {
			want := a
			if num.Cmp(k, num.Of(31)) < 0 {
				want = extended(int(k[0]), a)
			}
			if got := Extend(k, a); got != want {
				t.Errorf("Extend(%x, %x) = %x, not %x", k, a, got, want)
			}
		}
	}
}

// P4.3: a byte of 127 and one of 128 at each place, and written out, so that nothing hangs on the reckoning of the tests.
func TestExtendEdges(t *testing.T) {
	for k := range uint64(32) {
		small, great := num.Shl(num.Of(127), 8*k), num.Shl(num.Of(128), 8*k)
		if got := Extend(num.Of(k), small); got != small {
			t.Errorf("Extend(%d, %x) = %x", k, small, got)
		}
		if got, want := Extend(num.Of(k), great), num.Shl(all, 8*k+7); got != want {
			t.Errorf("Extend(%d, %x) = %x, not %x", k, great, got, want)
		}
	}
	cases := []struct{ k, a, want api.U }{
		{api.U{}, api.U{127}, api.U{127}},
		{api.U{}, api.U{128}, api.U{top - 127, top, top, top}},
		{api.U{}, api.U{255}, all},
		{api.U{}, api.U{256}, api.U{}},
		{api.U{}, api.U{top - 128, top, top, top}, api.U{127}},
		{api.U{1}, api.U{255}, api.U{255}},
		{api.U{1}, api.U{0x8000}, api.U{top - 0x7fff, top, top, top}},
		{api.U{7}, api.U{top}, all},
		{api.U{8}, api.U{top}, api.U{top}},
		{api.U{30}, api.U{5, 0, 0, 0x80 << 48}, api.U{5, 0, 0, 0xff80 << 48}},
		{api.U{30}, api.U{5, 0, 0, 0xff7f << 48}, api.U{5, 0, 0, 0x7f << 48}},
		{api.U{31}, api.U{5, 0, 0, 0xff7f << 48}, api.U{5, 0, 0, 0xff7f << 48}},
		{api.U{32}, api.U{255}, api.U{255}},
		{api.U{0, 1}, api.U{255}, api.U{255}},
		{api.U{0, 0, 0, 1}, api.U{255}, api.U{255}},
		{all, api.U{255}, api.U{255}},
		{api.U{1 << 61}, api.U{255}, api.U{255}},
	}
	for _, c := range cases {
		if got := Extend(c.k, c.a); got != c.want {
			t.Errorf("Extend(%x, %x) = %x, not %x", c.k, c.a, got, c.want)
		}
	}
}

// P4.3
func TestByte(t *testing.T) {
	for _, a := range samples() {
		whole := bigOf(a).FillBytes(make([]byte, 32))
		for _, k := range places() {
			var want api.U
			if num.Cmp(k, num.Of(32)) < 0 {
				want = api.U{uint64(whole[k[0]])}
			}
			if got := Byte(k, a); got != want {
				t.Errorf("Byte(%x, %x) = %x, not %x", k, a, got, want)
			}
		}
	}
	// Each byte is its own place, so that nothing hangs on the reckoning of the tests.
	a := api.U{0x18191a1b1c1d1e1f, 0x1011121314151617, 0x08090a0b0c0d0e0f, 0x0001020304050607}
	for k := range uint64(32) {
		if got := Byte(num.Of(k), a); got != num.Of(k) {
			t.Errorf("Byte(%d) = %x", k, got)
		}
	}
	for _, k := range []api.U{{32}, {33}, {top}, {0, 1}, {31, 0, 1}, {0, 0, 0, 1}, all} {
		if got := Byte(k, all); got != (api.U{}) {
			t.Errorf("Byte(%x) = %x", k, got)
		}
	}
}

// P4.4
func TestDivTimesDivisor(t *testing.T) {
	pairs(func(a, b api.U) {
		if b == (api.U{}) {
			return
		}
		quotient, left := Div(a, b)
		if back, _ := num.Add(mul.Mul(quotient, b), left); back != a {
			t.Errorf("%x times %x and %x are not %x", quotient, b, left, a)
		}
		if left != (api.U{}) && Less(left, api.U{}) != Less(a, api.U{}) {
			t.Errorf("what is left of %x by %x is %x, of another sign", a, b, left)
		}
		if signedOf(left).CmpAbs(signedOf(b)) >= 0 {
			t.Errorf("what is left of %x by %x is %x, not less", a, b, left)
		}
	})
}

// P4.4
func TestJustOneHolds(t *testing.T) {
	pairs(func(a, b api.U) {
		n := 0
		for _, holds := range []bool{Less(a, b), Less(b, a), a == b} {
			if holds {
				n++
			}
		}
		if n != 1 {
			t.Errorf("%x and %x: %d of less, more and the same hold", a, b, n)
		}
	})
}

// P4.5
func TestExtendTwice(t *testing.T) {
	for _, a := range samples() {
		for _, k := range places() {
			if once := Extend(k, a); Extend(k, once) != once {
				t.Errorf("Extend(%x) of Extend of %x is another", k, a)
			}
		}
	}
}

// P4.5
func TestBytesOfByte(t *testing.T) {
	for _, a := range samples() {
		var made []byte
		for k := range uint64(32) {
			made = append(made, byte(Byte(num.Of(k), a)[0]))
		}
		if string(made) != num.Bytes(a) {
			t.Errorf("the bytes of %x are not made of Byte: %x", a, made)
		}
	}
}

// 0.5: an array is a value, and stays what it was for the one who handed it in.
func TestArgumentsStay(t *testing.T) {
	a, b := api.U{1, 2, 3, 1<<63 + 4}, api.U{9, 8, 7, 1<<63 + 6}
	k := api.U{3}
	Neg(a)
	Div(a, b)
	Less(a, b)
	Shr(a, 65)
	Extend(k, a)
	Byte(k, a)
	if a != (api.U{1, 2, 3, 1<<63 + 4}) || b != (api.U{9, 8, 7, 1<<63 + 6}) || k != (api.U{3}) {
		t.Error("an argument was changed")
	}
}

// The chapter's examples.
func TestExamples(t *testing.T) {
	minus := func(n uint64) api.U { return api.U{-n, top, top, top} }
	quotient, left := Div(minus(7), num.Of(2))
	got := fmt.Sprint(quotient, left, Less(minus(1), num.Of(0)), Shr(minus(8), 1), Extend(num.Of(0), num.Of(255)))
	want := fmt.Sprint(minus(3), minus(1), true, minus(4), minus(1))
	if got != want {
		t.Errorf("got %s, not %s", got, want)
	}
}
