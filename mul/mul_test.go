package mul

import (
	"fmt"
	"math/big"
	"testing"

	"truce/api"
	"truce/num"
)

const top = 1<<64 - 1

var (
	all    = api.U{top, top, top, top}
	modulo = new(big.Int).Lsh(big.NewInt(1), 256)
)

// step is a fixed row of numbers that look mixed: the tests must go alike each time.
func step(seed *uint64) uint64 {
	*seed += 0x9e3779b97f4a7c15
	z := *seed
	z = (z ^ z>>30) * 0xbf58476d1ce4e5b9
	z = (z ^ z>>27) * 0x94d049bb133111eb
	return z ^ z>>31
}

// edged is a number of so many digits, each of them at an edge of its bits, the highest not 0.
func edged(seed *uint64, n int) api.U {
	edges := []uint32{0, 1, 1<<31 - 1, 1 << 31, 1<<31 + 1, digitTop - 1, digitTop, 0x12345678}
	var out short
	for i := range n {
		out[i] = edges[step(seed)%8]
	}
	if out[n-1] == 0 {
		out[n-1] = 1
	}
	return join(out[:])
}

// samples has 0, 1, all ones, single bits and what lies beside them, and numbers of every count of digits, mixed and at the digits' edges.
func samples() []api.U {
	out := []api.U{{}, {1}, {2}, {3}, {7}, {10}, all, {top - 1, top, top, top}, {0, top, top, top}, {top, 0, 0, top}, {1, 0, 0, 1 << 63}}
	for n := range 256 {
		if n%32 > 1 && n%32 < 31 && n%19 != 0 {
			continue
		}
		bit := num.Shl(num.Of(1), uint64(n))
		below, _ := num.Sub(bit, num.Of(1))
		out = append(out, bit, below)
	}
	seed := uint64(2)
	for n := range digits {
		for range 6 {
			mixed := num.Shr(api.U{step(&seed), step(&seed), step(&seed), step(&seed)}, uint64(256-32*(n+1)))
			out = append(out, edged(&seed, n+1), mixed)
		}
	}
	return out
}

func bigOf(u api.U) *big.Int { return new(big.Int).SetBytes([]byte(num.Bytes(u))) }

func ofBig(b *big.Int) api.U {
	out, _ := num.Read(string(new(big.Int).Mod(b, modulo).Bytes()))
	return out
}

func wide(high, low api.U) *big.Int {
	out := new(big.Int).Lsh(bigOf(high), 256)
	return out.Or(out, bigOf(low))
}

func pairs(check func(a, b api.U)) {
	us := samples()
	for _, a := range us {
		for _, b := range us {
			check(a, b)
		}
	}
}

func checkProduct(t *testing.T, a, b api.U) {
	t.Helper()
	want := new(big.Int).Mul(bigOf(a), bigOf(b))
	if high, low := Wide(a, b); wide(high, low).Cmp(want) != 0 {
		t.Errorf("Wide(%x, %x) = %x, %x", a, b, high, low)
	}
	if got := Mul(a, b); got != ofBig(want) {
		t.Errorf("Mul(%x, %x) = %x", a, b, got)
	}
}

func checkDiv(t *testing.T, a, b api.U) {
	t.Helper()
	quotient, left := new(big.Int), new(big.Int)
	if b != (api.U{}) {
		quotient.DivMod(bigOf(a), bigOf(b), left)
	}
	if q, r := Div(a, b); q != ofBig(quotient) || r != ofBig(left) {
		t.Errorf("Div(%x, %x) = %x, %x", a, b, q, r)
	}
}

func checkRest(t *testing.T, high, low, m api.U) {
	t.Helper()
	left := new(big.Int)
	if m != (api.U{}) {
		left.Mod(wide(high, low), bigOf(m))
	}
	if got := Rest(high, low, m); got != ofBig(left) {
		t.Errorf("Rest(%x, %x, %x) = %x", high, low, m, got)
	}
}

// P2.1
func TestProducts(t *testing.T) {
	pairs(func(a, b api.U) { checkProduct(t, a, b) })
}

// P2.1: written out, so that nothing hangs on the reckoning of the tests.
func TestProductEdges(t *testing.T) {
	cases := []struct{ a, b, high, low api.U }{
		{all, all, api.U{top - 1, top, top, top}, api.U{1}},
		{all, api.U{}, api.U{}, api.U{}},
		{api.U{}, all, api.U{}, api.U{}},
		{api.U{}, api.U{}, api.U{}, api.U{}},
		{all, api.U{1}, api.U{}, all},
		{api.U{1}, all, api.U{}, all},
		{all, api.U{2}, api.U{1}, api.U{top - 1, top, top, top}},
		{api.U{0, 0, 1}, api.U{0, 0, 1}, api.U{1}, api.U{}},
		{api.U{0, 0, 0, 1}, api.U{0, 0, 0, 1}, api.U{0, 0, 1}, api.U{}},
		{api.U{top}, api.U{top}, api.U{}, api.U{1, top - 1}},
		{api.U{6}, api.U{7}, api.U{}, api.U{42}},
	}
	for _, c := range cases {
		if high, low := Wide(c.a, c.b); high != c.high || low != c.low {
			t.Errorf("Wide(%x, %x) = %x, %x", c.a, c.b, high, low)
		}
		if low := Mul(c.a, c.b); low != c.low {
			t.Errorf("Mul(%x, %x) = %x", c.a, c.b, low)
		}
	}
}

// P2.2
func TestDiv(t *testing.T) {
	pairs(func(a, b api.U) { checkDiv(t, a, b) })
}

// P2.2: what lies at and beside a multiple is told apart.
func TestDivBesideMultiples(t *testing.T) {
	pairs(func(a, b api.U) {
		exact := Mul(a, b)
		less, _ := num.Sub(exact, num.Of(1))
		more, _ := num.Add(exact, num.Of(1))
		checkDiv(t, exact, b)
		checkDiv(t, less, b)
		checkDiv(t, more, b)
	})
}

// P2.2: written out, so that nothing hangs on the reckoning of the tests.
func TestDivEdges(t *testing.T) {
	cases := []struct{ a, b, quotient, left api.U }{
		{api.U{}, api.U{}, api.U{}, api.U{}},
		{all, api.U{}, api.U{}, api.U{}},
		{api.U{}, all, api.U{}, api.U{}},
		{api.U{}, api.U{1}, api.U{}, api.U{}},
		{all, api.U{1}, all, api.U{}},
		{all, all, api.U{1}, api.U{}},
		{api.U{top - 1, top, top, top}, all, api.U{}, api.U{top - 1, top, top, top}},
		{all, api.U{top - 1, top, top, top}, api.U{1}, api.U{1}},
		{all, api.U{digitTop}, api.U{1<<32 + 1, 1<<32 + 1, 1<<32 + 1, 1<<32 + 1}, api.U{}},
		{api.U{5, 6, 7, 8}, api.U{0, 0, 0, 8}, api.U{1}, api.U{5, 6, 7}},
		{api.U{5, 6, 7, 8}, api.U{0, 0, 0, 9}, api.U{}, api.U{5, 6, 7, 8}},
		{api.U{3, 9}, api.U{0, 1}, api.U{9}, api.U{3}},
		{api.U{6}, api.U{7}, api.U{}, api.U{6}},
	}
	for _, c := range cases {
		if q, r := Div(c.a, c.b); q != c.quotient || r != c.left {
			t.Errorf("Div(%x, %x) = %x, %x", c.a, c.b, q, r)
		}
	}
}

// P2.3
func TestRest(t *testing.T) {
	us := samples()
	seed := uint64(3)
	pairs(func(high, m api.U) {
		checkRest(t, high, us[step(&seed)%uint64(len(us))], m)
		checkRest(t, high, all, m)
	})
}

// P2.3: high below, at and above m.
func TestRestBesideHigh(t *testing.T) {
	for _, m := range samples() {
		less, _ := num.Sub(m, num.Of(1))
		more, _ := num.Add(m, num.Of(1))
		for _, low := range []api.U{{}, {1}, less, m, more, all} {
			for _, high := range []api.U{{}, less, m, more, all} {
				checkRest(t, high, low, m)
			}
		}
	}
}

// P2.3: written out, so that nothing hangs on the reckoning of the tests.
func TestRestEdges(t *testing.T) {
	cases := []struct{ high, low, m, want api.U }{
		{all, all, api.U{}, api.U{}},
		{all, all, api.U{1}, api.U{}},
		{all, all, all, api.U{}},
		{all, all, api.U{2}, api.U{1}},
		{api.U{}, api.U{7}, api.U{10}, api.U{7}},
		{api.U{}, api.U{17}, api.U{10}, api.U{7}},
		{api.U{1}, api.U{}, all, api.U{1}},
		{api.U{10}, api.U{}, api.U{10}, api.U{}},
		{api.U{11}, api.U{}, api.U{10}, api.U{6}},
		{all, api.U{top - 1, top, top, top}, all, api.U{top - 1, top, top, top}},
		{api.U{top - 1, top, top, top}, api.U{1}, all, api.U{}},
		{all, api.U{5}, api.U{0, 0, 0, 1}, api.U{5}},
	}
	for _, c := range cases {
		if got := Rest(c.high, c.low, c.m); got != c.want {
			t.Errorf("Rest(%x, %x, %x) = %x", c.high, c.low, c.m, got)
		}
	}
}

// tooGreat is by how much the first guess at the digit at is off.
func tooGreat(a, b api.U, at int) int64 {
	n := (num.Bits(b) + 31) / 32
	shift := uint64(32*n - num.Bits(b))
	said := guess(shifted(api.U{}, a, shift), split(num.Shl(b, shift)), at, n)
	digit := new(big.Int).Div(bigOf(a), bigOf(b))
	return int64(said) - digit.Rsh(digit, uint(32*at)).Int64()
}

// P2.2, P2.3: a quotient's digit that is guessed right, one too great, two too great, and one that is guessed past a digit.
func TestGuessesAreMended(t *testing.T) {
	half := uint64(1 << 31)
	b := api.U{half<<32 | digitTop}
	cases := []struct {
		a, b  api.U
		at    int
		wrong int64
	}{
		{api.U{6<<32 | 3}, api.U{3 << 32}, 0, 0},
		{api.U{digitTop << 32, half - 1}, b, 0, 1},
		{api.U{0, half - 1}, b, 0, 2},
		{api.U{0, half}, b, 0, 1},
		{api.U{top, half}, api.U{top, half}, 0, 0},
	}
	for _, c := range cases {
		if got := tooGreat(c.a, c.b, c.at); got != c.wrong {
			t.Errorf("the guess at %x by %x is off by %d", c.a, c.b, got)
		}
		checkDiv(t, c.a, c.b)
		for up := range 7 {
			// The same digits further up, with those below at both edges.
			a, m := num.Shl(c.a, uint64(32*up)), num.Shl(c.b, uint64(32*up))
			checkDiv(t, a, c.b)
			checkDiv(t, a, m)
			for _, high := range []api.U{{}, a, c.a} {
				checkRest(t, high, a, m)
				checkRest(t, a, high, m)
				checkRest(t, a, all, m)
			}
		}
	}
}

// P2.4
func TestQuotientAndRest(t *testing.T) {
	pairs(func(a, b api.U) {
		quotient, left := Div(a, b)
		if b == (api.U{}) {
			return
		}
		high, low := Wide(quotient, b)
		sum, over := num.Add(low, left)
		if high != (api.U{}) || over || sum != a || num.Cmp(left, b) >= 0 {
			t.Errorf("Div(%x, %x) = %x, %x does not make up a", a, b, quotient, left)
		}
	})
}

// P2.5
func TestOrderAndSums(t *testing.T) {
	us := samples()
	seed := uint64(4)
	pairs(func(a, b api.U) {
		high, low := Wide(a, b)
		if h, l := Wide(b, a); h != high || l != low || Mul(b, a) != Mul(a, b) {
			t.Errorf("the product of %x and %x hangs on their order", a, b)
		}
		if Rest(high, low, a) != (api.U{}) || Rest(high, low, b) != (api.U{}) {
			t.Errorf("the product of %x and %x leaves something by a factor", a, b)
		}
		c := us[step(&seed)%uint64(len(us))]
		sum, _ := num.Add(b, c)
		if spread, _ := num.Add(Mul(a, b), Mul(a, c)); Mul(a, sum) != spread {
			t.Errorf("%x times the sum of %x and %x is not spread", a, b, c)
		}
	})
}

// 0.5: an array is a value, and stays what it was for the one who handed it in.
func TestArgumentsStay(t *testing.T) {
	a, b, m := api.U{1, 2, 3, 4}, api.U{9, 8, 7}, api.U{5, 6}
	Mul(a, b)
	Wide(a, b)
	Div(a, b)
	Rest(a, b, m)
	if a != (api.U{1, 2, 3, 4}) || b != (api.U{9, 8, 7}) || m != (api.U{5, 6}) {
		t.Error("an argument was changed")
	}
}

// The chapter's examples.
func TestExamples(t *testing.T) {
	high, low := Wide(num.Shl(num.Of(1), 255), num.Of(4))
	q, r := Div(num.Of(7), num.Of(2))
	none, left := Div(num.Of(7), num.Of(0))
	got := fmt.Sprint(high, low, q, r, none, left, Rest(num.Of(1), num.Of(0), num.Of(10)))
	want := fmt.Sprint(num.Of(2), num.Of(0), num.Of(3), num.Of(1), num.Of(0), num.Of(0), num.Of(6))
	if got != want {
		t.Errorf("got %s, not %s", got, want)
	}
}
