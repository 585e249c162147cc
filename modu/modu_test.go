package modu

import (
	"fmt"
	"math/big"
	"testing"

	"truce/api"
	"truce/mul"
	"truce/num"
)

const top = 1<<64 - 1

var (
	all   = api.U{top, top, top, top}
	below = api.U{top - 1, top, top, top}
	// prime is the greatest one below 2^256: 2^256 - 189.
	prime  = api.U{top - 188, top, top, top}
	modulo = new(big.Int).Lsh(big.NewInt(1), 256)
	one    = big.NewInt(1)
)

// step is a fixed row of numbers that look mixed: the tests must go alike each time.
func step(seed *uint64) uint64 {
	*seed += 0x9e3779b97f4a7c15
	z := *seed
	z = (z ^ z>>30) * 0xbf58476d1ce4e5b9
	z = (z ^ z>>27) * 0x94d049bb133111eb
	return z ^ z>>31
}

func mixed(seed *uint64) api.U {
	return api.U{step(seed), step(seed), step(seed), step(seed)}
}

// samples has small numbers, edges of the parts, primes, even numbers, and mixed ones of many sizes.
func samples() []api.U {
	out := []api.U{{}, {1}, {2}, {3}, {4}, {6}, {7}, {10}, {12}, {97}, {1 << 32}, {top}, {0, 1}, {1, 1}, {top, top}, {0, 0, 1}, {0, 0, 0, 1 << 63}, {1, 0, 0, 1 << 63}, prime, below, all}
	seed := uint64(31)
	for n := range 10 {
		out = append(out, num.Shr(mixed(&seed), uint64(24*n)))
	}
	return out
}

// moduli has the samples, so that each edge is a modulus too, and their multiples by 6, which share factors with many.
func moduli() []api.U {
	out := samples()
	for _, m := range samples() {
		out = append(out, mul.Mul(m, num.Of(6)))
	}
	return out
}

// beside has a number and those next to it, round 2^256.
func beside(a api.U) []api.U {
	less, _ := num.Sub(a, num.Of(1))
	more, _ := num.Add(a, num.Of(1))
	return []api.U{less, a, more}
}

func bigOf(u api.U) *big.Int { return new(big.Int).SetBytes([]byte(num.Bytes(u))) }

func ofBig(b *big.Int) api.U {
	out, _ := num.Read(string(new(big.Int).Mod(b, modulo).Bytes()))
	return out
}

// leftOf is what is left of x by m; 0, if m is 0.
func leftOf(x *big.Int, m api.U) api.U {
	if m == (api.U{}) {
		return api.U{}
	}
	return ofBig(new(big.Int).Mod(x, bigOf(m)))
}

func checkSum(t *testing.T, a, b, m api.U) {
	t.Helper()
	if got, want := AddMod(a, b, m), leftOf(new(big.Int).Add(bigOf(a), bigOf(b)), m); got != want {
		t.Errorf("AddMod(%x, %x, %x) = %x, not %x", a, b, m, got, want)
	}
}

func checkProduct(t *testing.T, a, b, m api.U) {
	t.Helper()
	if got, want := MulMod(a, b, m), leftOf(new(big.Int).Mul(bigOf(a), bigOf(b)), m); got != want {
		t.Errorf("MulMod(%x, %x, %x) = %x, not %x", a, b, m, got, want)
	}
}

func checkExp(t *testing.T, a, n api.U) {
	t.Helper()
	if got, want := Exp(a, n), ofBig(new(big.Int).Exp(bigOf(a), bigOf(n), modulo)); got != want {
		t.Errorf("Exp(%x, %x) = %x, not %x", a, n, got, want)
	}
}

func checkPow(t *testing.T, a, n, m api.U) {
	t.Helper()
	var want api.U
	if num.Bits(m) > 1 {
		want = ofBig(new(big.Int).Exp(bigOf(a), bigOf(n), bigOf(m)))
	}
	if got := Pow(a, n, m); got != want {
		t.Errorf("Pow(%x, %x, %x) = %x, not %x", a, n, m, got, want)
	}
}

func checkInverse(t *testing.T, a, m api.U) {
	t.Helper()
	var want api.U
	there := false
	if num.Bits(m) > 1 && new(big.Int).GCD(nil, nil, bigOf(a), bigOf(m)).Cmp(one) == 0 {
		want, there = ofBig(new(big.Int).ModInverse(bigOf(a), bigOf(m))), true
	}
	if got, ok := Inverse(a, m); got != want || ok != there {
		t.Errorf("Inverse(%x, %x) = %x, %v, not %x, %v", a, m, got, ok, want, there)
	}
}

// P3.1
func TestSumsAndProducts(t *testing.T) {
	for _, m := range moduli() {
		for _, a := range samples() {
			for _, b := range samples() {
				checkSum(t, a, b, m)
				checkProduct(t, a, b, m)
			}
		}
	}
}

// P3.1: summands and factors below, at and above m.
func TestSumsAndProductsBesideM(t *testing.T) {
	for _, m := range moduli() {
		for _, a := range beside(m) {
			for _, b := range append(beside(m), api.U{}, api.U{1}, all) {
				checkSum(t, a, b, m)
				checkSum(t, b, a, m)
				checkProduct(t, a, b, m)
				checkProduct(t, b, a, m)
			}
		}
	}
}

// P3.1: written out, so that nothing hangs on the reckoning of the tests.
func TestSumAndProductEdges(t *testing.T) {
	cases := []struct{ a, b, m, sum, product api.U }{
		{all, all, api.U{}, api.U{}, api.U{}},
		{all, all, api.U{1}, api.U{}, api.U{}},
		{all, all, api.U{2}, api.U{}, api.U{1}},
		{all, below, api.U{2}, api.U{1}, api.U{}},
		{all, all, all, api.U{}, api.U{}},
		{below, below, all, api.U{top - 2, top, top, top}, api.U{1}},
		{all, api.U{2}, all, api.U{2}, api.U{}},
		{all, all, below, api.U{2}, api.U{1}},
		{all, api.U{1}, api.U{10}, api.U{6}, api.U{5}},
		{api.U{0, 0, 0, 1 << 63}, api.U{0, 0, 0, 1 << 63}, api.U{7}, api.U{2}, api.U{1}},
		{api.U{3}, api.U{4}, api.U{7}, api.U{}, api.U{5}},
		{api.U{7}, api.U{7}, api.U{7}, api.U{}, api.U{}},
		{api.U{8}, api.U{15}, api.U{7}, api.U{2}, api.U{1}},
		{api.U{}, api.U{}, api.U{7}, api.U{}, api.U{}},
		{api.U{3}, api.U{4}, all, api.U{7}, api.U{12}},
	}
	for _, c := range cases {
		if got := AddMod(c.a, c.b, c.m); got != c.sum {
			t.Errorf("AddMod(%x, %x, %x) = %x", c.a, c.b, c.m, got)
		}
		if got := MulMod(c.a, c.b, c.m); got != c.product {
			t.Errorf("MulMod(%x, %x, %x) = %x", c.a, c.b, c.m, got)
		}
	}
}

// P3.2
func TestPowers(t *testing.T) {
	us := samples()
	seed := uint64(32)
	for _, a := range us {
		for _, n := range us {
			checkExp(t, a, n)
			for range 4 {
				checkPow(t, a, n, us[step(&seed)%uint64(len(us))])
			}
			for _, m := range []api.U{{}, {1}, {2}, all} {
				checkPow(t, a, n, m)
			}
		}
	}
}

// P3.2: each bit of n alone, with those below it, and numbers at and above m to it.
func TestPowersBitByBit(t *testing.T) {
	for at := range 256 {
		bit := num.Shl(num.Of(1), uint64(at))
		less, _ := num.Sub(bit, num.Of(1))
		for _, n := range []api.U{bit, less} {
			checkExp(t, num.Of(3), n)
			checkPow(t, num.Of(10), n, num.Of(7))
			checkPow(t, all, n, prime)
		}
	}
}

// P3.2: written out, so that nothing hangs on the reckoning of the tests.
func TestPowerEdges(t *testing.T) {
	exps := []struct{ a, n, want api.U }{
		{api.U{}, api.U{}, api.U{1}},
		{all, api.U{}, api.U{1}},
		{api.U{}, api.U{1}, api.U{}},
		{api.U{}, all, api.U{}},
		{api.U{1}, all, api.U{1}},
		{all, api.U{1}, all},
		{all, api.U{2}, api.U{1}},
		{all, all, all},
		{all, below, api.U{1}},
		{api.U{2}, api.U{255}, api.U{0, 0, 0, 1 << 63}},
		{api.U{2}, api.U{256}, api.U{}},
		{api.U{2}, api.U{1, 1}, api.U{}},
		{api.U{3}, api.U{0, 0, 0, 1 << 62}, api.U{1}},
	}
	for _, c := range exps {
		if got := Exp(c.a, c.n); got != c.want {
			t.Errorf("Exp(%x, %x) = %x", c.a, c.n, got)
		}
	}
	pows := []struct{ a, n, m, want api.U }{
		{api.U{}, api.U{}, api.U{}, api.U{}},
		{api.U{5}, api.U{}, api.U{}, api.U{}},
		{api.U{5}, api.U{2}, api.U{}, api.U{}},
		{api.U{}, api.U{}, api.U{1}, api.U{}},
		{api.U{5}, api.U{}, api.U{1}, api.U{}},
		{api.U{1}, all, api.U{1}, api.U{}},
		{api.U{}, api.U{}, api.U{2}, api.U{1}},
		{api.U{5}, api.U{}, api.U{2}, api.U{1}},
		{api.U{}, api.U{1}, api.U{2}, api.U{}},
		{api.U{}, all, all, api.U{}},
		{api.U{1}, all, all, api.U{1}},
		{all, api.U{}, all, api.U{1}},
		{all, api.U{1}, all, api.U{}},
		{all, api.U{1}, below, api.U{1}},
		{below, all, all, below},
		{below, below, all, api.U{1}},
		{api.U{9}, api.U{1}, api.U{7}, api.U{2}},
		{api.U{7}, api.U{1}, api.U{7}, api.U{}},
		{api.U{9}, api.U{3}, api.U{7}, api.U{1}},
		// 2 to the 256 is 1 by 2^256 - 1, and n is 255 by 256.
		{api.U{2}, all, all, api.U{0, 0, 0, 1 << 63}},
	}
	for _, c := range pows {
		if got := Pow(c.a, c.n, c.m); got != c.want {
			t.Errorf("Pow(%x, %x, %x) = %x", c.a, c.n, c.m, got)
		}
	}
}

// P3.3
func TestInverses(t *testing.T) {
	seed := uint64(33)
	for _, m := range moduli() {
		for _, a := range append(samples(), beside(m)...) {
			checkInverse(t, a, m)
		}
		for range 20 {
			checkInverse(t, mixed(&seed), m)
		}
	}
}

// P3.3: every small number by every small modulus, found by trying all.
func TestSmallInverses(t *testing.T) {
	for m := range uint64(40) {
		for a := range uint64(90) {
			var want api.U
			there := false
			for x := range m {
				if m > 1 && a*x%m == 1 {
					want, there = num.Of(x), true
				}
			}
			if got, ok := Inverse(num.Of(a), num.Of(m)); got != want || ok != there {
				t.Errorf("Inverse(%d, %d) = %x, %v", a, m, got, ok)
			}
		}
	}
}

// P3.3: a row of sums of the two numbers ahead takes most steps.
func TestInversesOfManySteps(t *testing.T) {
	a, m := num.Of(1), num.Of(2)
	for {
		checkInverse(t, a, m)
		checkInverse(t, m, a)
		sum, over := num.Add(a, m)
		if over {
			return
		}
		a, m = m, sum
	}
}

// P3.3: written out, so that nothing hangs on the reckoning of the tests.
func TestInverseEdges(t *testing.T) {
	cases := []struct {
		a, m, want api.U
		ok         bool
	}{
		{api.U{}, api.U{}, api.U{}, false},
		{api.U{1}, api.U{}, api.U{}, false},
		{all, api.U{}, api.U{}, false},
		{api.U{}, api.U{1}, api.U{}, false},
		{api.U{1}, api.U{1}, api.U{}, false},
		{all, api.U{1}, api.U{}, false},
		{api.U{}, api.U{2}, api.U{}, false},
		{api.U{1}, api.U{2}, api.U{1}, true},
		{api.U{2}, api.U{2}, api.U{}, false},
		{all, api.U{2}, api.U{1}, true},
		{api.U{}, api.U{7}, api.U{}, false},
		{api.U{1}, api.U{7}, api.U{1}, true},
		{api.U{6}, api.U{7}, api.U{6}, true},
		{api.U{7}, api.U{7}, api.U{}, false},
		{api.U{8}, api.U{7}, api.U{1}, true},
		{api.U{10}, api.U{7}, api.U{5}, true},
		{api.U{3}, api.U{10}, api.U{7}, true},
		{api.U{13}, api.U{10}, api.U{7}, true},
		{api.U{5}, api.U{10}, api.U{}, false},
		{api.U{4}, api.U{10}, api.U{}, false},
		{api.U{10}, api.U{10}, api.U{}, false},
		{api.U{}, all, api.U{}, false},
		{api.U{1}, all, api.U{1}, true},
		{below, all, below, true},
		{all, all, api.U{}, false},
		{all, below, api.U{1}, true},
		{api.U{2}, all, api.U{0, 0, 0, 1 << 63}, true},
		{api.U{3}, all, api.U{}, false},
		{api.U{1<<32 + 1}, all, api.U{}, false},
	}
	for _, c := range cases {
		if got, ok := Inverse(c.a, c.m); got != c.want || ok != c.ok {
			t.Errorf("Inverse(%x, %x) = %x, %v", c.a, c.m, got, ok)
		}
	}
}

// P3.4
func TestInverseTimesNumber(t *testing.T) {
	for _, m := range moduli() {
		for _, a := range samples() {
			x, ok := Inverse(a, m)
			if ok && (MulMod(x, a, m) != num.Of(1) || MulMod(a, x, m) != num.Of(1) || num.Cmp(x, m) >= 0) {
				t.Errorf("Inverse(%x, %x) = %x does not make 1", a, m, x)
			}
		}
	}
}

// P3.4
func TestPowerToSum(t *testing.T) {
	us := samples()
	seed := uint64(34)
	for _, n := range us {
		for _, k := range us {
			sum, over := num.Add(n, k)
			if over {
				continue
			}
			a, m := us[step(&seed)%uint64(len(us))], us[step(&seed)%uint64(len(us))]
			if Exp(a, sum) != mul.Mul(Exp(a, n), Exp(a, k)) {
				t.Errorf("%x to the sum of %x and %x is not the product", a, n, k)
			}
			if Pow(a, sum, m) != MulMod(Pow(a, n, m), Pow(a, k, m), m) {
				t.Errorf("%x to the sum of %x and %x is not the product, by %x", a, n, k, m)
			}
		}
	}
}

// P3.5
func TestBelowAndSpread(t *testing.T) {
	us := samples()
	seed := uint64(35)
	for _, m := range us {
		for _, a := range us {
			b, c := us[step(&seed)%uint64(len(us))], us[step(&seed)%uint64(len(us))]
			sum, product := AddMod(b, c, m), MulMod(a, b, m)
			if m != (api.U{}) && (num.Cmp(sum, m) >= 0 || num.Cmp(product, m) >= 0) {
				t.Errorf("%x, %x by %x are not below", sum, product, m)
			}
			if MulMod(a, sum, m) != AddMod(product, MulMod(a, c, m), m) {
				t.Errorf("%x times the sum of %x and %x is not spread, by %x", a, b, c, m)
			}
		}
	}
}

// 0.5: an array is a value, and stays what it was for the one who handed it in.
func TestArgumentsStay(t *testing.T) {
	a, b, m := api.U{1, 2, 3, 4}, api.U{9, 8, 7}, api.U{5, 6}
	AddMod(a, b, m)
	MulMod(a, b, m)
	Exp(a, b)
	Pow(a, b, m)
	Inverse(a, m)
	if a != (api.U{1, 2, 3, 4}) || b != (api.U{9, 8, 7}) || m != (api.U{5, 6}) {
		t.Error("an argument was changed")
	}
}

// The chapter's examples.
func TestExamples(t *testing.T) {
	five, there := Inverse(num.Of(3), num.Of(7))
	none, ok := Inverse(num.Of(2), num.Of(4))
	got := fmt.Sprint(AddMod(all, num.Of(2), num.Of(10)), Exp(num.Of(3), num.Of(5)), five, there, none, ok)
	want := fmt.Sprint(num.Of(7), num.Of(243), num.Of(5), true, num.Of(0), false)
	if got != want {
		t.Errorf("got %s, not %s", got, want)
	}
}
