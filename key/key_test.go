package key

import (
	"encoding/hex"
	"math/big"
	"testing"

	"truce/api"
	"truce/curve"
	"truce/hash"
	"truce/num"
)

const top = 1<<64 - 1

var (
	all     = api.U{top, top, top, top}
	nowhere = api.Point{None: true}
	// order is 2^256 - 432420386565659656852420866394968145599, written out apart from curve's.
	order = ofHex("fffffffffffffffffffffffffffffffebaaedce6af48a03bbfd25e8cd0364141")
	prime = ofHex("fffffffffffffffffffffffffffffffffffffffffffffffffffffffefffffc2f")
)

// known has keys with their addresses as other programs tell them.
var known = []struct{ key, address string }{
	{"01", "7e5f4552091a69125d5dfcb7b8c2659029395bdf"},
	{"02", "2b5ad5c4795c026514f8317c7a215e218dccd6cf"},
	{"03", "6813eb9362372eef6200f3b1dbc3f819671cba69"},
	{"04", "1eff47bc3a10a45d4b230b5d10e37751fe6aa718"},
	{"05", "e1ab8145f7e55dc933d51a18c793f901a3a0b276"},
	{"ac0974bec39a17e36ba4a6b4d238ff944bacb478cbed5efcae784d7bf4f2ff80", "f39fd6e51aad88f6f4ce6ab8827279cfffb92266"},
	{"59c6995e998f97a5a0044966f0945389dc9e86dae88c7a8412f4603b6b78690d", "70997970c51812dc3a010c7d01b50e0d17dc79c8"},
	{"fffffffffffffffffffffffffffffffebaaedce6af48a03bbfd25e8cd0364140", "80c0dbf239224071c59dd8970ab9d542e3414ab2"},
}

// mix is a fixed row of numbers that look mixed: the tests must go alike each time.
func mix(seed *uint64) uint64 {
	*seed += 0x9e3779b97f4a7c15
	z := *seed
	z = (z ^ z>>30) * 0xbf58476d1ce4e5b9
	z = (z ^ z>>27) * 0x94d049bb133111eb
	return z ^ z>>31
}

func mixed(seed *uint64) api.U {
	return api.U{mix(seed), mix(seed), mix(seed), mix(seed)}
}

func rawHex(s string) string {
	b, err := hex.DecodeString(s)
	if err != nil {
		panic(err)
	}
	return string(b)
}

func ofHex(s string) api.U {
	out, err := num.Read(rawHex(s))
	if err != api.OK {
		panic("a test's number is none of 256 bits: " + s)
	}
	return out
}

func bigOf(u api.U) *big.Int { return new(big.Int).SetBytes([]byte(num.Bytes(u))) }

func ofBig(b *big.Int) api.U {
	out, err := num.Read(string(b.Bytes()))
	if err != api.OK || b.Sign() < 0 {
		panic("a test's number is none of 256 bits")
	}
	return out
}

// up is a number and n more (less, if n is below 0), round 2^256.
func up(a api.U, n int64) api.U {
	if n < 0 {
		out, _ := num.Sub(a, num.Of(uint64(-n)))
		return out
	}
	out, _ := num.Add(a, num.Of(uint64(n)))
	return out
}

// keys has both ends, the edges between parts, the order's half, each bit alone, the order with one part fewer, and mixed ones.
func keys() []api.U {
	half := num.Shr(order, 1)
	out := []api.U{{1}, {2}, {3}, {4}, {5}, {top}, {0, 1}, {1, 1}, {top, top}, {0, 0, 1}, {top, top, top}, {0, 0, 0, 1}, up(half, -1), half, up(half, 1), up(half, 2), up(order, -3), up(order, -2), up(order, -1)}
	for i := uint64(0); i < 256; i += 17 {
		out = append(out, num.Shl(num.Of(1), i))
	}
	// Each of these is below the order by one part, though others are full.
	out = append(out,
		api.U{top, order[1] - 1, order[2], order[3]},
		api.U{top, top, order[2] - 1, order[3]},
		api.U{top, top, top, order[3] - 1},
		api.U{0, order[1], order[2], order[3]},
	)
	seed := uint64(71)
	for range 12 {
		k := mixed(&seed)
		k[3] >>= 1
		out = append(out, k)
	}
	return out
}

// strangers has numbers that are no keys: 0, the order, and what is above it in each of its parts.
func strangers() []api.U {
	out := []api.U{{}, order, up(order, 1), up(order, 2), up(order, 1000), up(prime, -1), prime, up(prime, 1), up(all, -1), all,
		{0, order[1] + 1, order[2], order[3]},
		{0, 0, order[2] + 1, order[3]},
		{order[0] + 1, order[1], order[2], order[3]},
		{top, order[1], order[2], order[3]},
		{0, top, order[2], order[3]},
	}
	seed := uint64(72)
	for range 20 {
		k := mixed(&seed)
		out = append(out, api.U{k[0], k[1], top, top})
	}
	return out
}

// spot is a point as the library's numbers; nil is None.
type spot struct{ x, y *big.Int }

// slope is that of two points' line; nil: they stand one above the other.
func slope(a, b *spot) *big.Int {
	p := bigOf(prime)
	var over, under *big.Int
	if a.x.Cmp(b.x) == 0 {
		if a.y.Cmp(b.y) != 0 {
			return nil
		}
		over = new(big.Int).Mul(big.NewInt(3), new(big.Int).Mul(a.x, a.x))
		under = new(big.Int).Lsh(a.y, 1)
	} else {
		over = new(big.Int).Sub(b.y, a.y)
		under = new(big.Int).Sub(b.x, a.x)
	}
	under.ModInverse(under.Mod(under, p), p)
	return over.Mod(over.Mul(over, under), p)
}

func spotSum(a, b *spot) *spot {
	if a == nil {
		return b
	}
	if b == nil {
		return a
	}
	s := slope(a, b)
	if s == nil {
		return nil
	}
	p := bigOf(prime)
	x := new(big.Int).Mul(s, s)
	x.Mod(x.Sub(x.Sub(x, a.x), b.x), p)
	y := new(big.Int).Sub(a.x, x)
	y.Mod(y.Sub(y.Mul(y, s), a.y), p)
	return &spot{x, y}
}

// chapterPublic is the base so many times, worked out by the library's numbers.
func chapterPublic(k api.U) api.Point {
	base := &spot{
		bigOf(ofHex("79be667ef9dcbbac55a06295ce870b07029bfcdb2dce28d959f2815b16f81798")),
		bigOf(ofHex("483ada7726a3c4655da4fbfc0e1108a8fd17b448a68554199c47d08ffb10d4b8")),
	}
	var out *spot
	n := bigOf(k)
	for i := n.BitLen() - 1; i >= 0; i-- {
		out = spotSum(out, out)
		if n.Bit(i) == 1 {
			out = spotSum(out, base)
		}
	}
	if out == nil {
		return nowhere
	}
	return api.Point{X: ofBig(out.x), Y: ofBig(out.y)}
}

// chapterAddress is an address by the chapter's words.
func chapterAddress(p api.Point) string {
	raw := make([]byte, 64)
	bigOf(p.X).FillBytes(raw[:32])
	bigOf(p.Y).FillBytes(raw[32:])
	return hash.Sum(string(raw))[12:]
}

// P7.1
func TestFitOfKeys(t *testing.T) {
	for _, k := range keys() {
		if !Fit(k) {
			t.Errorf("Fit(%v) is false", k)
		}
	}
}

// P7.1
func TestFitOfOthers(t *testing.T) {
	for _, k := range strangers() {
		if Fit(k) {
			t.Errorf("Fit(%v) is true", k)
		}
	}
}

// P7.1
func TestFitByTheLibrary(t *testing.T) {
	seed := uint64(73)
	n := bigOf(order)
	for range 2000 {
		// Parts of the order among mixed ones: only so do the lower parts decide.
		k := mixed(&seed)
		for at, pick := range []uint64{mix(&seed), mix(&seed), mix(&seed), mix(&seed)} {
			switch pick % 6 {
			case 0:
				k[at] = 0
			case 1:
				k[at] = top
			case 2, 3, 4:
				k[at] = order[at]
			}
		}
		b := bigOf(k)
		if got, want := Fit(k), b.Sign() > 0 && b.Cmp(n) < 0; got != want {
			t.Errorf("Fit(%v) is %v", k, got)
		}
	}
}

// smalls has the ends and edges of n.
func smalls() []uint64 {
	out := []uint64{0, 1, 2, 3, 6, 7, 255, 256, 1<<31 - 1, 1 << 31, 1<<32 - 1, 1 << 32, 1<<63 - 1, 1 << 63, top - 2, top - 1, top}
	seed := uint64(74)
	for range 20 {
		out = append(out, mix(&seed))
	}
	return out
}

// P7.1
func TestSmallIsOneMore(t *testing.T) {
	for _, n := range smalls() {
		want := new(big.Int).SetUint64(n)
		want.Add(want, big.NewInt(1))
		if got := Small(n); bigOf(got).Cmp(want) != 0 {
			t.Errorf("Small(%d) is %v", n, got)
		}
	}
	if got := Small(top); got != (api.U{0, 1}) {
		t.Errorf("Small of the greatest is %v", got)
	}
	if got := Small(0); got != (api.U{1}) {
		t.Errorf("Small(0) is %v", got)
	}
}

// P7.2
func TestPublicByTheLibrary(t *testing.T) {
	for _, k := range keys() {
		got, err := Public(k)
		if err != api.OK {
			t.Errorf("Public(%v): %v", k, err)
		}
		if want := chapterPublic(k); got != want {
			t.Errorf("Public(%v) is %v, not %v", k, got, want)
		}
		if want := curve.Mul(k, curve.Base()); got != want {
			t.Errorf("Public(%v) is not curve.Mul's %v", k, want)
		}
	}
}

// P7.2
func TestOthersAreErrKey(t *testing.T) {
	for _, k := range strangers() {
		if p, err := Public(k); err != api.ErrKey || p != (api.Point{}) {
			t.Errorf("Public(%v) is %v, %v", k, p, err)
		}
		if a, err := Who(k); err != api.ErrKey || a != "" {
			t.Errorf("Who(%v) is %q, %v", k, a, err)
		}
	}
}

// P7.2
func TestAddressOfPoints(t *testing.T) {
	for _, k := range keys() {
		p := chapterPublic(k)
		for _, q := range []api.Point{p, {X: p.X, Y: ofBig(new(big.Int).Sub(bigOf(prime), bigOf(p.Y)))}} {
			if got, want := Address(q), chapterAddress(q); got != want {
				t.Errorf("Address(%v) is %x, not %x", q, got, want)
			}
		}
	}
}

// P7.2: points whose X or Y is short still give all 32 bytes of each.
func TestAddressOfShortNumbers(t *testing.T) {
	for n, found := uint64(1), 0; found < 3; n++ {
		p, ok := curve.Lift(num.Of(n), n%2 == 1)
		if !ok {
			continue
		}
		found++
		if got, want := Address(p), chapterAddress(p); got != want {
			t.Errorf("Address(%v) is %x, not %x", p, got, want)
		}
	}
}

// P7.2
func TestAddressOfNone(t *testing.T) {
	if got := Address(nowhere); got != "" {
		t.Errorf("Address of None is %x", got)
	}
}

// P7.2
func TestAddressesOfOtherPrograms(t *testing.T) {
	for _, one := range known {
		k, want := ofHex(one.key), rawHex(one.address)
		if got, err := Who(k); err != api.OK || got != want {
			t.Errorf("Who(%s) is %x, %v", one.key, got, err)
		}
		p, err := Public(k)
		if got := Address(p); err != api.OK || got != want {
			t.Errorf("Address of Public(%s) is %x, %v", one.key, got, err)
		}
	}
}

// P7.2
func TestWhoIsTheAddressOfPublic(t *testing.T) {
	for _, k := range keys() {
		got, err := Who(k)
		if want := chapterAddress(chapterPublic(k)); err != api.OK || got != want {
			t.Errorf("Who(%v) is %x, %v; not %x", k, got, err, want)
		}
	}
}

// P7.3
func TestSmallIsAKey(t *testing.T) {
	for _, n := range smalls() {
		k := Small(n)
		if !Fit(k) {
			t.Errorf("Small(%d) is no key", n)
		}
		if _, err := Public(k); err != api.OK {
			t.Errorf("Public of Small(%d): %v", n, err)
		}
	}
}

// P7.3
func TestAddressesHave20Bytes(t *testing.T) {
	seen := map[string]api.U{}
	for _, k := range keys() {
		a, err := Who(k)
		if err != api.OK || len(a) != 20 {
			t.Errorf("Who(%v) has %d bytes, %v", k, len(a), err)
		}
		if other, there := seen[a]; there && other != k {
			t.Errorf("%v and %v have one address", k, other)
		}
		seen[a] = k
	}
}

// P7.4
func TestPublicIsOnTheCurve(t *testing.T) {
	for _, k := range keys() {
		p, _ := Public(k)
		if p.None || !curve.On(p) {
			t.Errorf("Public(%v) is %v", k, p)
		}
	}
}

// P7.4
func TestTheOtherSide(t *testing.T) {
	for _, k := range keys() {
		other, _ := num.Sub(order, k)
		if !Fit(other) {
			t.Errorf("the order less %v is no key", k)
		}
		p, _ := Public(k)
		got, err := Public(other)
		want := api.Point{X: p.X, Y: ofBig(new(big.Int).Sub(bigOf(prime), bigOf(p.Y)))}
		if err != api.OK || got != want || got != curve.Neg(p) {
			t.Errorf("Public of the order less %v is %v, %v", k, got, err)
		}
	}
}

// 0.1: points beside the curve, and ones that say None and have coordinates, end too.
func TestStrangePointsEnd(t *testing.T) {
	for _, p := range []api.Point{{}, {X: all, Y: all}, {X: prime, Y: prime}, {X: all, Y: all, None: true}, {X: api.U{1}, Y: api.U{1}}} {
		if got := Address(p); len(got) > 20 {
			t.Errorf("Address(%v) has %d bytes", p, len(got))
		}
	}
}

// The same call has the same answer, whatever was asked between.
func TestNothingIsKept(t *testing.T) {
	k := api.U{9, 8, 7, 6}
	a, err := Who(k)
	for _, other := range strangers() {
		Who(other)
		Small(top)
	}
	b, errB := Who(k)
	if a != b || err != api.OK || errB != api.OK {
		t.Errorf("Who(%v) is %x, %v and %x, %v", k, a, err, b, errB)
	}
}

// The chapter's example.
func TestExample(t *testing.T) {
	a, err := Who(num.Of(1))
	if err != api.OK || a != "\x7e\x5f\x45\x52\x09\x1a\x69\x12\x5d\x5d\xfc\xb7\xb8\xc2\x65\x90\x29\x39\x5b\xdf" {
		t.Errorf("Who(1) is %x, %v", a, err)
	}
}
