package curve

import (
	"encoding/hex"
	"math/big"
	"testing"

	"truce/api"
	"truce/num"
)

const top = 1<<64 - 1

var (
	all     = api.U{top, top, top, top}
	nowhere = api.Point{None: true}
)

// mix is a fixed row of numbers that look mixed: the tests must go alike each time.
func mix(seed *uint64) uint64 {
	*seed += 0x9e3779b97f4a7c15
	z := *seed
	z = (z ^ z>>30) * 0xbf58476d1ce4e5b9
	z = (z ^ z>>27) * 0x94d049bb133111eb
	return z ^ z>>31
}

func mixed(seed *uint64) api.U {
	return api.U{mix(seed), mix(seed), mix(seed), mix(seed)}
}

func bigOf(u api.U) *big.Int { return new(big.Int).SetBytes([]byte(num.Bytes(u))) }

func ofBig(b *big.Int) api.U {
	out, err := num.Read(string(b.Bytes()))
	if err != api.OK || b.Sign() < 0 {
		panic("a test's number is none of 256 bits")
	}
	return out
}

func decimal(s string) *big.Int {
	out, ok := new(big.Int).SetString(s, 10)
	if !ok {
		panic("a test's number is none: " + s)
	}
	return out
}

func ofHex(s string) api.U {
	b, err := hex.DecodeString(s)
	if err != nil {
		panic(err)
	}
	out, _ := num.Read(string(b))
	return out
}

// up is a number and n more (less, if n is below 0), round 2^256.
func up(a api.U, n int64) api.U {
	if n < 0 {
		out, _ := num.Sub(a, num.Of(uint64(-n)))
		return out
	}
	out, _ := num.Add(a, num.Of(uint64(n)))
	return out
}

// The chapter's prime and order, worked out by the library.
func chapterPrime() *big.Int {
	p := new(big.Int).Lsh(big.NewInt(1), 256)
	p.Sub(p, new(big.Int).Lsh(big.NewInt(1), 32))
	return p.Sub(p, big.NewInt(977))
}

func chapterOrder() *big.Int {
	n := new(big.Int).Lsh(big.NewInt(1), 256)
	return n.Sub(n, decimal("432420386565659656852420866394968145599"))
}

// spot is a point as the library's numbers; nil is None.
type spot struct{ x, y *big.Int }

func spotOf(p api.Point) *spot {
	if p.None {
		return nil
	}
	return &spot{bigOf(p.X), bigOf(p.Y)}
}

func pointOf(s *spot) api.Point {
	if s == nil {
		return api.Point{None: true}
	}
	return api.Point{X: ofBig(s.x), Y: ofBig(s.y)}
}

// slope is the chapter's slope; nil: the sum is None.
func slope(a, b *spot) *big.Int {
	p := chapterPrime()
	var over, under *big.Int
	if a.x.Cmp(b.x) == 0 {
		if a.y.Cmp(b.y) != 0 || a.y.Sign() == 0 {
			return nil
		}
		over = new(big.Int).Mul(big.NewInt(3), new(big.Int).Mul(a.x, a.x))
		under = new(big.Int).Lsh(a.y, 1)
	} else {
		over = new(big.Int).Sub(b.y, a.y)
		under = new(big.Int).Sub(b.x, a.x)
	}
	under.ModInverse(under.Mod(under, p), p)
	return over.Mod(over.Mul(over, under), p)
}

// chapterSum is a sum by the chapter's words.
func chapterSum(a, b *spot) *spot {
	if a == nil {
		return b
	}
	if b == nil {
		return a
	}
	s := slope(a, b)
	if s == nil {
		return nil
	}
	p := chapterPrime()
	x := new(big.Int).Mul(s, s)
	x.Mod(x.Sub(x.Sub(x, a.x), b.x), p)
	y := new(big.Int).Sub(a.x, x)
	y.Mod(y.Sub(y.Mul(y, s), a.y), p)
	return &spot{x, y}
}

// chapterMul is a point, k times added, the highest bit first.
func chapterMul(k *big.Int, a *spot) *spot {
	var out *spot
	for i := k.BitLen() - 1; i >= 0; i-- {
		out = chapterSum(out, out)
		if k.Bit(i) == 1 {
			out = chapterSum(out, a)
		}
	}
	return out
}

// chapterOn is the chapter's sentence on points with coordinates.
func chapterOn(a *spot) bool {
	p := chapterPrime()
	if a.x.Cmp(p) >= 0 || a.y.Cmp(p) >= 0 {
		return false
	}
	left := new(big.Int).Mul(a.y, a.y)
	right := new(big.Int).Exp(a.x, big.NewInt(3), p)
	right.Add(right, big.NewInt(7))
	return left.Mod(left, p).Cmp(right.Mod(right, p)) == 0
}

// points has None, small multiples of the base, the negatives of some, and mixed ones, all by the chapter's sums.
func points() []api.Point {
	base := spotOf(Base())
	out := []api.Point{nowhere}
	var sum *spot
	for range 5 {
		sum = chapterSum(sum, base)
		out = append(out, pointOf(sum), pointOf(&spot{sum.x, new(big.Int).Sub(chapterPrime(), sum.y)}))
	}
	seed := uint64(61)
	for range 4 {
		out = append(out, pointOf(chapterMul(bigOf(mixed(&seed)), base)))
	}
	return out
}

// factors has the edges that a number of times has.
func factors() []api.U {
	n, p := ofBig(chapterOrder()), ofBig(chapterPrime())
	out := []api.U{{}, {1}, {2}, {3}, {4}, {5}, {8}, {top}, {0, 1}, {0, 0, 1}, {0, 0, 0, 1}, {0, 0, 0, 1 << 63}, up(n, -2), up(n, -1), n, up(n, 1), up(n, 2), up(p, -1), p, up(p, 1), up(all, -1), all}
	seed := uint64(62)
	for i := range 6 {
		out = append(out, num.Shr(mixed(&seed), uint64(40*i)))
	}
	return out
}

func isOn(t *testing.T, p api.Point) {
	t.Helper()
	if p.None {
		if p != nowhere {
			t.Errorf("None has coordinates: %v", p)
		}
		return
	}
	if !chapterOn(spotOf(p)) || !On(p) {
		t.Errorf("not on the curve: %v", p)
	}
}

// P6.1
func TestNumbersOfTheChapter(t *testing.T) {
	if bigOf(Prime()).Cmp(chapterPrime()) != 0 {
		t.Errorf("Prime is %v", Prime())
	}
	if bigOf(Order()).Cmp(chapterOrder()) != 0 {
		t.Errorf("Order is %v", Order())
	}
	base := Base()
	if base.None {
		t.Error("Base is None")
	}
	if bigOf(base.X).Cmp(decimal("55066263022277343669578718895168534326250603453777594175500187360389116729240")) != 0 {
		t.Errorf("Base's X is %v", base.X)
	}
	if bigOf(base.Y).Cmp(decimal("32670510020758816978083085130507043184471273380659243275938904335757337482424")) != 0 {
		t.Errorf("Base's Y is %v", base.Y)
	}
}

// P6.1
func TestOnOfPoints(t *testing.T) {
	for _, p := range points() {
		if !On(p) {
			t.Errorf("On(%v) is false", p)
		}
	}
}

// P6.1
func TestOnBesideTheCurve(t *testing.T) {
	for _, p := range points() {
		if p.None {
			continue
		}
		for _, by := range []int64{-2, -1, 1, 2, 977} {
			for _, q := range []api.Point{{X: up(p.X, by), Y: p.Y}, {X: p.X, Y: up(p.Y, by)}, {X: up(p.X, by), Y: up(p.Y, by)}} {
				if got, want := On(q), chapterOn(spotOf(q)); got != want {
					t.Errorf("On(%v) is %v", q, got)
				}
			}
		}
		for i := range 256 {
			q := api.Point{X: p.X, Y: num.Xor(p.Y, num.Shl(num.Of(1), uint64(i)))}
			if On(q) {
				t.Errorf("On(%v) is true", q)
			}
		}
		if q := (api.Point{X: p.Y, Y: p.X}); On(q) {
			t.Errorf("On(%v) is true", q)
		}
	}
}

// lowPoints has a point whose X is so small that X and the prime together are below 2^256, and so is another one's Y.
func lowPoints(t *testing.T) (lowX, lowY api.Point) {
	t.Helper()
	p := chapterPrime()
	y := new(big.Int).ModSqrt(big.NewInt(8), p) // 1 * 1 * 1 and 7
	if y == nil {
		t.Fatal("8 is no square")
	}
	lowX = pointOf(&spot{big.NewInt(1), y})
	for n := int64(1); n < 1000; n++ {
		cube := new(big.Int).Mod(big.NewInt(n*n-7), p)
		if x := cubeRoot(cube); x != nil {
			return lowX, pointOf(&spot{x, big.NewInt(n)})
		}
	}
	t.Fatal("no point with a small Y")
	return
}

// cubeRoot is a number whose cube is a, if there is one: the prime and 2 have 9 as a factor.
func cubeRoot(a *big.Int) *big.Int {
	p := chapterPrime()
	e := new(big.Int).Add(p, big.NewInt(2))
	x := new(big.Int).Exp(a, e.Div(e, big.NewInt(9)), p)
	if new(big.Int).Exp(x, big.NewInt(3), p).Cmp(a) != 0 {
		return nil
	}
	return x
}

// P6.1
func TestOnAtOrAboveThePrime(t *testing.T) {
	lowX, lowY := lowPoints(t)
	if !On(lowX) || !On(lowY) {
		t.Fatalf("On(%v) or On(%v) is false", lowX, lowY)
	}
	// By the prime these hold, but they are not below it.
	highX, _ := num.Add(lowX.X, Prime())
	highY, _ := num.Add(lowY.Y, Prime())
	wrong := []api.Point{
		{X: highX, Y: lowX.Y},
		{X: lowY.X, Y: highY},
		{X: Prime(), Y: Base().Y},
		{X: Base().X, Y: Prime()},
		{X: Prime(), Y: Prime()},
		{X: all, Y: all},
		{X: up(Prime(), -1), Y: up(Prime(), -1)},
		{X: all, Y: Base().Y},
		{X: Base().X, Y: all},
	}
	for _, p := range wrong {
		if On(p) {
			t.Errorf("On(%v) is true", p)
		}
	}
}

// P6.1
func TestOnOfNone(t *testing.T) {
	if !On(nowhere) {
		t.Error("On of None is false")
	}
	wrong := []api.Point{
		{},
		{X: Base().X, None: true},
		{Y: Base().Y, None: true},
		{X: Base().X, Y: Base().Y, None: true},
		{X: num.Of(1), None: true},
		{Y: num.Of(1), None: true},
		{X: Prime(), Y: Prime(), None: true},
	}
	for _, p := range wrong {
		if On(p) {
			t.Errorf("On(%v) is true", p)
		}
	}
}

// P6.2
func TestNeg(t *testing.T) {
	if got := Neg(nowhere); got != nowhere {
		t.Errorf("Neg of None is %v", got)
	}
	for _, p := range points()[1:] {
		want := api.Point{X: p.X, Y: ofBig(new(big.Int).Sub(chapterPrime(), bigOf(p.Y)))}
		if got := Neg(p); got != want {
			t.Errorf("Neg(%v) is %v, not %v", p, got, want)
		}
		if got := Neg(Neg(p)); got != p {
			t.Errorf("Neg of Neg of %v is %v", p, got)
		}
	}
}

// P6.2
func TestAddByTheChapter(t *testing.T) {
	for _, p := range points() {
		for _, q := range points() {
			want := pointOf(chapterSum(spotOf(p), spotOf(q)))
			if got := Add(p, q); got != want {
				t.Errorf("Add(%v, %v) is %v, not %v", p, q, got, want)
			}
		}
	}
}

// P6.2
func TestAddEdges(t *testing.T) {
	base := Base()
	two := api.Point{
		X: ofHex("c6047f9441ed7d6d3045406e95c07cd85c778e4b8cef3ca7abac09b95c709ee5"),
		Y: ofHex("1ae168fea63dc339a3c58419466ceaeef7f632653266d0e1236431a950cfe52a"),
	}
	three := api.Point{
		X: ofHex("f9308a019258c31049344f85f89d5229b531c845836f99b08601f113bce036f9"),
		Y: ofHex("388f7b0f632de8140fe337e62a37f3566500a99934c2231b6cb9fd7584b8e672"),
	}
	for _, c := range []struct{ p, q, want api.Point }{
		{nowhere, nowhere, nowhere},
		{nowhere, base, base},
		{base, nowhere, base},
		{base, base, two},
		{base, two, three},
		{two, base, three},
		{base, Neg(base), nowhere},
		{Neg(base), base, nowhere},
		{three, Neg(base), two},
		{Neg(two), three, base},
		{Neg(base), Neg(base), Neg(two)},
	} {
		if got := Add(c.p, c.q); got != c.want {
			t.Errorf("Add(%v, %v) is %v, not %v", c.p, c.q, got, c.want)
		}
	}
}

// P6.2: a point and another one with its Y, whose X is the first one's times a cube root of 1: their slope is 0.
func TestAddOfPointsWithOneY(t *testing.T) {
	p := chapterPrime()
	third := new(big.Int).Div(new(big.Int).Sub(p, big.NewInt(1)), big.NewInt(3))
	root := new(big.Int).Exp(big.NewInt(3), third, p)
	if root.Cmp(big.NewInt(1)) == 0 {
		t.Fatal("3 tells no root of 1")
	}
	for _, a := range points()[1:] {
		x := bigOf(a.X)
		b := api.Point{X: ofBig(new(big.Int).Mod(new(big.Int).Mul(x, root), p)), Y: a.Y}
		for _, pair := range [][2]api.Point{{a, b}, {b, a}, {a, Neg(b)}, {Neg(b), a}, {b, b}} {
			want := pointOf(chapterSum(spotOf(pair[0]), spotOf(pair[1])))
			if got := Add(pair[0], pair[1]); got != want {
				t.Errorf("Add(%v, %v) is %v, not %v", pair[0], pair[1], got, want)
			}
		}
	}
}

// P6.3
func TestMulIsAddedSoManyTimes(t *testing.T) {
	for _, p := range points() {
		sum := nowhere
		for k := range uint64(40) {
			if got := Mul(num.Of(k), p); got != sum {
				t.Errorf("Mul(%d, %v) is %v, not %v", k, p, got, sum)
			}
			sum = Add(sum, p)
		}
	}
}

// P6.3
func TestMulByTheChapter(t *testing.T) {
	ps := points()
	for _, p := range []api.Point{nowhere, ps[1], ps[4], ps[len(ps)-1], ps[len(ps)-2]} {
		for _, k := range factors() {
			want := pointOf(chapterMul(bigOf(k), spotOf(p)))
			if got := Mul(k, p); got != want {
				t.Errorf("Mul(%v, %v) is %v, not %v", k, p, got, want)
			}
		}
	}
}

// P6.3
func TestMulEdges(t *testing.T) {
	for _, p := range points() {
		for _, c := range []struct {
			k    api.U
			want api.Point
		}{
			{api.U{}, nowhere},
			{api.U{1}, p},
			{api.U{2}, Add(p, p)},
			{api.U{3}, Add(p, Add(p, p))},
			{up(Order(), -1), Neg(p)},
			{Order(), nowhere},
			{up(Order(), 1), p},
		} {
			if got := Mul(c.k, p); got != c.want {
				t.Errorf("Mul(%v, %v) is %v, not %v", c.k, p, got, c.want)
			}
		}
	}
	for _, k := range factors() {
		if got := Mul(k, nowhere); got != nowhere {
			t.Errorf("Mul(%v, None) is %v", k, got)
		}
	}
}

// P6.3: a known multiple, beyond what the chapter's words work out here.
func TestMulOfAKnownKey(t *testing.T) {
	k := ofHex("aa5e28d6a97a2479a65527f7290311a3624d4cc0fa1578598ee3c2613bf99522")
	want := api.Point{
		X: ofHex("34f9460f0e4f08393d192b3c5133a6ba099aa0ad9fd54ebccfacdfa239ff49c6"),
		Y: ofHex("0b71ea9bd730fd8923f6d25a7a91e7dd7728a960686cb5a901bb419e0f2ca232"),
	}
	if got := Mul(k, Base()); got != want {
		t.Errorf("Mul is %v, not %v", got, want)
	}
}

// P6.3
func TestSumIsTwoMulsAdded(t *testing.T) {
	ps, ks := points(), factors()
	seed := uint64(63)
	for i, p := range ps {
		for j, q := range ps {
			k, l := ks[(3*i+5*j)%len(ks)], ks[mix(&seed)%uint64(len(ks))]
			want := pointOf(chapterSum(spotOf(Mul(k, p)), spotOf(Mul(l, q))))
			if got := Sum(k, p, l, q); got != want {
				t.Errorf("Sum(%v, %v, %v, %v) is %v, not %v", k, p, l, q, got, want)
			}
		}
	}
}

// P6.3
func TestSumEdges(t *testing.T) {
	base := Base()
	two := Mul(num.Of(2), base)
	n := Order()
	for _, c := range []struct {
		k    api.U
		p    api.Point
		l    api.U
		q    api.Point
		want api.Point
	}{
		{api.U{}, base, api.U{}, two, nowhere},
		{api.U{}, base, api.U{3}, two, Mul(num.Of(6), base)},
		{api.U{3}, two, api.U{}, base, Mul(num.Of(6), base)},
		{api.U{3}, base, api.U{3}, base, Mul(num.Of(6), base)},
		{api.U{3}, base, api.U{4}, base, Mul(num.Of(7), base)},
		{api.U{5}, base, api.U{5}, Neg(base), nowhere},
		{all, base, all, Neg(base), nowhere},
		{api.U{5}, base, api.U{4}, Neg(base), base},
		{api.U{2}, base, api.U{1}, Neg(two), nowhere},
		{api.U{2}, base, api.U{1}, two, Mul(num.Of(4), base)},
		{n, base, n, two, nowhere},
		{n, base, api.U{1}, two, two},
		{up(n, -1), base, api.U{1}, base, nowhere},
		{api.U{7}, nowhere, api.U{1}, base, base},
		{api.U{1}, base, api.U{7}, nowhere, base},
		{all, nowhere, all, nowhere, nowhere},
	} {
		if got := Sum(c.k, c.p, c.l, c.q); got != c.want {
			t.Errorf("Sum(%v, %v, %v, %v) is %v, not %v", c.k, c.p, c.l, c.q, got, c.want)
		}
	}
}

func checkLift(t *testing.T, x api.U) (there bool) {
	t.Helper()
	p := chapterPrime()
	var y *big.Int
	if bigOf(x).Cmp(p) < 0 {
		right := new(big.Int).Exp(bigOf(x), big.NewInt(3), p)
		y = new(big.Int).ModSqrt(right.Mod(right.Add(right, big.NewInt(7)), p), p)
	}
	for _, odd := range []bool{false, true} {
		got, ok := Lift(x, odd)
		if y == nil {
			if ok || got != (api.Point{}) {
				t.Errorf("Lift(%v, %v) is %v, %v", x, odd, got, ok)
			}
			continue
		}
		want := new(big.Int).Set(y)
		if (want.Bit(0) == 1) != odd {
			want.Sub(p, want)
		}
		if !ok || got != pointOf(&spot{bigOf(x), want}) {
			t.Errorf("Lift(%v, %v) is %v, %v", x, odd, got, ok)
		}
	}
	return y != nil
}

// P6.4
func TestLiftBySquareRoots(t *testing.T) {
	count := map[bool]int{}
	for n := range uint64(60) {
		count[checkLift(t, num.Of(n))]++
		checkLift(t, up(Prime(), -1-int64(n)))
	}
	seed := uint64(64)
	for range 60 {
		count[checkLift(t, mixed(&seed))]++
	}
	if count[true] < 30 || count[false] < 30 {
		t.Errorf("with a point %d, without one %d", count[true], count[false])
	}
}

// P6.4
func TestLiftEdges(t *testing.T) {
	base := Base()
	if got, ok := Lift(base.X, false); !ok || got != base {
		t.Errorf("even: %v, %v", got, ok)
	}
	if got, ok := Lift(base.X, true); !ok || got != Neg(base) {
		t.Errorf("odd: %v, %v", got, ok)
	}
	lowX, _ := lowPoints(t)
	high, _ := num.Add(lowX.X, Prime())
	for _, x := range []api.U{{}, {5}, Prime(), high, up(Prime(), 1), all} {
		for _, odd := range []bool{false, true} {
			if got, ok := Lift(x, odd); ok || got != (api.Point{}) {
				t.Errorf("Lift(%v, %v) is %v, %v", x, odd, got, ok)
			}
		}
	}
}

// P6.5
func TestGroup(t *testing.T) {
	ps := points()
	for i, p := range ps {
		if got := Add(p, Neg(p)); got != nowhere {
			t.Errorf("%v with its Neg is %v", p, got)
		}
		if got := Add(Neg(p), p); got != nowhere {
			t.Errorf("Neg of %v with it is %v", p, got)
		}
		isOn(t, Neg(p))
		for j, q := range ps {
			sum := Add(p, q)
			isOn(t, sum)
			if other := Add(q, p); sum != other {
				t.Errorf("Add(%v, %v) is %v, in the other order %v", p, q, sum, other)
			}
			for _, r := range []api.Point{p, Neg(q), ps[(2*i+3*j)%len(ps)]} {
				if left, right := Add(sum, r), Add(p, Add(q, r)); left != right {
					t.Errorf("%v, %v and %v: %v or %v, by brackets", p, q, r, left, right)
				}
			}
		}
	}
}

// P6.5
func TestMulsAreOn(t *testing.T) {
	for i, p := range points() {
		for _, k := range factors()[i:] {
			isOn(t, Mul(k, p))
		}
	}
}

// P6.6
func TestMulBySums(t *testing.T) {
	ps, ks := points(), factors()
	n := bigOf(Order())
	for i, k := range ks {
		for j, l := range ks {
			if (i+j)%5 != 0 {
				continue
			}
			p := ps[(i+2*j)%len(ps)]
			sum := new(big.Int).Add(bigOf(k), bigOf(l))
			got, want := Mul(ofBig(sum.Mod(sum, n)), p), Add(Mul(k, p), Mul(l, p))
			if got != want {
				t.Errorf("%v by the sum of %v and %v is %v, the sum is %v", p, k, l, got, want)
			}
		}
	}
}

// P6.6
func TestMulByTheOrder(t *testing.T) {
	for _, p := range points() {
		if got := Mul(Order(), p); got != nowhere {
			t.Errorf("Mul(Order, %v) is %v", p, got)
		}
	}
}

// P6.7
func TestLiftOfAPointsX(t *testing.T) {
	lowX, lowY := lowPoints(t)
	for _, p := range append(points()[1:], lowX, lowY, Neg(lowX), Neg(lowY)) {
		if got, ok := Lift(p.X, p.Y[0]&1 == 1); !ok || got != p {
			t.Errorf("Lift of the X of %v is %v, %v", p, got, ok)
		}
		if got, ok := Lift(p.X, p.Y[0]&1 == 0); !ok || got != Neg(p) {
			t.Errorf("Lift of the X of %v, and of the other oddness, is %v, %v", p, got, ok)
		}
	}
}

// Products, sums and differences by the prime at the edges of every part, where what is folded goes over once more.
func TestFieldEdges(t *testing.T) {
	p := chapterPrime()
	edges := []api.U{{}, {1}, {2}, {gap - 1}, {gap}, {gap + 1}, {top}, {0, 1}, {0, 0, 1}, {0, 0, 0, 1}, {0, top, top, top}, {top, 0, top, top}, {top, top, 0, top}, {top, top, top, 0}, {0, 0, 0, top}, up(Prime(), -2), up(Prime(), -1)}
	for i := range 10 {
		edges = append(edges, num.Shl(num.Of(1), uint64(25*i+7)), up(Prime(), -(1<<(6*i))))
	}
	seed := uint64(65)
	for range 20 {
		edges = append(edges, num.Shr(mixed(&seed), 1))
	}
	for _, a := range edges {
		for _, b := range edges {
			x, y := bigOf(a), bigOf(b)
			if got, want := bigOf(product(a, b)), new(big.Int).Mul(x, y); got.Cmp(want.Mod(want, p)) != 0 {
				t.Errorf("%v times %v is %v", a, b, got)
			}
			if got, want := bigOf(plus(a, b)), new(big.Int).Add(x, y); got.Cmp(want.Mod(want, p)) != 0 {
				t.Errorf("%v and %v is %v", a, b, got)
			}
			if got, want := bigOf(less(a, b)), new(big.Int).Sub(x, y); got.Cmp(want.Mod(want, p)) != 0 {
				t.Errorf("%v less %v is %v", a, b, got)
			}
		}
	}
}

// Wide numbers that are whole multiples of the prime, or beside them, and those that go over in the second fold.
func TestFoldEdges(t *testing.T) {
	p := chapterPrime()
	wide := []*big.Int{}
	most := new(big.Int).Lsh(big.NewInt(1), 512)
	for _, by := range []api.U{{}, {1}, {2}, {gap}, {gap - 1}, {gap + 1}, {top}, {0, 1}, up(Prime(), -1), Prime(), up(Prime(), 1), all} {
		for d := int64(-2); d <= 2; d++ {
			wide = append(wide, new(big.Int).Add(new(big.Int).Mul(bigOf(by), p), big.NewInt(d)))
			shifted := new(big.Int).Lsh(bigOf(by), 256)
			wide = append(wide, new(big.Int).Add(shifted, big.NewInt(d)), new(big.Int).Add(shifted, bigOf(up(all, d))))
		}
	}
	wide = append(wide, new(big.Int).Sub(most, big.NewInt(1)))
	for _, w := range wide {
		if w.Sign() < 0 || w.Cmp(most) >= 0 {
			continue
		}
		high := new(big.Int).Rsh(w, 256)
		low := new(big.Int).Sub(w, new(big.Int).Lsh(high, 256))
		if got := bigOf(folded(ofBig(high), ofBig(low))); got.Cmp(new(big.Int).Mod(w, p)) != 0 {
			t.Errorf("%v by the prime is %v", w, got)
		}
	}
}

// The iterator can be left, and gone through once more.
func TestDoubles(t *testing.T) {
	base := Base()
	row := doubles(spread(base), 6)
	for range 2 {
		want, last := base, -1
		for i, d := range row {
			if i != last+1 || point(d) != want {
				t.Errorf("double %d is %v, not %v", i, point(d), want)
			}
			last = i
			want = Add(want, want)
			if i == 3 {
				break
			}
		}
		if last != 3 {
			t.Errorf("left behind %d", last)
		}
	}
	for i := range doubles(spread(base), 0) {
		t.Errorf("none was asked for, %d was told", i)
	}
}

// 0.1: whatever it is, it ends and does not panic.
func TestPointsBesideTheCurveEnd(t *testing.T) {
	wrong := []api.Point{{}, {X: num.Of(1)}, {Y: num.Of(1)}, {X: all, Y: all}, {X: Prime(), Y: Prime()}, {X: all, Y: all, None: true}, {X: Base().Y, Y: Base().X}}
	for _, p := range wrong {
		for _, q := range append(wrong, Base(), nowhere) {
			Add(p, q)
			Add(q, p)
			Sum(all, p, Order(), q)
		}
		Neg(p)
		Mul(all, p)
		Lift(p.X, true)
		Lift(p.Y, false)
	}
}

// 0.5
func TestArgumentsStay(t *testing.T) {
	k, l, p, q := all, Order(), Base(), Mul(num.Of(9), Base())
	a, b, r, s := k, l, p, q
	On(p)
	Neg(p)
	Add(p, q)
	Mul(k, p)
	Sum(k, p, l, q)
	Lift(k, true)
	if k != a || l != b || p != r || q != s {
		t.Error("an argument has changed")
	}
	other := Base()
	other.X[0]++
	high := Prime()
	high[0]++
	if Base() == other || Prime() == high {
		t.Error("an answer that was changed is told again")
	}
}

// The chapter's example.
func TestExamples(t *testing.T) {
	if got := Add(Base(), Neg(Base())); got != nowhere {
		t.Errorf("Base and its Neg: %v", got)
	}
	if got := num.Bytes(Mul(num.Of(2), Base()).X)[:4]; got != "\xc6\x04\x7f\x94" {
		t.Errorf("2 times Base begins with %v", got)
	}
}
