package seal

import (
	"crypto/sha256"
	"encoding/hex"
	"iter"
	"math/big"
	"strings"
	"testing"

	"truce/api"
	"truce/curve"
	"truce/hash"
	"truce/key"
	"truce/num"
)

const top = 1<<64 - 1

var (
	all     = api.U{top, top, top, top}
	zeros   = strings.Repeat("\x00", 32)
	nowhere = api.Point{None: true}
	// order is 2^256 - 432420386565659656852420866394968145599, written out apart from curve's, and lowHalf is its half, downwards.
	order   = ofHex("fffffffffffffffffffffffffffffffebaaedce6af48a03bbfd25e8cd0364141")
	lowHalf = ofHex("7fffffffffffffffffffffffffffffff5d576e7357a4501ddfe92f46681b20a0")
	prime   = ofHex("fffffffffffffffffffffffffffffffffffffffffffffffffffffffefffffc2f")
)

// mix is a fixed row of numbers that look mixed: the tests must go alike each time.
func mix(seed *uint64) uint64 {
	*seed += 0x9e3779b97f4a7c15
	z := *seed
	z = (z ^ z>>30) * 0xbf58476d1ce4e5b9
	z = (z ^ z>>27) * 0x94d049bb133111eb
	return z ^ z>>31
}

func mixed(seed *uint64) api.U {
	return api.U{mix(seed), mix(seed), mix(seed), mix(seed)}
}

func rawHex(s string) string {
	b, err := hex.DecodeString(s)
	if err != nil {
		panic(err)
	}
	return string(b)
}

func ofHex(s string) api.U {
	out, err := num.Read(rawHex(s))
	if err != api.OK {
		panic("a test's number is none of 256 bits: " + s)
	}
	return out
}

func bigOf(u api.U) *big.Int { return new(big.Int).SetBytes([]byte(num.Bytes(u))) }

func ofBig(b *big.Int) api.U {
	out, err := num.Read(string(b.Bytes()))
	if err != api.OK || b.Sign() < 0 {
		panic("a test's number is none of 256 bits")
	}
	return out
}

// up is a number and n more (less, if n is below 0), round 2^256.
func up(a api.U, n int64) api.U {
	if n < 0 {
		out, _ := num.Sub(a, num.Of(uint64(-n)))
		return out
	}
	out, _ := num.Add(a, num.Of(uint64(n)))
	return out
}

// rest is what is left of the library's number by the order.
func rest(b *big.Int) api.U { return ofBig(new(big.Int).Mod(b, bigOf(order))) }

// product and under are products and inverses by the order, of the library's numbers.
func product(a, b api.U) api.U { return rest(new(big.Int).Mul(bigOf(a), bigOf(b))) }

func under(a api.U) api.U { return rest(new(big.Int).ModInverse(bigOf(a), bigOf(order))) }

// minus is the negative by the order.
func minus(a api.U) api.U { return rest(new(big.Int).Neg(bigOf(a))) }

func oddOf(a api.U) bool { return bigOf(a).Bit(0) == 1 }

// keys has both ends, the edges between parts, the order's half, and mixed ones.
func keys() []api.U {
	out := []api.U{{1}, {2}, {3}, {top}, {0, 1}, {0, 0, 0, 1}, lowHalf, up(lowHalf, 1), up(order, -2), up(order, -1)}
	seed := uint64(81)
	for range 6 {
		k := mixed(&seed)
		k[3] >>= 1
		out = append(out, k)
	}
	return out
}

// strangers has numbers that are no keys.
func strangers() []api.U {
	return []api.U{{}, order, up(order, 1), up(prime, -1), prime, up(all, -1), all}
}

// digests has numbers 0, small ones, those at the order and above it, and mixed ones.
func digests() []string {
	out := []string{zeros}
	for _, e := range []api.U{{1}, {2}, {0, 0, 0, 1 << 63}, lowHalf, up(order, -1), order, up(order, 1), prime, all} {
		out = append(out, num.Bytes(e))
	}
	seed := uint64(82)
	for range 4 {
		out = append(out, num.Bytes(mixed(&seed)))
	}
	return append(out, hash.Sum(""), hash.Sum("abc"))
}

// notDigests has texts that have not 32 bytes.
func notDigests() []string {
	out := []string{"", "\x00", zeros[:31], zeros + "\x00", zeros + zeros, strings.Repeat("\xff", 31), strings.Repeat("\xff", 33), strings.Repeat("é", 32), strings.Repeat("x", 1000)}
	return append(out, hash.Sum("abc")[1:], hash.Sum("abc")+"a", "0x"+strings.Repeat("0", 62), strings.Repeat("0", 64))
}

// turned is a text with one bit turned.
func turned(s string, bit int) string {
	b := []byte(s)
	b[bit/8] ^= 1 << (bit % 8)
	return string(b)
}

// isFit is the chapter's word, by the library's numbers.
func isFit(s api.Seal) bool {
	r, t, n := bigOf(s.R), bigOf(s.S), bigOf(order)
	return r.Sign() > 0 && r.Cmp(n) < 0 && t.Sign() > 0 && t.Cmp(new(big.Int).Rsh(n, 1)) <= 0
}

// unfit has seals that are not fit by just one of their numbers.
func unfit() []api.Seal {
	out := []api.Seal{}
	good, _ := Make(zeros, num.Of(1))
	// There is a point of the high one, though R may not be so.
	for _, r := range []api.U{{}, order, up(order, 1), highPoint().X, up(prime, -1), prime, up(all, -1), all} {
		out = append(out, api.Seal{R: r, S: good.S, Odd: good.Odd}, api.Seal{R: r, S: good.S, Odd: !good.Odd})
	}
	for _, s := range []api.U{{}, up(lowHalf, 1), up(lowHalf, 2), up(order, -1), order, up(order, 1), prime, all, minus(good.S)} {
		out = append(out, api.Seal{R: good.R, S: s, Odd: good.Odd}, api.Seal{R: good.R, S: s, Odd: !good.Odd})
	}
	sum, over := num.Add(good.S, order)
	if !over {
		out = append(out, api.Seal{R: good.R, S: sum, Odd: good.Odd})
	}
	return append(out, api.Seal{}, api.Seal{Odd: true}, api.Seal{R: all, S: all, Odd: true})
}

// chapterNumber is the number of a try, by the library's numbers.
func chapterNumber(digest string, d api.U, i int) api.U {
	raw := append(append(bigOf(d).FillBytes(make([]byte, 32)), digest...), byte(i))
	return rest(new(big.Int).SetBytes([]byte(hash.Sum(string(raw)))))
}

// chapterSeal is a seal by the chapter's words, worked out by the library's numbers.
func chapterSeal(digest string, d api.U) (api.Seal, bool) {
	n := bigOf(order)
	for i := range 256 {
		k := chapterNumber(digest, d, i)
		p := curve.Mul(k, curve.Base())
		s := new(big.Int).Mul(bigOf(p.X), bigOf(d))
		s.Add(s, new(big.Int).SetBytes([]byte(digest)))
		if k == (api.U{}) || bigOf(p.X).Sign() == 0 || bigOf(p.X).Cmp(n) >= 0 || rest(s) == (api.U{}) {
			continue
		}
		s.Mod(s.Mul(s, bigOf(under(k))), n)
		odd := oddOf(p.Y)
		if s.Cmp(new(big.Int).Rsh(n, 1)) > 0 {
			s.Sub(n, s)
			odd = !odd
		}
		return api.Seal{R: p.X, S: ofBig(s), Odd: odd}, true
	}
	return api.Seal{}, false
}

// chapterPoint is the point by whose key a digest was sealed, one step after another.
func chapterPoint(digest string, s api.Seal) (api.Point, bool) {
	lifted, ok := curve.Lift(s.R, s.Odd)
	if !isFit(s) || !ok {
		return api.Point{}, false
	}
	e := rest(new(big.Int).SetBytes([]byte(digest)))
	p := curve.Add(curve.Mul(s.S, lifted), curve.Neg(curve.Mul(e, curve.Base())))
	p = curve.Mul(under(s.R), p)
	return p, !p.None
}

// chapterHolds is Verify by the chapter's words, one step after another.
func chapterHolds(digest string, s api.Seal, p api.Point) bool {
	if len(digest) != 32 || !isFit(s) || p.None {
		return false
	}
	e := rest(new(big.Int).SetBytes([]byte(digest)))
	sum := curve.Add(curve.Mul(e, curve.Base()), curve.Mul(s.R, p))
	sum = curve.Mul(under(s.S), sum)
	return !sum.None && rest(bigOf(sum.X)) == s.R
}

// P8.1
func TestMakeByTheLibrary(t *testing.T) {
	turns := map[bool]int{}
	for _, d := range keys() {
		for _, digest := range digests() {
			want, ok := chapterSeal(digest, d)
			got, err := Make(digest, d)
			if !ok || err != api.OK || got != want {
				t.Errorf("Make(%x, %v) is %v, %v; not %v", digest, d, got, err, want)
			}
			p := curve.Mul(chapterNumber(digest, d, 0), curve.Base())
			turns[oddOf(p.Y) != got.Odd]++
		}
	}
	if turns[true] == 0 || turns[false] == 0 {
		t.Errorf("of S above and below half not both were tried: %v", turns)
	}
}

// P8.1: seals written out, which were told by a program of other means.
func TestMadeSeals(t *testing.T) {
	for _, one := range made {
		got, err := Make(rawHex(one.digest), ofHex(one.key))
		want := api.Seal{R: ofHex(one.r), S: ofHex(one.s), Odd: one.odd}
		if err != api.OK || got != want {
			t.Errorf("Make(%s, %s) is %x, %v; not %x", one.digest, one.key, Write(got), err, Write(want))
		}
	}
}

// P8.1
func TestMakeOfNoKey(t *testing.T) {
	for _, k := range strangers() {
		for _, digest := range []string{zeros, num.Bytes(all), hash.Sum("abc")} {
			if s, err := Make(digest, k); err != api.ErrKey || s != (api.Seal{}) {
				t.Errorf("Make(%x, %v) is %v, %v", digest, k, s, err)
			}
		}
	}
}

// P8.1, P8.2, P8.3: the digest's form is asked ahead of all.
func TestNoDigest(t *testing.T) {
	good, _ := Make(zeros, num.Of(1))
	p, _ := key.Public(num.Of(1))
	for _, digest := range notDigests() {
		for _, k := range append(strangers(), num.Of(1), up(order, -1)) {
			if s, err := Make(digest, k); err != api.ErrForm || s != (api.Seal{}) {
				t.Errorf("Make(%x, %v) is %v, %v", digest, k, s, err)
			}
		}
		for _, s := range append(unfit(), good) {
			if q, err := Recover(digest, s); err != api.ErrForm || q != (api.Point{}) {
				t.Errorf("Recover(%x, %v) is %v, %v", digest, s, q, err)
			}
			if a, err := Who(digest, s); err != api.ErrForm || a != "" {
				t.Errorf("Who(%x, %v) is %x, %v", digest, s, a, err)
			}
			if Verify(digest, s, p) {
				t.Errorf("Verify(%x, %v) holds", digest, s)
			}
		}
	}
}

// P8.1: the row has 256 tries, the byte i going from 0 to 255.
func TestTries(t *testing.T) {
	digest, d := hash.Sum("abc"), api.U{5, 6, 7, 8}
	i := 0
	for k, p := range tries(digest, d) {
		if want := chapterNumber(digest, d, i); k != want || p != curve.Mul(want, curve.Base()) {
			t.Errorf("try %d is %v, %v", i, k, p)
		}
		i++
	}
	if i != 256 {
		t.Errorf("%d tries", i)
	}
	// The row can be left, and begun once more.
	for k := range tries(digest, d) {
		if k != chapterNumber(digest, d, 0) {
			t.Errorf("the row begins with %v", k)
		}
		break
	}
}

// one is a try.
type one struct {
	k api.U
	p api.Point
}

// tryOf is the try of a number.
func tryOf(k api.U) one { return one{k, curve.Mul(k, curve.Base())} }

// rowOf hands out tries, and counts them.
func rowOf(count *int, row ...one) iter.Seq2[api.U, api.Point] {
	return func(yield func(api.U, api.Point) bool) {
		for _, try := range row {
			*count++
			if !yield(try.k, try.p) {
				return
			}
		}
	}
}

// highPoint is a point whose X is above the order.
func highPoint() api.Point {
	for x := up(order, 1); ; x = up(x, 1) {
		if p, ok := curve.Lift(x, true); ok {
			return p
		}
	}
}

// P8.1: tries that make no seal are gone over, and the first that makes one is the last.
func TestTriesThatMakeNone(t *testing.T) {
	d, k := api.U{3, 1, 4, 1}, api.U{2, 7, 1, 8}
	// e is such that the try of k has s 0.
	e := minus(product(tryOf(k).p.X, d))
	other := tryOf(api.U{9, 9, 9, 9})
	bad := map[string]one{
		"k 0":         tryOf(api.U{}),
		"s 0":         tryOf(k),
		"r at n":      {api.U{1, 2, 3}, api.Point{X: order, Y: api.U{1}}},
		"r above n":   {api.U{1, 2, 3}, highPoint()},
		"r 0":         {api.U{1, 2, 3}, api.Point{Y: api.U{1}}},
		"k 0 alone":   {api.U{}, other.p},
		"None though": {api.U{1, 2, 3}, nowhere},
	}
	var count int
	want, err := first(e, d, rowOf(&count, other))
	if err != api.OK || want.R != other.p.X {
		t.Fatalf("a good try makes %v, %v", want, err)
	}
	for name, b := range bad {
		count = 0
		if got, err := first(e, d, rowOf(&count, b, b, other, tryOf(api.U{8}))); err != api.OK || got != want || count != 3 {
			t.Errorf("%s: %v, %v behind %d tries", name, got, err, count)
		}
		count = 0
		if got, err := first(e, d, rowOf(&count, b, b, b)); err != api.ErrSeal || got != (api.Seal{}) || count != 3 {
			t.Errorf("%s alone: %v, %v behind %d tries", name, got, err, count)
		}
	}
	if got, err := first(e, d, rowOf(&count)); err != api.ErrSeal || got != (api.Seal{}) {
		t.Errorf("no try: %v, %v", got, err)
	}
}

// P8.1: at half of the order S stays, above it is turned, and Odd with it.
func TestTurnedAtHalf(t *testing.T) {
	d := api.U{3, 1, 4, 1}
	for _, k := range []api.U{{2}, {3}, {4}, {7, 7, 7}} {
		for _, s := range []api.U{{1}, {2}, up(lowHalf, -1), lowHalf, up(lowHalf, 1), up(lowHalf, 2), up(order, -2), up(order, -1)} {
			try := tryOf(k)
			// e is such that this try has that s.
			e := new(big.Int).Mul(bigOf(s), bigOf(k))
			e.Sub(e, new(big.Int).Mul(bigOf(try.p.X), bigOf(d)))
			want := api.Seal{R: try.p.X, S: s, Odd: oddOf(try.p.Y)}
			if num.Cmp(s, lowHalf) > 0 {
				want = api.Seal{R: try.p.X, S: minus(s), Odd: !oddOf(try.p.Y)}
			}
			var count int
			if got, err := first(rest(e), d, rowOf(&count, try)); err != api.OK || got != want {
				t.Errorf("k %v, s %v: %v, %v", k, s, got, err)
			}
		}
	}
}

// P8.2
func TestRecoverByTheLibrary(t *testing.T) {
	seed := uint64(83)
	for _, digest := range digests() {
		for range 4 {
			s := api.Seal{R: mixed(&seed), S: mixed(&seed), Odd: mix(&seed)%2 == 1}
			s.S[3] >>= 2
			want, ok := chapterPoint(digest, s)
			got, err := Recover(digest, s)
			if ok != (err == api.OK) || got != want {
				t.Errorf("Recover(%x, %v) is %v, %v; not %v", digest, s, got, err, want)
			}
			a, errA := Who(digest, s)
			if errA != err || ok && a != key.Address(want) || ok && len(a) != 20 {
				t.Errorf("Who(%x, %v) is %x, %v", digest, s, a, errA)
			}
		}
	}
}

// P8.2: R and S at the edges that are still fit.
func TestRecoverOfFitEdges(t *testing.T) {
	digest := hash.Sum("edge")
	rs := []api.U{{1}, {2}, {3}, {4}, {5}, {6}, up(order, -1), up(order, -2), up(order, -3), up(order, -4), up(order, -5), up(order, -6)}
	found := 0
	for _, r := range rs {
		for _, s := range []api.U{{1}, {2}, up(lowHalf, -1), lowHalf} {
			for _, odd := range []bool{false, true} {
				one := api.Seal{R: r, S: s, Odd: odd}
				want, ok := chapterPoint(digest, one)
				got, err := Recover(digest, one)
				if ok != (err == api.OK) || got != want {
					t.Errorf("Recover(%v) is %v, %v; not %v, %v", one, got, err, want, ok)
				}
				if ok {
					found++
				}
			}
		}
	}
	if found < 16 {
		t.Errorf("only %d of these seals have a point", found)
	}
}

// P8.2
func TestRecoverOfUnfit(t *testing.T) {
	for _, s := range unfit() {
		for _, digest := range []string{zeros, hash.Sum("abc")} {
			if p, err := Recover(digest, s); err != api.ErrSeal || p != (api.Point{}) {
				t.Errorf("Recover(%x, %v) is %v, %v", digest, s, p, err)
			}
			if a, err := Who(digest, s); err != api.ErrSeal || a != "" {
				t.Errorf("Who(%x, %v) is %x, %v", digest, s, a, err)
			}
		}
	}
}

// P8.2
func TestRecoverOfNoPoint(t *testing.T) {
	found := 0
	for n := uint64(1); found < 5; n++ {
		r := num.Of(n)
		if _, ok := curve.Lift(r, false); ok {
			continue
		}
		found++
		for _, odd := range []bool{false, true} {
			s := api.Seal{R: r, S: num.Of(1), Odd: odd}
			if p, err := Recover(zeros, s); err != api.ErrSeal || p != (api.Point{}) {
				t.Errorf("Recover of R %d is %v, %v", n, p, err)
			}
			if a, err := Who(zeros, s); err != api.ErrSeal || a != "" {
				t.Errorf("Who of R %d is %x, %v", n, a, err)
			}
		}
	}
}

// P8.2: where the base times e is what the seal's point times S is, none is left.
func TestRecoverOfNone(t *testing.T) {
	for _, k := range []api.U{{1}, {2}, {9, 8, 7, 6}} {
		for _, s := range []api.U{{1}, {5}, {6, 6, 6, 6}, lowHalf} {
			p := curve.Mul(k, curve.Base())
			one := api.Seal{R: p.X, S: s, Odd: oddOf(p.Y)}
			digest := num.Bytes(product(k, s))
			if q, err := Recover(digest, one); err != api.ErrSeal || q != (api.Point{}) {
				t.Errorf("k %v, s %v: %v, %v", k, s, q, err)
			}
			if a, err := Who(digest, one); err != api.ErrSeal || a != "" {
				t.Errorf("k %v, s %v: %x, %v", k, s, a, err)
			}
			one.Odd = !one.Odd
			if q, err := Recover(digest, one); err != api.OK || q.None {
				t.Errorf("k %v, s %v, on the other side: %v, %v", k, s, q, err)
			}
		}
	}
}

// P8.2, P8.3: seals that other programs made.
func TestSealsOfOtherPrograms(t *testing.T) {
	satoshi := sha256.Sum256([]byte("Satoshi Nakamoto"))
	tears := sha256.Sum256([]byte("All those moments will be lost in time, like tears in rain. Time to die..."))
	one := rawHex("7e5f4552091a69125d5dfcb7b8c2659029395bdf")
	for _, c := range []struct {
		digest, r, s, who string
	}{
		{string(satoshi[:]), "934b1ea10a4b3c1757e2b0c017d0b6143ce3c9a7e6a4a49860d7a6ab210ee3d8", "2442ce9d2b916064108014783e923ec36b49743e2ffa1c4496f01a512aafd9e5", one},
		{string(tears[:]), "8600dbd41e348fe5c9465ab92d23e3db8b98b873beecd930736488696438cb6b", "547fe64427496db33bf66019dacbf0039c04199abb0122918601db38a72cfc21", one},
		{rawHex("456e9aea5e197a1f1af7a3e85a3212fa4049a3ba34c2289b4c860fc0b0c64ef3"), "9242685bf161793cc25603c231bc2f568eb630ea16aa137d2664ac8038825608", "4f8ae3bd7535248d0bd448298cc2e2071e56992d0774dc340c368ae950852ada", rawHex("7156526fbd7a3c72969b54f64e42c10fbb768c8a")},
	} {
		found := 0
		for _, odd := range []bool{false, true} {
			s := api.Seal{R: ofHex(c.r), S: ofHex(c.s), Odd: odd}
			a, err := Who(c.digest, s)
			p, errP := Recover(c.digest, s)
			if err != api.OK || errP != api.OK || !Verify(c.digest, s, p) {
				t.Errorf("%s: %v, %v", c.r, err, errP)
			}
			if a == c.who {
				found++
			}
		}
		if found != 1 {
			t.Errorf("%s: %d of both sides tell %x", c.r, found, c.who)
		}
	}
}

// P8.3
func TestVerifyByTheLibrary(t *testing.T) {
	points := []api.Point{nowhere, curve.Base(), curve.Neg(curve.Base()), highPoint()}
	for _, d := range keys()[:4] {
		for _, digest := range digests() {
			s, _ := Make(digest, d)
			p, _ := key.Public(d)
			for _, q := range append(points, p, curve.Neg(p)) {
				for _, odd := range []bool{false, true} {
					// Verify does not ask for Odd.
					one := api.Seal{R: s.R, S: s.S, Odd: odd}
					if got, want := Verify(digest, one, q), chapterHolds(digest, one, q); got != want {
						t.Errorf("Verify(%x, %v, %v) is %v", digest, one, q, got)
					}
				}
			}
		}
	}
}

// P8.3: what is not as it was sealed does not hold.
func TestVerifyOfOthers(t *testing.T) {
	d, digest := api.U{4, 3, 2, 1}, hash.Sum("a digest")
	s, _ := Make(digest, d)
	p, _ := key.Public(d)
	if !Verify(digest, s, p) {
		t.Fatal("the seal does not hold")
	}
	for bit := range 256 {
		flip := num.Shl(num.Of(1), uint64(bit))
		if bit%8 == 0 && Verify(turned(digest, bit), s, p) {
			t.Errorf("it holds with bit %d of the digest turned", bit)
		}
		if Verify(digest, api.Seal{R: num.Xor(s.R, flip), S: s.S, Odd: s.Odd}, p) {
			t.Errorf("it holds with bit %d of R turned", bit)
		}
		if Verify(digest, api.Seal{R: s.R, S: num.Xor(s.S, flip), Odd: s.Odd}, p) {
			t.Errorf("it holds with bit %d of S turned", bit)
		}
	}
	for _, q := range []api.Point{nowhere, curve.Neg(p), curve.Base(), curve.Add(p, curve.Base())} {
		if Verify(digest, s, q) {
			t.Errorf("it holds of %v", q)
		}
	}
}

// P8.3: the order less S would hold, were it not above half; nor does any other unfit seal.
func TestVerifyOfUnfit(t *testing.T) {
	for _, d := range keys() {
		digest := hash.Sum("abc")
		s, _ := Make(digest, d)
		p, _ := key.Public(d)
		for _, odd := range []bool{false, true} {
			if Verify(digest, api.Seal{R: s.R, S: minus(s.S), Odd: odd}, p) {
				t.Errorf("the other S holds of %v", d)
			}
		}
		for _, one := range unfit() {
			if Verify(digest, one, p) || Verify(zeros, one, curve.Base()) {
				t.Errorf("%v holds", one)
			}
		}
	}
}

// P8.3: an X that is not below the order is R by it.
func TestVerifyOfHighX(t *testing.T) {
	q := highPoint()
	r := rest(bigOf(q.X))
	if r == q.X || r == (api.U{}) {
		t.Fatalf("R is %v", r)
	}
	digest, s := hash.Sum("high"), api.U{1, 2, 3, 4}
	e := rest(new(big.Int).SetBytes([]byte(digest)))
	// p is such that the summed point is q.
	p := curve.Mul(under(r), curve.Sum(s, q, minus(e), curve.Base()))
	if !Verify(digest, api.Seal{R: r, S: s}, p) {
		t.Error("it does not hold")
	}
	if Verify(digest, api.Seal{R: q.X, S: s}, p) {
		t.Error("an R that is not below the order holds")
	}
	if Verify(digest, api.Seal{R: up(r, 1), S: s}, p) {
		t.Error("another R holds")
	}
}

// P8.3: with None the base alone would make R, but None has no key.
func TestVerifyOfNone(t *testing.T) {
	for _, k := range []api.U{{1}, {2}, {9, 8, 7, 6}} {
		for _, s := range []api.U{{1}, {5}, {6, 6, 6, 6}, lowHalf} {
			digest := num.Bytes(product(k, s))
			r := curve.Mul(k, curve.Base()).X
			for _, odd := range []bool{false, true} {
				if Verify(digest, api.Seal{R: r, S: s, Odd: odd}, nowhere) {
					t.Errorf("k %v, s %v holds of None", k, s)
				}
			}
		}
	}
}

// P8.3: a sum that is None does not hold, whatever R is.
func TestVerifyOfNoneSum(t *testing.T) {
	for _, d := range keys() {
		for _, r := range []api.U{{1}, {2}, curve.Base().X, up(order, -1)} {
			p := curve.Mul(d, curve.Base())
			digest := num.Bytes(minus(product(r, d)))
			if Verify(digest, api.Seal{R: r, S: num.Of(1)}, p) {
				t.Errorf("R %v holds of %v", r, d)
			}
		}
	}
}

// P8.4
func TestWrite(t *testing.T) {
	for _, s := range strange() {
		want := append(bigOf(s.R).FillBytes(make([]byte, 32)), bigOf(s.S).FillBytes(make([]byte, 32))...)
		if s.Odd {
			want = append(want, 1)
		} else {
			want = append(want, 0)
		}
		if got := Write(s); got != string(want) {
			t.Errorf("Write(%v) is %x", s, got)
		}
	}
}

// strange has seals of all kinds, fit or not: they are written and read alike.
func strange() []api.Seal {
	out := unfit()
	seed := uint64(84)
	for range 20 {
		out = append(out, api.Seal{R: mixed(&seed), S: mixed(&seed), Odd: mix(&seed)%2 == 1})
	}
	return append(out, api.Seal{R: num.Of(1)}, api.Seal{S: num.Of(1)}, api.Seal{R: all}, api.Seal{S: all})
}

// P8.4
func TestReadOfOtherLengths(t *testing.T) {
	whole := Write(api.Seal{R: num.Of(7), S: num.Of(9), Odd: true})
	texts := []string{"", "\x00", "\x01", whole + "\x00", whole + "\x01", whole + whole, strings.Repeat("\x01", 1000)}
	for n := range 65 {
		texts = append(texts, whole[:n], strings.Repeat("\x00", n), strings.Repeat("\x01", n))
	}
	for _, b := range texts {
		if s, err := Read(b); err != api.ErrForm || s != (api.Seal{}) {
			t.Errorf("Read of %d bytes is %v, %v", len(b), s, err)
		}
	}
}

// P8.4
func TestReadOfLastBytes(t *testing.T) {
	front := strings.Repeat("\x00", 31) + "\x07" + strings.Repeat("\x00", 31) + "\x09"
	for last := range 256 {
		s, err := Read(front + string([]byte{byte(last)}))
		if last > 1 {
			if err != api.ErrForm || s != (api.Seal{}) {
				t.Errorf("Read of a last byte %d is %v, %v", last, s, err)
			}
		} else if want := (api.Seal{R: num.Of(7), S: num.Of(9), Odd: last == 1}); err != api.OK || s != want {
			t.Errorf("Read of a last byte %d is %v, %v", last, s, err)
		}
	}
}

// P8.5
func TestSealed(t *testing.T) {
	for _, d := range keys() {
		want, _ := key.Public(d)
		who, _ := key.Who(d)
		for _, digest := range digests() {
			s, err := Make(digest, d)
			if err != api.OK || !isFit(s) {
				t.Errorf("Make(%x, %v) is %v, %v", digest, d, s, err)
			}
			if p, err := Recover(digest, s); err != api.OK || p != want {
				t.Errorf("Recover of the seal of %x by %v is %v, %v", digest, d, p, err)
			}
			if a, err := Who(digest, s); err != api.OK || a != who {
				t.Errorf("Who of the seal of %x by %v is %x, %v", digest, d, a, err)
			}
			if !Verify(digest, s, want) {
				t.Errorf("Verify of the seal of %x by %v does not hold", digest, d)
			}
		}
	}
}

// P8.5
func TestSealedNotForAnother(t *testing.T) {
	for _, d := range keys() {
		digest := hash.Sum("this one")
		s, _ := Make(digest, d)
		p, _ := key.Public(d)
		for bit := 0; bit < 256; bit += 15 {
			q, err := Recover(turned(digest, bit), s)
			if err == api.OK && q == p || err != api.OK && q != (api.Point{}) {
				t.Errorf("with bit %d turned: %v, %v", bit, q, err)
			}
		}
	}
}

// P8.6
func TestRecoveredHolds(t *testing.T) {
	seed := uint64(85)
	found := 0
	for _, digest := range digests() {
		for range 6 {
			s := api.Seal{R: mixed(&seed), S: mixed(&seed), Odd: mix(&seed)%2 == 1}
			s.S[3] >>= 1
			p, err := Recover(digest, s)
			if err != api.OK {
				continue
			}
			found++
			if !Verify(digest, s, p) || !curve.On(p) || p.None {
				t.Errorf("Recover(%x, %v) is %v, and that does not hold", digest, s, p)
			}
		}
	}
	if found < 20 {
		t.Errorf("only %d points were told", found)
	}
}

// P8.6
func TestReadOfWrite(t *testing.T) {
	for _, s := range strange() {
		b := Write(s)
		if got, err := Read(b); err != api.OK || got != s || len(b) != 65 {
			t.Errorf("Read of Write(%v) is %v, %v", s, got, err)
		}
	}
}

// 0.1: points beside the curve, and ones that say None and have coordinates, end too.
func TestStrangePointsEnd(t *testing.T) {
	s, _ := Make(zeros, num.Of(1))
	for _, p := range []api.Point{{}, {X: all, Y: all}, {X: prime, Y: prime}, {X: all, Y: all, None: true}, {X: num.Of(1), Y: num.Of(1)}, {X: curve.Base().X}} {
		Verify(zeros, s, p)
		Verify(num.Bytes(all), s, p)
		Verify("", s, p)
	}
}

// The same call has the same answer, whatever was asked between, and what was handed in stays.
func TestNothingIsKept(t *testing.T) {
	digest, d := hash.Sum("kept"), api.U{9, 8, 7, 6}
	a, err := Make(digest, d)
	raw := Write(a)
	for _, s := range strange() {
		Write(s)
		Recover(digest, s)
		Make(digest, s.R)
	}
	b, errB := Make(digest, d)
	if a != b || err != api.OK || errB != api.OK || Write(b) != raw {
		t.Errorf("Make is %v, %v and %v, %v", a, err, b, errB)
	}
	if digest != hash.Sum("kept") || d != (api.U{9, 8, 7, 6}) {
		t.Error("an argument has changed")
	}
}

// The chapter's example.
func TestExample(t *testing.T) {
	s, err := Make(zeros, num.Of(1))
	want, _ := key.Who(num.Of(1))
	if got, errWho := Who(zeros, s); err != api.OK || errWho != api.OK || got != want {
		t.Errorf("Who is %x, %v, %v", got, err, errWho)
	}
	for bit := range 256 {
		other := api.Seal{R: s.R, S: num.Xor(s.S, num.Shl(num.Of(1), uint64(bit))), Odd: s.Odd}
		if got, err := Who(zeros, other); err == api.OK && got == want {
			t.Errorf("with bit %d of S turned it is the same", bit)
		}
	}
}
