package hash

import (
	"bytes"
	"crypto/sha3"
	"encoding/binary"
	"encoding/hex"
	"fmt"
	"math/bits"
	"strings"
	"testing"
)

const top = 1<<64 - 1

// lengths are those at a sum's, a block's and two blocks' edges, and some of many blocks.
var lengths = []int{0, 1, 2, 7, 8, 9, 31, 32, 33, 134, 135, 136, 137, 271, 272, 273, 407, 408, 409, 3000, 136 * 30, 5001}

// step is a fixed row of numbers that look mixed: the tests must go alike each time.
func step(seed *uint64) uint64 {
	*seed += 0x9e3779b97f4a7c15
	z := *seed
	z = (z ^ z>>30) * 0xbf58476d1ce4e5b9
	z = (z ^ z>>27) * 0x94d049bb133111eb
	return z ^ z>>31
}

func mixedParts(seed *uint64) [25]uint64 {
	var out [25]uint64
	for at := range out {
		out[at] = step(seed)
	}
	return out
}

func mixedText(seed *uint64, n int) string {
	out := make([]byte, n)
	for at := range out {
		out[at] = byte(step(seed))
	}
	return string(out)
}

func ones() [25]uint64 {
	var out [25]uint64
	for at := range out {
		out[at] = top
	}
	return out
}

// samples has all noughts, all ones, what differs from them in one bit in each place, one full part alone, and mixed parts.
func samples() [][25]uint64 {
	out := [][25]uint64{{}, ones()}
	for at := range 25 {
		for _, bit := range []int{0, 1, 31, 32, 62, 63} {
			none, all := [25]uint64{}, ones()
			none[at] ^= 1 << bit
			all[at] ^= 1 << bit
			out = append(out, none, all)
		}
		var one [25]uint64
		one[at] = top
		out = append(out, one)
	}
	seed := uint64(51)
	for range 60 {
		out = append(out, mixedParts(&seed))
	}
	return out
}

// texts has each of the lengths in bytes 0, bytes 255, bytes 1, bytes 128 and mixed bytes.
func texts() []string {
	var out []string
	seed := uint64(52)
	for _, n := range lengths {
		for _, b := range []string{"\x00", "\xff", "\x01", "\x80"} {
			out = append(out, strings.Repeat(b, n))
		}
		out = append(out, mixedText(&seed, n))
	}
	return out
}

// permuted is the library's permutation: its saved sums have all 25 parts behind 5 bytes, and a block of noughts brings it about.
func permuted(t *testing.T, s [25]uint64) [25]uint64 {
	t.Helper()
	digest := sha3.New256()
	saved, err := digest.MarshalBinary()
	if err != nil || len(saved) != 207 {
		t.Fatal("the library's saved sums are not as the test has them", len(saved), err)
	}
	for at, part := range s {
		binary.LittleEndian.PutUint64(saved[5+8*at:], part)
	}
	if err := digest.UnmarshalBinary(saved); err != nil {
		t.Fatal(err)
	}
	digest.Write(make([]byte, 136))
	saved, _ = digest.MarshalBinary()
	var out [25]uint64
	for at := range out {
		out[at] = binary.LittleEndian.Uint64(saved[5+8*at:])
	}
	return out
}

// summed is Keccak-256 by the library's permutation, of a text that is filled up as a whole.
func summed(t *testing.T, s string) string {
	t.Helper()
	full := []byte(s + "\x01" + strings.Repeat("\x00", 135-len(s)%136))
	full[len(full)-1] |= 0x80
	if len(full)%136 != 0 {
		t.Fatal("the test fills up wrongly", len(s))
	}
	var parts [25]uint64
	for ; len(full) > 0; full = full[136:] {
		for at := range 17 {
			parts[at] ^= binary.LittleEndian.Uint64(full[8*at:])
		}
		parts = permuted(t, parts)
	}
	var out []byte
	for _, part := range parts[:4] {
		out = binary.LittleEndian.AppendUint64(out, part)
	}
	return string(out)
}

// turnsByRule and marksByRule are the chapter's r and k as it tells them.
func turnsByRule() [25]int {
	var r [25]int
	x, y := 1, 0
	for t := range 24 {
		r[x+5*y] = (t + 1) * (t + 2) / 2 % 64
		x, y = y, (2*x+3*y)%5
	}
	return r
}

func marksByRule() [24]uint64 {
	var k [24]uint64
	l := 1
	for i := range k {
		for j := range 7 {
			k[i] |= uint64(l&1) << (1<<j - 1)
			if l *= 2; l > 255 {
				l ^= 369
			}
		}
	}
	return k
}

// round is one as the chapter tells it, a[x, y] written a[y][x].
func round(s [25]uint64, i int) [25]uint64 {
	r, k := turnsByRule(), marksByRule()
	var a, b [5][5]uint64
	for at, part := range s {
		a[at/5][at%5] = part
	}
	var c [5]uint64
	for x := range c {
		c[x] = a[0][x] ^ a[1][x] ^ a[2][x] ^ a[3][x] ^ a[4][x]
	}
	for x := range 5 {
		for y := range 5 {
			next := c[(x+1)%5]
			part := a[y][x] ^ c[(x+4)%5] ^ (next<<1 | next>>63)
			n := r[x+5*y]
			b[(2*x+3*y)%5][y] = part<<n | part>>(64-n)
		}
	}
	for at := range s {
		x, y := at%5, at/5
		s[at] = b[y][x] ^ (b[y][(x+2)%5] & (top ^ b[y][(x+1)%5]))
	}
	s[0] ^= k[i]
	return s
}

// undone takes 24 rounds back: 3 more siftings and 191 more spreadings are as none was done.
func undone(s [25]uint64) [25]uint64 {
	r, k := turnsByRule(), marksByRule()
	for i := 23; i >= 0; i-- {
		s[0] ^= k[i]
		for range 3 {
			s = sifted(s)
		}
		var a [25]uint64
		for at := range a {
			x, y := at%5, at/5
			a[at] = bits.RotateLeft64(s[y+5*((2*x+3*y)%5)], -r[at])
		}
		for range 191 {
			a = spread(a)
		}
		s = a
	}
	return s
}

func hexOf(s string) string { return hex.EncodeToString([]byte(s)) }

// P5.1: r, k and where parts go, which are laid in tables, are those of the chapter.
func TestTablesFollowTheRule(t *testing.T) {
	for at, to := range places {
		if x, y := at%5, at/5; to != y+5*((2*x+3*y)%5) {
			t.Errorf("part %d, %d goes to place %d", x, y, to)
		}
	}
	if turns != turnsByRule() {
		t.Errorf("turns are %v, want %v", turns, turnsByRule())
	}
	if marks != marksByRule() {
		t.Errorf("marks are %x, want %x", marks, marksByRule())
	}
}

// P5.1
func TestPermuteOfNoughts(t *testing.T) {
	want := [25]uint64{
		0xf1258f7940e1dde7, 0x84d5ccf933c0478a, 0xd598261ea65aa9ee, 0xbd1547306f80494d, 0x8b284e056253d057,
		0xff97a42d7f8e6fd4, 0x90fee5a0a44647c4, 0x8c5bda0cd6192e76, 0xad30a6f71b19059c, 0x30935ab7d08ffc64,
		0xeb5aa93f2317d635, 0xa9a6e6260d712103, 0x81a57c16dbcf555f, 0x43b831cd0347c826, 0x01f22f1a11a5569f,
		0x05e5635a21d9ae61, 0x64befef28cc970f2, 0x613670957bc46611, 0xb87c5a554fd00ecb, 0x8c3ee88a1ccf32c8,
		0x940c7922ae3a2614, 0x1841f924a2c509e4, 0x16f53526e70465c2, 0x75f644e97f30a13b, 0xeaf1ff7b5ceca249,
	}
	if got := Permute([25]uint64{}); got != want {
		t.Errorf("Permute of noughts is %x, want %x", got, want)
	}
}

// P5.1
func TestPermuteAgainstTheLibrary(t *testing.T) {
	for _, s := range samples() {
		if got, want := Permute(s), permuted(t, s); got != want {
			t.Errorf("Permute(%x) is %x, want %x", s, got, want)
		}
	}
	seed := uint64(53)
	s := mixedParts(&seed)
	for n := range 300 {
		want := permuted(t, s)
		if s = Permute(s); s != want {
			t.Fatalf("after %d times: %x, want %x", n+1, s, want)
		}
	}
}

// P5.1
func TestPermuteIs24RoundsOfTheChapter(t *testing.T) {
	for _, s := range samples() {
		want := s
		for i := range 24 {
			want = round(want, i)
		}
		if got := Permute(s); got != want {
			t.Errorf("Permute(%x) is %x, want %x", s, got, want)
		}
	}
}

// P5.2, and the chapter's example in full.
func TestSumOfKnownTexts(t *testing.T) {
	for _, c := range []struct{ text, want string }{
		{"", "c5d2460186f7233c927e7db2dcc703c0e500b653ca82273b7bfad8045d85a470"},
		{"abc", "4e03657aea45a94fc7d47ba826c8d667c0d1e6e33a64a036ec44f58fa12d6c45"},
		{"hello", "1c8aff950685c2ed4bc3174f3472287b56d9517b9c948127319a09a7a36deac8"},
		{"testing", "5f16f4c7f149ac4f9510d9cf8cf384038ad348b3bcdc01915f95de12df9d1b02"},
		{"The quick brown fox jumps over the lazy dog", "4d741b6f1eb29cb2a9b9911c82f56fa8d73b04959d3d9d222895df6c0b28aa15"},
		{"The quick brown fox jumps over the lazy dog.", "578951e24efd62a3d63a86f7cd19aaa53c898fe287d2552133220370240b572d"},
		{strings.Repeat("\x00", 32), "290decd9548b62a8d60345a988386fc84ba6bc95484008f6362f93160ef3e563"},
	} {
		if got := hexOf(Sum(c.text)); got != c.want {
			t.Errorf("Sum(%q) is %s, want %s", c.text, got, c.want)
		}
	}
}

// P5.2: of every length round the edges of blocks, and of all other lengths up to three blocks.
func TestSumAgainstTheLibrary(t *testing.T) {
	for _, s := range texts() {
		if got, want := Sum(s), summed(t, s); got != want {
			t.Errorf("Sum of %d bytes, first %.8q: %x, want %x", len(s), s, got, want)
		}
	}
	seed := uint64(54)
	for n := range 3*136 + 2 {
		s := mixedText(&seed, n)
		if got, want := Sum(s), summed(t, s); got != want {
			t.Errorf("Sum of %d mixed bytes: %x, want %x", n, got, want)
		}
	}
}

// P5.2: the library's own sums have the same rounds, and another byte behind the text.
func TestSumIsNotFilledUpByTheLibrarysByte(t *testing.T) {
	for _, s := range []string{"", "abc", strings.Repeat("a", 135), strings.Repeat("a", 136)} {
		later := sha3.Sum256([]byte(s))
		if Sum(s) == string(later[:]) {
			t.Errorf("Sum of %d bytes is filled up by a 6 in place of a 1", len(s))
		}
	}
}

// P5.2: 0s behind a text, a filling written out in it, and texts that aren't letters are texts of their own.
func TestSumTellsTextsApart(t *testing.T) {
	seen := map[string]string{}
	for _, s := range append(texts(), "a", "a\x00", "a\x00\x00", "a\x01", "\x00a", "\xc3\x28", "\xed\xa0\x80", "ä", "a\u0308",
		"\x01"+strings.Repeat("\x00", 134)+"\x80", strings.Repeat("\x00", 135)+"\x81") {
		sum := Sum(s)
		if other, ok := seen[sum]; ok && other != s {
			t.Errorf("texts of %d and %d bytes have one sum %x", len(s), len(other), sum)
		}
		seen[sum] = s
	}
}

// P5.3
func TestPermuteCanBeUndone(t *testing.T) {
	for _, s := range samples() {
		if got := undone(Permute(s)); got != s {
			t.Errorf("Permute(%x) undone is %x", s, got)
		}
		if got := Permute(undone(s)); got != s {
			t.Errorf("%x undone and permuted is %x", s, got)
		}
	}
}

// P5.3
func TestPermuteOfUnlikeIsUnlike(t *testing.T) {
	seen := map[[25]uint64][25]uint64{}
	for _, s := range samples() {
		seen[Permute(s)] = s
	}
	if len(seen) != len(samples()) {
		t.Errorf("%d samples have %d answers", len(samples()), len(seen))
	}
	seed := uint64(55)
	for _, base := range [][25]uint64{{}, ones(), mixedParts(&seed)} {
		alone := Permute(base)
		for at := range 25 {
			for bit := range 64 {
				other := base
				other[at] ^= 1 << bit
				far := 0
				for n, part := range Permute(other) {
					far += bits.OnesCount64(part ^ alone[n])
				}
				// About half of the 1600 bits change; far fewer would say that a round leaves parts alone.
				if far < 640 || far > 960 {
					t.Errorf("part %d bit %d of %x: %d bits change", at, bit, base[at], far)
				}
			}
		}
	}
}

// P5.4
func TestSumHas32Bytes(t *testing.T) {
	for _, s := range texts() {
		if n := len(Sum(s)); n != 32 {
			t.Errorf("Sum of %d bytes has %d", len(s), n)
		}
	}
}

// P5.2: bytes are told the lowest first, over all four parts.
func TestToldByItsParts(t *testing.T) {
	a := [25]uint64{0x0807060504030201, 0x100f0e0d0c0b0a09, 0x1817161514131211, 0x201f1e1d1c1b1a19, top}
	want := ""
	for n := range byte(32) {
		want += string([]byte{n + 1})
	}
	if got := told(a); got != want {
		t.Errorf("told is %x, want %x", got, want)
	}
}

// P5.2: blocks are as many as the fillings need, may be left early, and are the same when gone through again.
func TestBlocks(t *testing.T) {
	for _, n := range lengths {
		s := strings.Repeat("\xaa", n)
		all := blocks(s)
		for range 2 {
			var got []byte
			for block := range all {
				got = append(got, block[:]...)
			}
			if want := (n/136 + 1) * 136; len(got) != want {
				t.Errorf("blocks of %d bytes have %d, want %d", n, len(got), want)
				continue
			}
			if !bytes.HasPrefix(got, []byte(s)) || got[n]&1 != 1 || got[len(got)-1]&0x80 == 0 {
				t.Errorf("blocks of %d bytes: %x", n, got)
			}
		}
		count := 0
		for range all {
			count++
			break
		}
		if count != 1 {
			t.Errorf("blocks of %d bytes, left at once: %d", n, count)
		}
	}
}

// Rule 0.5: what is given stays as it was, and what is told does not change with it.
func TestArgumentsStay(t *testing.T) {
	seed := uint64(56)
	s := mixedParts(&seed)
	kept := s
	first := Permute(s)
	if s != kept {
		t.Error("Permute changed what it was given")
	}
	told := first
	s[0], s[24] = 0, 0
	if first != told || Permute(kept) != told {
		t.Error("Permute's answer changed with its argument, or from call to call")
	}
	for _, n := range lengths {
		raw := []byte(mixedText(&seed, n))
		text := string(raw)
		sum := Sum(text)
		if text != string(raw) {
			t.Errorf("Sum changed a text of %d bytes", n)
		}
		if again := Sum(string(raw)); again != sum {
			t.Errorf("Sum of %d bytes is %x and then %x", n, sum, again)
		}
		// Two texts that lie in one: a sum reads no byte beside its own.
		if part := (text + "beside")[:n]; Sum(part) != sum {
			t.Errorf("Sum of %d bytes reads what lies behind them", n)
		}
	}
}

func ExampleSum() {
	fmt.Printf("%x\n%x\n", Sum("")[:4], Sum("abc")[:4])
	// Output:
	// c5d24601
	// 4e03657a
}

func BenchmarkPermute(b *testing.B) {
	var s [25]uint64
	for b.Loop() {
		s = Permute(s)
	}
}
