package mem

import (
	"math"
	"strings"
	"testing"

	"truce/api"
	"truce/num"
)

// most is the greatest number.
var most = num.Not(api.U{})

func zeros(n int) string { return strings.Repeat("\x00", n) }

// The chapter's example.
func TestExample(t *testing.T) {
	m, cost, err := Grow("", num.Of(0), num.Of(33))
	if m != zeros(64) || cost != 6 || err != api.OK {
		t.Errorf("Grow of nothing, 0, 33: %d bytes, %d, %v", len(m), cost, err)
	}
	if got := Slice("abc", num.Of(2), 4); got != "c\x00\x00\x00" {
		t.Errorf("Slice of abc, 2, 4: %q", got)
	}
}

// P12.1: n by 32, upwards, from both sides of each step and at the ends of int.
func TestWords(t *testing.T) {
	for _, c := range []struct{ n, want int }{
		{0, 0}, {1, 1}, {31, 1}, {32, 1}, {33, 2}, {64, 2}, {65, 3}, {4095, 128}, {4096, 128}, {4097, 129}, {65536, 2048},
		{-1, 0}, {-31, 0}, {-32, 0}, {-33, 0}, {math.MinInt, 0},
		{math.MaxInt, 1 << 58}, {math.MaxInt - 31, 1<<58 - 1}, {math.MaxInt - 30, 1 << 58},
	} {
		if got := Words(c.n); got != c.want {
			t.Errorf("Words(%d) is %d, want %d", c.n, got, c.want)
		}
	}
	for n := range 5000 {
		if got, want := Words(n), plainWords(n); got != want {
			t.Fatalf("Words(%d) is %d, want %d", n, got, want)
		}
	}
}

// P12.1: the square's part counts from 23 words on; below 0 and above 65536 nothing changes.
func TestCost(t *testing.T) {
	for _, c := range []struct{ words, want int }{
		{0, 0}, {1, 3}, {2, 6}, {22, 66}, {23, 70}, {31, 94}, {32, 98}, {33, 101}, {128, 416}, {512, 2048},
		{65535, 196605 + 8388352}, {65536, 196608 + 8388608}, {65537, 196608 + 8388608}, {math.MaxInt, 196608 + 8388608}, {1 << 32, 196608 + 8388608},
		{-1, 0}, {-65537, 0}, {math.MinInt, 0},
	} {
		if got := Cost(c.words); got != c.want {
			t.Errorf("Cost(%d) is %d, want %d", c.words, got, c.want)
		}
	}
	for words := -3; words < 66000; words++ {
		if got, want := Cost(words), plainCost(words); got != want {
			t.Fatalf("Cost(%d) is %d, want %d", words, got, want)
		}
	}
}

// P12.2: the edges, written out.
func TestGrowEdges(t *testing.T) {
	odd := strings.Repeat("x", 40)
	long := strings.Repeat("y", 5000)
	for _, c := range []struct {
		name  string
		m     string
		at, n api.U
		want  string
		cost  int
		err   api.Errno
	}{
		{"none of nothing", "", num.Of(0), num.Of(0), "", 0, api.OK},
		{"none beyond the bound", "ab", num.Of(5000), num.Of(0), "ab", 0, api.OK},
		{"none at the greatest place", odd, most, num.Of(0), odd, 0, api.OK},
		{"one byte", "", num.Of(0), num.Of(1), zeros(32), 3, api.OK},
		{"one word", "", num.Of(0), num.Of(32), zeros(32), 3, api.OK},
		{"one byte behind a word", "", num.Of(32), num.Of(1), zeros(64), 6, api.OK},
		{"up to a word's end", "", num.Of(31), num.Of(1), zeros(32), 3, api.OK},
		{"has them already", zeros(64), num.Of(32), num.Of(32), zeros(64), 0, api.OK},
		{"one more than it has", zeros(64), num.Of(32), num.Of(33), zeros(96), 3, api.OK},
		{"half a word of its own", odd, num.Of(0), num.Of(33), odd + zeros(24), 0, api.OK},
		{"its own words suffice", odd, num.Of(0), num.Of(32), odd, 0, api.OK},
		{"a half word counts as one", odd, num.Of(64), num.Of(1), odd + zeros(56), 3, api.OK},
		{"all that there may be", "", num.Of(0), num.Of(4096), zeros(4096), 416, api.OK},
		{"its last byte", "", num.Of(4095), num.Of(1), zeros(4096), 416, api.OK},
		{"from the last word on", zeros(4064), num.Of(4064), num.Of(32), zeros(4096), 416 - 412, api.OK},
		{"one more than there may be", "", num.Of(0), num.Of(4097), "", 0, api.ErrRange},
		{"behind the last byte", "ab", num.Of(4096), num.Of(1), "ab", 0, api.ErrRange},
		{"both halves of the bound", odd, num.Of(2048), num.Of(2049), odd, 0, api.ErrRange},
		{"a sum that goes over", odd, most, num.Of(1), odd, 0, api.ErrRange},
		{"a sum that goes over by more", odd, num.Of(33), most, odd, 0, api.ErrRange},
		{"a sum that goes over in one part", "", num.Of(math.MaxUint64), num.Of(1), "", 0, api.ErrRange},
		{"a high place", "", api.U{0, 1}, num.Of(1), "", 0, api.ErrRange},
		{"a higher place", "", api.U{0, 0, 1}, num.Of(1), "", 0, api.ErrRange},
		{"a high length", "", num.Of(0), api.U{1, 0, 0, 1}, "", 0, api.ErrRange},
		{"a length above an int", "", num.Of(0), api.U{1 << 63}, "", 0, api.ErrRange},
		{"longer than there may be", long, num.Of(0), num.Of(4096), long, 0, api.OK},
		{"longer, and one too many", long, num.Of(0), num.Of(4097), long, 0, api.ErrRange},
	} {
		m, cost, err := Grow(c.m, c.at, c.n)
		if m != c.want || cost != c.cost || err != c.err {
			t.Errorf("%s: %d bytes, %d, %v, want %d bytes, %d, %v", c.name, len(m), cost, err, len(c.want), c.cost, c.err)
		}
	}
}

// P12.2: at each place near a word's end and the bound, and of mixed ones.
func TestGrow(t *testing.T) {
	check := func(m string, at, n api.U) {
		t.Helper()
		got, cost, err := Grow(m, at, n)
		want, wantCost, wantErr := plainGrow(m, at, n)
		if got != want || cost != wantCost || err != wantErr {
			t.Fatalf("Grow of %d bytes, %v, %v: %d bytes, %d, %v, want %d bytes, %d, %v", len(m), at, n, len(got), cost, err, len(want), wantCost, wantErr)
		}
	}
	seed := uint64(12)
	for size := range 70 {
		m := mixedText(&seed, size)
		for end := range 100 {
			at := below(&seed, end+1)
			check(m, num.Of(uint64(at)), num.Of(uint64(end-at)))
		}
	}
	for end := 4060; end < 4130; end++ {
		at := below(&seed, end+1)
		check(mixedText(&seed, below(&seed, 4200)), num.Of(uint64(at)), num.Of(uint64(end-at)))
	}
	for range 3000 {
		m := mixedText(&seed, below(&seed, 4200))
		check(m, mixedU(&seed, 4096), mixedU(&seed, 1+below(&seed, 4096)))
	}
	check(mixedText(&seed, 65536), num.Of(4000), num.Of(96))
}

// P12.3: the edges of Put, written out.
func TestPutEdges(t *testing.T) {
	for _, c := range []struct {
		m    string
		at   int
		s    string
		want string
	}{
		{"abcdef", 0, "XY", "XYcdef"},
		{"abcdef", 2, "XY", "abXYef"},
		{"abcdef", 4, "XY", "abcdXY"},
		{"abcdef", 0, "UVWXYZ", "UVWXYZ"},
		{"abcdef", 3, "", "abcdef"},
		{"abcdef", 6, "", "abcdef"},
		{"", 0, "", ""},
		{"abcdef", 5, "XY", "abcdef"},
		{"abcdef", 6, "X", "abcdef"},
		{"abcdef", 7, "", "abcdef"},
		{"abcdef", 0, "UVWXYZ.", "abcdef"},
		{"abcdef", -1, "XY", "abcdef"},
		{"abcdef", -2, "", "abcdef"},
		{"abcdef", math.MinInt, "XY", "abcdef"},
		{"abcdef", math.MaxInt, "XY", "abcdef"},
		{"abcdef", math.MaxInt, "", "abcdef"},
		{"abcdef", math.MaxInt - 1, "XY", "abcdef"},
		{"", 0, "X", ""},
		{"", -1, "X", ""},
		{"", math.MaxInt, "X", ""},
	} {
		if got := Put(c.m, c.at, c.s); got != c.want {
			t.Errorf("Put(%q, %d, %q) is %q, want %q", c.m, c.at, c.s, got, c.want)
		}
	}
}

// P12.3: of all small sizes and places, and of mixed ones.
func TestPut(t *testing.T) {
	check := func(m string, at int, s string) {
		t.Helper()
		if got, want := Put(m, at, s), plainPut(m, at, s); got != want {
			t.Fatalf("Put(%q, %d, %q) is %q, want %q", m, at, s, got, want)
		}
	}
	seed := uint64(123)
	for size := range 9 {
		m := mixedText(&seed, size)
		for at := -2; at < 11; at++ {
			for n := range 11 {
				check(m, at, mixedText(&seed, n))
			}
		}
	}
	for range 1000 {
		m := mixedText(&seed, below(&seed, 300))
		check(m, below(&seed, 320)-10, mixedText(&seed, below(&seed, 100)))
	}
	long := mixedText(&seed, 65536)
	check(long, 0, mixedText(&seed, 65536))
	check(long, 1, mixedText(&seed, 65536))
	check(long, 65535, "x")
	check(long, 65536, "x")
}

// P12.3: the edges of Slice, written out.
func TestSliceEdges(t *testing.T) {
	long := strings.Repeat("z", 65536)
	for _, c := range []struct {
		name string
		s    string
		from api.U
		n    int
		want string
	}{
		{"all", "abc", num.Of(0), 3, "abc"},
		{"in the midst", "abcde", num.Of(1), 3, "bcd"},
		{"none", "abc", num.Of(1), 0, ""},
		{"none of nothing", "", num.Of(0), 0, ""},
		{"of nothing", "", num.Of(0), 2, zeros(2)},
		{"one beyond", "abc", num.Of(0), 4, "abc\x00"},
		{"from the end on", "abc", num.Of(3), 2, zeros(2)},
		{"from behind the end on", "abc", num.Of(4), 2, zeros(2)},
		{"from the greatest place on", "abc", most, 5, zeros(5)},
		{"from a place whose lowest part is small", "abc", api.U{1, 0, 0, 1}, 2, zeros(2)},
		{"from a place above an int", "abc", api.U{1 << 63}, 2, zeros(2)},
		{"from the greatest of a part", "abc", api.U{math.MaxUint64}, 3, zeros(3)},
		{"below 0", "abc", num.Of(0), -1, ""},
		{"far below 0", "abc", num.Of(0), math.MinInt, ""},
		{"as many as may be", "abc", num.Of(2), 65536, "c" + zeros(65535)},
		{"one too many", "abc", num.Of(2), 65537, ""},
		{"far too many", "abc", num.Of(0), math.MaxInt, ""},
		{"of the longest, all", long, num.Of(0), 65536, long},
		{"of the longest, but the first", long, num.Of(1), 65536, long[1:] + "\x00"},
		{"of the longest, the last", long, num.Of(65535), 2, "z\x00"},
		{"of the longest, too many", long, num.Of(0), 65537, ""},
	} {
		if got := Slice(c.s, c.from, c.n); got != c.want {
			t.Errorf("%s: %d bytes, want %d", c.name, len(got), len(c.want))
		}
	}
}

// P12.3: of all small sizes and places, and of mixed ones.
func TestSlice(t *testing.T) {
	check := func(s string, from api.U, n int) {
		t.Helper()
		if got, want := Slice(s, from, n), plainSlice(s, from, n); got != want {
			t.Fatalf("Slice(%q, %v, %d) is %q, want %q", s, from, n, got, want)
		}
	}
	seed := uint64(1234)
	for size := range 9 {
		s := mixedText(&seed, size)
		for from := range 11 {
			for n := -2; n < 13; n++ {
				check(s, num.Of(uint64(from)), n)
			}
		}
	}
	for range 2000 {
		size := below(&seed, 200)
		check(mixedText(&seed, size), mixedU(&seed, size), below(&seed, 260)-5)
	}
}

// P12.4: what was put is sliced out again, all else stays.
func TestPutAndSlice(t *testing.T) {
	seed := uint64(4)
	for range 2000 {
		m := mixedText(&seed, below(&seed, 200))
		s := mixedText(&seed, below(&seed, len(m)+1))
		at := below(&seed, len(m)-len(s)+1)
		put := Put(m, at, s)
		if len(put) != len(m) {
			t.Fatalf("Put in %d bytes answered %d", len(m), len(put))
		}
		if got := Slice(put, num.Of(uint64(at)), len(s)); got != s {
			t.Fatalf("put at %d: %q, sliced out: %q", at, s, got)
		}
		end := at + len(s)
		if Slice(put, num.Of(0), at) != m[:at] || Slice(put, num.Of(uint64(end)), len(m)-end) != m[end:] {
			t.Fatalf("putting %d bytes at %d changed others", len(s), at)
		}
	}
}

// P12.4: costs of growing twice are those of growing once, and what was there stays.
func TestGrowTwice(t *testing.T) {
	seed := uint64(5)
	for range 2000 {
		m := mixedText(&seed, below(&seed, 4200))
		first, second := 1+below(&seed, 4096), 1+below(&seed, 4096)
		once, cost, err := Grow(m, num.Of(0), num.Of(uint64(max(first, second))))
		half, low, errLow := Grow(m, num.Of(0), num.Of(uint64(first)))
		twice, high, errHigh := Grow(half, num.Of(0), num.Of(uint64(second)))
		if err != api.OK || errLow != api.OK || errHigh != api.OK {
			t.Fatalf("growing to %d and %d: %v, %v, %v", first, second, err, errLow, errHigh)
		}
		if once != twice || cost != low+high {
			t.Fatalf("%d bytes, to %d, then %d: %d bytes at %d and %d; at once: %d bytes at %d", len(m), first, second, len(twice), low, high, len(once), cost)
		}
		if !strings.HasPrefix(twice, m) || twice[len(m):] != zeros(len(twice)-len(m)) {
			t.Fatalf("growing changed what was there")
		}
		if low < 0 || high < 0 {
			t.Fatalf("growing costs %d, %d", low, high)
		}
	}
}

// P12.5: Slice of two pieces, one behind the other, is that of both.
func TestSliceTwice(t *testing.T) {
	seed := uint64(6)
	for range 2000 {
		size := below(&seed, 200)
		s := mixedText(&seed, size)
		from, n, more := mixedU(&seed, size), below(&seed, 150), below(&seed, 150)
		next, over := num.Add(from, num.Of(uint64(n)))
		if over {
			continue
		}
		if got, want := Slice(s, from, n)+Slice(s, next, more), Slice(s, from, n+more); got != want {
			t.Fatalf("from %v on, %d and %d of %q: %q, at once %q", from, n, more, s, got, want)
		}
	}
}
