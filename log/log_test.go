package log

import (
	"encoding/hex"
	"slices"
	"strconv"
	"strings"
	"testing"

	"truce/hash"
)

// P23.1: a record's bytes; the heads were worked out by an apart program.
func TestFrame(t *testing.T) {
	for _, c := range []struct{ s, head string }{
		{"", "00000000e8e77626"},
		{"a", "000000018827187f"},
		{"bc", "00000002ea65a507"},
		{"\x00", "0000000131e66625"},
		{"\xff\xff\xff", "0000000326fd60f0"},
		{long(127), "0000007f4168b77c"},
		{long(128), "0000008094faa4b9"},
		{long(129), "00000081bc09ee0d"},
		{long(255), "000000ff2204c138"},
		{long(256), "0000010026cb1c49"},
		{long(65535), "0000ffff8bbfb72f"},
		{long(65536), "00010000f9eaee03"},
	} {
		got := Frame(c.s)
		if len(got) != 8+len(c.s) || hex.EncodeToString([]byte(got[:8])) != c.head || got[8:] != c.s {
			t.Errorf("%d bytes: %.12x of %d, want %s and them", len(c.s), got, len(got), c.head)
		}
	}
}

// P23.1: a text of more than 65536 bytes has no record.
func TestFrameTooLong(t *testing.T) {
	for _, n := range []int{most + 1, most + 2, 2 * most, 1 << 20} {
		if got := Frame(long(n)); got != "" {
			t.Errorf("%d bytes: %.12x of %d", n, got, len(got))
		}
	}
}

// P23.1: texts of all kinds of bytes and of all lengths up to some blocks of a sum, against the chapter's words.
func TestFrameEachLength(t *testing.T) {
	seed := uint64(1)
	for n := range 420 {
		s := text(&seed, n)
		if got, want := Frame(s), sealed(uint32(n), s); got != want {
			t.Errorf("%d bytes: %.12x, want %.12x", n, got, want)
		}
	}
}

// P23.1: the sum is of length and text, not of the text alone, and its first bytes stand there, not its last.
func TestFrameSum(t *testing.T) {
	got, sum := Frame("abc"), hash.Sum("\x00\x00\x00\x03abc")
	if got[4:8] != sum[:4] || got[4:8] == sum[28:] || got[4:8] == hash.Sum("abc")[:4] {
		t.Errorf("got %x, the sum is %x", got, sum)
	}
}

// P23.2: the texts of the records that bytes begin with, up to the first that is not whole, or is none.
func TestFrames(t *testing.T) {
	a, bc := Frame("a"), Frame("bc")
	for what, c := range map[string]struct {
		s    string
		want []string
	}{
		"nothing":               {"", nil},
		"one":                   {a, []string{"a"}},
		"two":                   {a + bc, []string{"a", "bc"}},
		"one twice":             {a + a, []string{"a", "a"}},
		"one of no bytes":       {Frame(""), []string{""}},
		"no bytes, thrice":      {joined("", "", ""), []string{"", "", ""}},
		"no bytes between":      {a + Frame("") + bc, []string{"a", "", "bc"}},
		"the longest":           {Frame(long(most)) + a, []string{long(most), "a"}},
		"1 below the longest":   {Frame(long(most-1)) + a, []string{long(most - 1), "a"}},
		"a record's record":     {Frame(a+bc) + bc, []string{a + bc, "bc"}},
		"bytes that are none":   {"abcdefgh", nil},
		"all bytes 0":           {strings.Repeat("\x00", 100), nil},
		"all bytes 255":         {strings.Repeat("\xff", 100), nil},
		"none behind one":       {a + "abcdefghij", []string{"a"}},
		"one behind none":       {"abcdefghij" + a, nil},
		"one behind 1 byte":     {"\x00" + a, nil},
		"none between":          {a + "\x00" + bc, []string{"a"}},
		"the text alone":        {"a", nil},
		"a head's 7 bytes":      {Frame("")[:7], nil},
		"a head without a text": {bc[:8], nil},
		"five bytes of another": {a + bc + "\x00\x00\x00\x01x", []string{"a", "bc"}},
	} {
		wantFrames(t, what, c.s, c.want)
	}
}

// P23.2: what is none by its length, or by its sum, ends what is told, though whole ones stand behind it.
func TestFramesNone(t *testing.T) {
	behind := Frame("behind")
	none := map[string]string{
		"a length 1 above the longest":     sealed(most+1, long(most+1)),
		"a length far above the longest":   sealed(3*most, long(3*most)),
		"a length 1 above the text's":      sealed(4, "abc"),
		"a length 1 below the text's":      sealed(2, "abc"),
		"a length of nothing":              sealed(0, "abc"),
		"the highest bit alone":            sealed(1<<31, "abc"),
		"the greatest length":              sealed(1<<32-1, "abc"),
		"a length that comes round to 0":   sealed(1<<32-8, "abc"),
		"the lowest first":                 "\x03\x00\x00\x00" + hash.Sum("\x03\x00\x00\x00abc")[:4] + "abc",
		"a sum of the text alone":          four(3) + hash.Sum("abc")[:4] + "abc",
		"the sum's last bytes":             four(3) + hash.Sum(four(3) + "abc")[28:] + "abc",
		"the sum's next bytes":             four(3) + hash.Sum(four(3) + "abc")[4:8] + "abc",
		"the sum ahead of the length":      hash.Sum(four(3) + "abc")[:4] + four(3) + "abc",
		"the sum behind the text":          four(3) + "abc" + hash.Sum(four(3) + "abc")[:4],
		"another text's sum":               four(3) + Frame("abd")[4:8] + "abc",
		"a sum of 0":                       four(3) + "\x00\x00\x00\x00abc",
		"no bytes and a sum of 0":          four(0) + "\x00\x00\x00\x00",
		"no bytes and another one's sum":   four(0) + Frame("a")[4:8],
		"all but the sum":                  four(3) + "abc",
		"a record without its first byte":  Frame("abc")[1:],
		"a record without its last length": Frame("abc")[:3] + Frame("abc")[4:],
	}
	for what, s := range none {
		wantFrames(t, what, s, nil)
		wantFrames(t, what+", one behind", s+behind, nil)
		wantFrames(t, what+", between", Frame("a")+Frame("")+s+behind, []string{"a", ""})
	}
}

// P23.2: each bit of a record changed: it is none, and what stands behind it is not told.
func TestFramesEachBit(t *testing.T) {
	ahead, middle, behind := Frame("ahead"), Frame("middle"), Frame("behind")
	for at := range len(middle) * 8 {
		b := []byte(middle)
		b[at/8] ^= 1 << (at % 8)
		wantFrames(t, "bit "+strconv.Itoa(at), ahead+string(b)+behind, []string{"ahead"})
	}
}

// P23.2: a device's worth of the shortest records, and of the longest ones.
func TestFramesMany(t *testing.T) {
	wantFrames(t, "empty ones", strings.Repeat(Frame(""), 1<<14), make([]string, 1<<14))
	l := slices.Repeat([]string{long(most), ""}, 20)
	wantFrames(t, "long ones", joined(l...), l)
}

// 0.5: what was told is as it was when another call's list was changed.
func TestOwnList(t *testing.T) {
	s := joined("a", "bc", "")
	one, n := Frames(s)
	two, _ := Frames(s)
	two[0], two[2] = "x", "y"
	_ = append(two, "z")
	if again, m := Frames(s); !slices.Equal(one, []string{"a", "bc", ""}) || !slices.Equal(again, one) || m != n {
		t.Errorf("got %s, then %s", told(one), told(again))
	}
}

// The chapter's example.
func TestExample(t *testing.T) {
	a, bc, another := Frame("a"), Frame("bc"), Frame("another")
	if len(a) != 9 || len(bc) != 10 {
		t.Errorf("records of %d and %d bytes", len(a), len(bc))
	}
	wantFrames(t, "a, bc, and five bytes", a+bc+another[:5], []string{"a", "bc"})
}
