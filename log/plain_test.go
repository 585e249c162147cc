package log

import (
	"encoding/binary"
	"fmt"
	"slices"
	"strings"
	"testing"

	"truce/hash"
)

// most is how many bytes a record's text has at most, as the chapter writes it.
const most = 65536

// mix is a fixed row of numbers that look mixed: the tests must go alike each time.
func mix(seed *uint64) uint64 {
	*seed += 0x9e3779b97f4a7c15
	z := *seed
	z = (z ^ z>>30) * 0xbf58476d1ce4e5b9
	z = (z ^ z>>27) * 0x94d049bb133111eb
	return z ^ z>>31
}

func below(seed *uint64, n int) int { return int(mix(seed) % uint64(n)) }

// text is n bytes of all kinds.
func text(seed *uint64, n int) string {
	out := make([]byte, n)
	for i := range out {
		out[i] = byte(mix(seed))
	}
	return string(out)
}

func long(n int) string { return strings.Repeat("x", n) }

// four is a length as the chapter writes it: four bytes, the highest first.
func four(n uint32) string { return string(binary.BigEndian.AppendUint32(nil, n)) }

// sealed is a record's length, the first bytes of the sum of both, and a text: what a text of any length would have if it had a record, and what a length that is not the text's would.
func sealed(size uint32, s string) string {
	return four(size) + hash.Sum(four(size) + s)[:4] + s
}

// plain is the text of a record of exactly these bytes.
func plain(s string) (string, bool) {
	if len(s) < 8 || len(s) > 8+most {
		return "", false
	}
	size, sum, behind := s[:4], s[4:8], s[8:]
	return behind, four(uint32(len(behind))) == size && hash.Sum(size + behind)[:4] == sum
}

// plainFrames is the chapter's Frames: it looks for the next record by the one length that can be it.
func plainFrames(s string) ([]string, int) {
	var texts []string
	n := 0
	for {
		left := s[n:]
		if len(left) < 8 {
			return texts, n
		}
		size := int64(binary.BigEndian.Uint32([]byte(left)))
		if size > int64(len(left)-8) {
			return texts, n
		}
		text, ok := plain(left[:8+size])
		if !ok {
			return texts, n
		}
		texts = append(texts, text)
		n += 8 + int(size)
	}
}

// joined is the records of some texts, one behind the other.
func joined(texts ...string) string {
	out := ""
	for _, s := range texts {
		out += Frame(s)
	}
	return out
}

// told is texts in words of a bearable length, whatever their bytes are.
func told(texts []string) string {
	out := fmt.Sprintf("%d texts:", len(texts))
	for _, s := range texts[:min(len(texts), 4)] {
		out += fmt.Sprintf(" %.12q of %d", s, len(s))
	}
	return out
}

// wantFrames fails the test unless Frames of s tells these texts and just the bytes of their records, an empty list being none.
func wantFrames(t *testing.T, what, s string, want []string) {
	t.Helper()
	got, n := Frames(s)
	if !slices.Equal(got, want) || len(want) == 0 && got != nil {
		t.Fatalf("%s: %s; want %s", what, told(got), told(want))
	}
	size := 0
	for _, text := range want {
		size += 8 + len(text)
	}
	if n != size {
		t.Fatalf("%s: %d bytes, want %d", what, n, size)
	}
}
