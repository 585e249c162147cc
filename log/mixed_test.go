package log

import (
	"slices"
	"strconv"
	"strings"
	"testing"
)

// Kinds of damage to a row of records.
const (
	dmNone = iota
	dmCut
	dmChanged
	dmPut
	dmLost
	dmBehind
	numDamages
)

// mixedTexts are some texts, short ones the most, and here and there one at an edge.
func mixedTexts(seed *uint64) []string {
	edges := []int{127, 128, 255, 256, 257, most - 1, most}
	var out []string
	for range below(seed, 8) {
		n := below(seed, 12)
		if below(seed, 60) == 0 {
			n = edges[below(seed, len(edges))]
		}
		out = append(out, text(seed, n))
	}
	return out
}

// damaged is bytes with one damage, and up to which place they are as they were.
func damaged(seed *uint64, kind int, s string) (string, int) {
	at := below(seed, len(s)+1)
	left, right := s[:at], s[at:]
	switch {
	case kind == dmCut:
		return left, at
	case kind == dmPut:
		return left + text(seed, 1) + right, at
	case kind == dmChanged && right != "":
		return left + string([]byte{right[0] ^ byte(1+below(seed, 255))}) + right[1:], at
	case kind == dmLost && right != "":
		return left + right[1:], at
	case kind == dmBehind:
		return s + text(seed, 1+below(seed, 20)), len(s)
	}
	return s, len(s)
}

// wantUndamaged fails the test unless all the records ahead of a place are told, and unless what is told has the bytes told of as its records.
func wantUndamaged(t *testing.T, s string, at int, texts []string) {
	t.Helper()
	got, n := Frames(s)
	if records := joined(got...); n != len(records) || !strings.HasPrefix(s, records) {
		t.Fatalf("%s, %d bytes: not the records of that, of %d bytes", told(got), n, len(records))
	}
	end := 0
	for i, text := range texts {
		end += 8 + len(text)
		if end <= at && (len(got) <= i || got[i] != text) {
			t.Fatalf("as it was up to %d: %s; want %s", at, told(got), told(texts[:i+1]))
		}
	}
}

// P23.2, P23.3, P23.4: mixed rows of records, whole or with one damage, come out as the chapter's words have it.
func TestMixedRows(t *testing.T) {
	met := map[int]int{}
	for seed := range uint64(4000) {
		texts := mixedTexts(&seed)
		kind := below(&seed, numDamages)
		s, at := damaged(&seed, kind, joined(texts...))
		want, n := plainFrames(s)
		got, m := Frames(s)
		if !slices.Equal(got, want) || m != n {
			t.Fatalf("damage %d at %d of %d bytes: %s, %d; want %s, %d", kind, at, len(s), told(got), m, told(want), n)
		}
		wantUndamaged(t, s, at, texts)
		if len(got) < len(texts) {
			met[kind]++
		}
	}
	for kind := dmCut; kind < dmBehind; kind++ {
		if met[kind] < 100 {
			t.Errorf("damage %d has hidden texts but %d times", kind, met[kind])
		}
	}
	if met[dmNone]+met[dmBehind] > 0 {
		t.Errorf("texts hidden without damage %d times, by what stands behind %d times", met[dmNone], met[dmBehind])
	}
}

// P23.3, P23.4: records cut at each place tell the texts of those that are whole there, and no other.
func TestEachCut(t *testing.T) {
	texts := []string{"first", "", "2", joined("in", "side"), "", "the last one"}
	all := joined(texts...)
	for at := range len(all) + 1 {
		whole, end := 0, 0
		for _, s := range texts {
			if end += 8 + len(s); end <= at {
				whole++
			}
		}
		wantFrames(t, "cut at "+strconv.Itoa(at), all[:at], texts[:whole])
	}
}

// P23.3: a row of records, and each beginning of one more, also of the longest: these texts.
func TestTornBehind(t *testing.T) {
	texts := []string{"a", "", "bc"}
	for _, next := range []string{"", "d", long(300), long(most)} {
		record := Frame(next)
		for _, n := range []int{0, 1, 3, 4, 5, 7, 8, 9, len(record) / 2, len(record) - 2, len(record) - 1} {
			if n < len(record) {
				wantFrames(t, strconv.Itoa(n)+" bytes of "+strconv.Itoa(len(record)), joined(texts...)+record[:n], texts)
			}
		}
	}
}

// P23.4: a beginning of any bytes tells a beginning of the texts.
func TestBeginnings(t *testing.T) {
	for seed := range uint64(40) {
		s, _ := damaged(&seed, below(&seed, numDamages), joined("some", "", "records", text(&seed, below(&seed, 60))))
		all, n := Frames(s)
		for at := range len(s) + 1 {
			got, m := Frames(s[:at])
			if len(got) > len(all) || !slices.Equal(got, all[:len(got)]) || m > min(n, at) {
				t.Fatalf("%d of %d bytes: %s, %d; all tell %s, %d", at, len(s), told(got), m, told(all), n)
			}
			if at >= n && len(got) != len(all) {
				t.Fatalf("%d of %d bytes: %s; all tell %s", at, len(s), told(got), told(all))
			}
		}
	}
}
