package mail

import (
	"fmt"
	"math/big"
	"reflect"
	"slices"
	"strings"
	"testing"

	"truce/api"
	"truce/num"
	"truce/seal"
	"truce/state"
)

const top = 1<<64 - 1

// most is 2^256 - 1.
func most() api.U { return api.U{top, top, top, top} }

// mix is a fixed row of numbers that look mixed: the tests must go alike each time.
func mix(seed *uint64) uint64 {
	*seed += 0x9e3779b97f4a7c15
	z := *seed
	z = (z ^ z>>30) * 0xbf58476d1ce4e5b9
	z = (z ^ z>>27) * 0x94d049bb133111eb
	return z ^ z>>31
}

func below(seed *uint64, n int) int { return int(mix(seed) % uint64(n)) }

func rep(b byte, n int) string { return strings.Repeat(string([]byte{b}), n) }

// at is an address, or an asset.
func at(b byte) string { return rep(b, 20) }

func dest(b byte) string { return rep(b, 32) }

func fixed(parts int) api.Fixed {
	f := api.Fixed{Nonce: 7, App: "app", Time: 60}
	for i := range parts {
		f.Parts = append(f.Parts, at(byte(i+1)))
	}
	return f
}

// mark is a seal of two numbers, which needn't be anybody's.
func mark(r, s uint64) api.Seal { return api.Seal{R: api.U{r}, S: api.U{s}, Odd: r%2 == 1} }

// plain is a fit mail of so many seals, in new memory.
func plain(seals int) api.Mail {
	v := api.Var{Turn: 4, Data: "d", Exits: []api.Exit{{Asset: at(3), Allocs: []api.Alloc{{Dest: dest(4), Amount: api.U{5}}}}}}
	out := api.Mail{Fixed: fixed(2), Signed: api.Signed{Var: v}}
	for i := range seals {
		out.Signed.Seals = append(out.Signed.Seals, mark(9, uint64(i)))
	}
	return out
}

// greatest is a fit mail that has as much as may be.
func greatest() api.Mail {
	out := api.Mail{Fixed: fixed(4), Signed: api.Signed{Var: api.Var{Turn: 1 << 40, Final: true, Data: rep(8, 256)}}}
	out.Fixed.Nonce, out.Fixed.App, out.Fixed.Time = top, rep(9, 512), 1<<20
	for i := range byte(3) {
		e := api.Exit{Asset: at(i)}
		for range 8 {
			e.Allocs = append(e.Allocs, api.Alloc{Dest: dest(1), Amount: api.U{top, top, top, top >> 3}, Kind: api.PayBound, Left: dest(2), Right: dest(3)})
		}
		out.Signed.Var.Exits = append(out.Signed.Var.Exits, e)
	}
	out.Signed.Seals = slices.Repeat([]api.Seal{{R: most(), S: most(), Odd: true}}, 4)
	return out
}

// least is a fit mail that has as little as may be.
func least() api.Mail {
	return api.Mail{Fixed: api.Fixed{Parts: []string{at(0), at(1)}, Time: 1}, Signed: api.Signed{Seals: make([]api.Seal, 1)}}
}

// isFit is Fit by the chapter's words.
func isFit(m api.Mail) bool {
	return state.FitFixed(m.Fixed) && state.FitVar(m.Signed.Var) && len(m.Signed.Seals) > 0 && len(m.Signed.Seals) < 5
}

// count is a number as a word.
func count(n int) string { return string(big.NewInt(int64(n)).FillBytes(make([]byte, 32))) }

// tail is a text by the words of chapter 9: its length, its bytes, filled up to words.
func tail(s string) string { return count(len(s)) + s + rep(0, (32-len(s)%32)%32) }

// together is tails behind the words that say where they begin.
func together(tails ...string) string {
	words, all := "", ""
	for _, s := range tails {
		words += count(32*len(tails) + len(all))
		all += s
	}
	return words + all
}

// laidOut is bytes of a mail's form, of any texts.
func laidOut(f, v string, seals ...string) string {
	var tails []string
	for _, s := range seals {
		tails = append(tails, tail(s))
	}
	return together(tail(f), tail(v), count(len(seals))+together(tails...))
}

// bytesOf is a fit mail's bytes by the chapter's words.
func bytesOf(m api.Mail) string {
	var seals []string
	for _, s := range m.Signed.Seals {
		odd := "\x00"
		if s.Odd {
			odd = "\x01"
		}
		seals = append(seals, num.Bytes(s.R)+num.Bytes(s.S)+odd)
	}
	return laidOut(state.WriteFixed(m.Fixed), state.Write(m.Signed.Var), seals...)
}

// bare is a mail in memory of its own whose empty lists are all none.
func bare(m api.Mail) api.Mail {
	m.Fixed.Parts = slices.Concat(m.Fixed.Parts)
	var exits []api.Exit
	for _, e := range m.Signed.Var.Exits {
		exits = append(exits, api.Exit{Asset: e.Asset, Allocs: slices.Concat(e.Allocs)})
	}
	m.Signed.Var.Exits = exits
	m.Signed.Seals = slices.Concat(m.Signed.Seals)
	return m
}

// roomy is a mail in memory of its own, with room behind each list, so that a call that writes there is seen.
func roomy(m api.Mail) api.Mail {
	m = bare(m)
	m.Fixed.Parts, m.Signed.Seals, m.Signed.Var.Exits = spare(m.Fixed.Parts), spare(m.Signed.Seals), spare(m.Signed.Var.Exits)
	for i, e := range m.Signed.Var.Exits {
		m.Signed.Var.Exits[i].Allocs = spare(e.Allocs)
	}
	return m
}

func spare[T any](l []T) []T {
	if len(l) == 0 {
		return nil
	}
	return append(make([]T, 0, len(l)+3), l...)
}

// behind tells whether there is nothing but zero values in the room behind a mail's lists.
func behind(m api.Mail) bool {
	ok := isBlank(m.Fixed.Parts) && isBlank(m.Signed.Seals) && isBlank(m.Signed.Var.Exits)
	for _, e := range m.Signed.Var.Exits {
		ok = ok && isBlank(e.Allocs)
	}
	return ok
}

func isBlank[T any](l []T) bool {
	for _, x := range l[len(l):cap(l)] {
		if !reflect.ValueOf(x).IsZero() {
			return false
		}
	}
	return true
}

// wipe overwrites all memory of a mail.
func wipe(m api.Mail) {
	for _, e := range m.Signed.Var.Exits {
		clear(e.Allocs[:cap(e.Allocs)])
	}
	clear(m.Signed.Var.Exits[:cap(m.Signed.Var.Exits)])
	clear(m.Signed.Seals[:cap(m.Signed.Seals)])
	clear(m.Fixed.Parts[:cap(m.Fixed.Parts)])
}

// spelled is a mail for a message: what it has of each, and no long texts.
func spelled(m api.Mail) string {
	return fmt.Sprintf("{%d parts, nonce %d, app of %d, time %d; turn %d, final %v, data of %d, %d exits; %d seals}",
		len(m.Fixed.Parts), m.Fixed.Nonce, len(m.Fixed.App), m.Fixed.Time,
		m.Signed.Var.Turn, m.Signed.Var.Final, len(m.Signed.Var.Data), len(m.Signed.Var.Exits), len(m.Signed.Seals))
}

// fits fails the test unless Fit tells this, and Write goes by it.
func fits(t *testing.T, what string, m api.Mail, want bool) {
	t.Helper()
	if Fit(m) != want {
		t.Errorf("%s: Fit is %v of %s", what, !want, spelled(m))
	}
	if raw := Write(m); (raw != "") != want {
		t.Errorf("%s: Write has %d bytes of %s", what, len(raw), spelled(m))
	}
}

// reads fails the test unless Read tells just this of some bytes.
func reads(t *testing.T, what, s string, want api.Mail, e api.Errno) {
	t.Helper()
	got, err := Read(s)
	if err != e || !reflect.DeepEqual(got, want) {
		t.Errorf("%s: Read of %d bytes is %s, %d, want %s, %d", what, len(s), spelled(got), err, spelled(want), e)
	}
}

// refuses fails the test unless some bytes are no mail's.
func refuses(t *testing.T, what, s string) {
	t.Helper()
	reads(t, what, s, api.Mail{}, api.ErrForm)
}

// keySeal is a seal of a mail's state by a key.
func keySeal(t *testing.T, m api.Mail, k api.U) api.Seal {
	t.Helper()
	s, err := seal.Make(state.Digest(m.Fixed, m.Signed.Var), k)
	if err != api.OK {
		t.Fatalf("no seal: %d", err)
	}
	return s
}

// isFitTerms tells whether terms of a mail's form are a fit one's, by the chapter's words.
func isFitTerms(l []api.Term) bool {
	_, noChannel := state.ReadFixed(l[0].Text)
	_, noState := state.Read(l[1].Text)
	ok := noChannel == api.OK && noState == api.OK && len(l[2].List) > 0 && len(l[2].List) < 5
	for _, t := range l[2].List {
		ok = ok && len(t.Text) == 65 && t.Text[64] < 2
	}
	return ok
}
