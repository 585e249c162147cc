package call

import (
	"encoding/hex"
	"fmt"
	"strings"
	"testing"

	"truce/api"
	"truce/curve"
	"truce/hash"
	"truce/num"
	"truce/seal"
	"truce/state"
)

// kinds are all kinds, by the chapter's names.
func kinds() []int {
	return []int{api.TxSend, api.TxDeposit, api.TxChallenge, api.TxCheckpoint, api.TxConclude, api.TxTransfer, api.TxClaim}
}

// proofs are the kinds that bring a proof.
func proofs() []int { return []int{api.TxChallenge, api.TxCheckpoint, api.TxConclude} }

// fits fails the test unless Fit tells this.
func fits(tc *testing.T, what string, t api.Tx, want bool) {
	tc.Helper()
	if Fit(t) != want {
		tc.Errorf("%s: Fit is %v of %v", what, !want, t)
	}
	if raw := Write(t); (raw != "") != want {
		tc.Errorf("%s: Write has %d bytes of %v", what, len(raw), t)
	}
}

// P20.3, P20.4: the chapter's example.
func TestExample(tc *testing.T) {
	w := "aaaaabbbbbcccccddddd"
	t := api.Tx{Kind: api.TxSend, To: w, Asset: w, Amount: api.U{5}}
	s, err := Wrap(t, api.U{1})
	if err != api.OK {
		tc.Fatalf("Wrap is %d", err)
	}
	opens(tc, "example", s, t, owner(tc, api.U{1}), api.OK)
}

// P20.1: the kinds there are, and what each has at least and at most.
func TestFitKinds(tc *testing.T) {
	for _, kind := range kinds() {
		fits(tc, "some", fitOf(kind), true)
		fits(tc, "greatest", greatest(kind), true)
		t := fitOf(kind)
		t.Nonce = 0
		fits(tc, "nonce 0", t, true)
		t.Nonce = 1<<40 + 1
		fits(tc, "nonce above 2^40", t, false)
		t.Nonce = top
		fits(tc, "greatest nonce", t, false)
		fits(tc, "nothing", api.Tx{Kind: kind}, false)
	}
	for _, kind := range []int{-1, -7, 7, 8, 255, 256, 1 << 32, 1 << 62, -1 << 63} {
		fits(tc, "no kind", api.Tx{Kind: kind}, false)
		for _, k := range kinds() {
			t := fitOf(k)
			t.Kind = kind
			fits(tc, "no kind", t, false)
		}
	}
	for _, a := range kinds() {
		for _, b := range kinds() {
			t := fitOf(a)
			t.Kind = b
			bothProve := a >= api.TxChallenge && a <= api.TxConclude && b >= api.TxChallenge && b <= api.TxConclude
			fits(tc, fmt.Sprintf("%d as %d", a, b), t, a == b || bothProve)
		}
	}
}

// spoilers lay something into one field; the kinds for which that is a fit one.
func spoilers() map[string]func(*api.Tx) []int {
	channels := []int{api.TxDeposit, api.TxTransfer, api.TxClaim}
	assets := append([]int{api.TxSend}, channels...)
	return map[string]func(*api.Tx) []int{
		"Channel":                 func(t *api.Tx) []int { t.Channel = ch(9); return channels },
		"Channel of 0":            func(t *api.Tx) []int { t.Channel = ch(0); return channels },
		"Channel of 31":           func(t *api.Tx) []int { t.Channel = rep(9, 31); return nil },
		"Channel of 33":           func(t *api.Tx) []int { t.Channel = rep(9, 33); return nil },
		"Channel of 20":           func(t *api.Tx) []int { t.Channel = rep(9, 20); return nil },
		"Channel of one byte 0":   func(t *api.Tx) []int { t.Channel = "\x00"; return nil },
		"Asset":                   func(t *api.Tx) []int { t.Asset = at(9); return assets },
		"Asset of 0":              func(t *api.Tx) []int { t.Asset = at(0); return assets },
		"Asset of 19":             func(t *api.Tx) []int { t.Asset = rep(9, 19); return nil },
		"Asset of 21":             func(t *api.Tx) []int { t.Asset = rep(9, 21); return nil },
		"Asset of 32":             func(t *api.Tx) []int { t.Asset = rep(9, 32); return nil },
		"Asset of one byte 0":     func(t *api.Tx) []int { t.Asset = "\x00"; return nil },
		"To":                      func(t *api.Tx) []int { t.To = at(9); return []int{api.TxSend} },
		"To of 0":                 func(t *api.Tx) []int { t.To = at(0); return []int{api.TxSend} },
		"To of 19":                func(t *api.Tx) []int { t.To = rep(9, 19); return nil },
		"To of 21":                func(t *api.Tx) []int { t.To = rep(9, 21); return nil },
		"To of 32":                func(t *api.Tx) []int { t.To = rep(9, 32); return nil },
		"To of one byte 0":        func(t *api.Tx) []int { t.To = "\x00"; return nil },
		"Expect":                  func(t *api.Tx) []int { t.Expect = api.U{1}; return []int{api.TxDeposit} },
		"Expect above":            func(t *api.Tx) []int { t.Expect = api.U{0, 0, 0, 1}; return []int{api.TxDeposit} },
		"Amount":                  func(t *api.Tx) []int { t.Amount = api.U{1}; return []int{api.TxSend, api.TxDeposit} },
		"Amount above":            func(t *api.Tx) []int { t.Amount = api.U{0, 0, 0, 1}; return []int{api.TxSend, api.TxDeposit} },
		"Which of one place":      func(t *api.Tx) []int { t.Which = []int{0}; return []int{api.TxTransfer} },
		"Which of 8":              func(t *api.Tx) []int { t.Which = make([]int, 8); return []int{api.TxTransfer} },
		"Which of 9":              func(t *api.Tx) []int { t.Which = make([]int, 9); return nil },
		"Which of 255":            func(t *api.Tx) []int { t.Which = []int{0, 255}; return []int{api.TxTransfer} },
		"Which of 256":            func(t *api.Tx) []int { t.Which = []int{0, 256}; return nil },
		"Which of -1":             func(t *api.Tx) []int { t.Which = []int{0, 1, -1}; return nil },
		"Index":                   func(t *api.Tx) []int { t.Index = 1; return []int{api.TxClaim} },
		"Index of 255":            func(t *api.Tx) []int { t.Index = 255; return []int{api.TxClaim} },
		"Index of 256":            func(t *api.Tx) []int { t.Index = 256; return nil },
		"Index of -1":             func(t *api.Tx) []int { t.Index = -1; return nil },
		"Fixed":                   func(t *api.Tx) []int { t.Fixed = fixed(3); return proofs() },
		"Fixed of Parts alone":    func(t *api.Tx) []int { t.Fixed = api.Fixed{Parts: fixed(2).Parts}; return nil },
		"Fixed of Nonce alone":    func(t *api.Tx) []int { t.Fixed = api.Fixed{Nonce: 1}; return nil },
		"Fixed of App alone":      func(t *api.Tx) []int { t.Fixed = api.Fixed{App: "a"}; return nil },
		"Fixed of Time alone":     func(t *api.Tx) []int { t.Fixed = api.Fixed{Time: 1}; return nil },
		"Fixed that is not fit":   func(t *api.Tx) []int { t.Fixed = fixed(5); return nil },
		"Proof":                   func(t *api.Tx) []int { t.Proof = []api.Signed{stated(1, 0)}; return proofs() },
		"Proof of nothing sealed": func(t *api.Tx) []int { t.Proof = make([]api.Signed, 1); return proofs() },
		"Proof of 4":              func(t *api.Tx) []int { t.Proof = make([]api.Signed, 4); return proofs() },
		"Proof of 5":              func(t *api.Tx) []int { t.Proof = make([]api.Signed, 5); return nil },
		"Proof with 4 seals":      func(t *api.Tx) []int { t.Proof = []api.Signed{stated(1, 0), stated(1, 4)}; return proofs() },
		"Proof with 5 seals":      func(t *api.Tx) []int { t.Proof = []api.Signed{stated(1, 0), stated(1, 5)}; return nil },
		"Proof of a turn too great": func(t *api.Tx) []int {
			t.Proof = []api.Signed{stated(1, 0), stated(1<<40+1, 1)}
			return nil
		},
	}
}

// P20.1, P20.2: a field that a kind needs must be as said, one that it does not need must be zero.
func TestFitFields(tc *testing.T) {
	for what, spoil := range spoilers() {
		for _, kind := range kinds() {
			t := fitOf(kind)
			want := false
			for _, k := range spoil(&t) {
				want = want || k == kind
			}
			fits(tc, fmt.Sprintf("kind %d, %s", kind, what), t, want)
			if isFit(t) != want {
				tc.Errorf("kind %d, %s: the tests' own words tell otherwise", kind, what)
			}
		}
	}
}

// P20.1: what may be none is needed by no kind, or it may be 0 there.
func TestFitNone(tc *testing.T) {
	t := fitOf(api.TxSend)
	t.Amount = api.U{}
	fits(tc, "send of 0", t, true)
	t.To = ""
	fits(tc, "send to nobody", t, false)
	t = fitOf(api.TxSend)
	t.Asset = ""
	fits(tc, "send of nothing", t, false)
	t = fitOf(api.TxDeposit)
	t.Expect, t.Amount = api.U{}, api.U{}
	fits(tc, "deposit of 0", t, true)
	for _, kind := range []int{api.TxDeposit, api.TxTransfer, api.TxClaim} {
		t = fitOf(kind)
		t.Channel = ""
		fits(tc, "without a channel", t, false)
		t = fitOf(kind)
		t.Asset = ""
		fits(tc, "without an asset", t, false)
	}
	t = fitOf(api.TxTransfer)
	t.Which = nil
	fits(tc, "transfer of all", t, true)
	t.Which = []int{}
	fits(tc, "transfer of all, by an empty list", t, true)
	t = fitOf(api.TxClaim)
	t.Index = 0
	fits(tc, "claim of the first", t, true)
	for _, kind := range proofs() {
		t = fitOf(kind)
		t.Proof = nil
		fits(tc, "without a proof", t, false)
		t.Proof = []api.Signed{}
		fits(tc, "with an empty proof", t, false)
		t = fitOf(kind)
		t.Fixed = api.Fixed{}
		fits(tc, "without a channel", t, false)
	}
	// 0.7: an empty list is none.
	t = fitOf(api.TxSend)
	t.Fixed.Parts, t.Proof, t.Which = []string{}, []api.Signed{}, []int{}
	fits(tc, "empty lists", t, true)
}

// P20.1: more seals than participants, more states than them, and states that don't follow are the judge's to tell.
func TestFitAsksNoMore(tc *testing.T) {
	t := fitOf(api.TxConclude)
	t.Proof = []api.Signed{stated(9, 4), stated(2, 3), stated(2, 0)}
	fits(tc, "a proof of nothing", t, true)
}

// P20.1: Same goes field by field.
func TestSame(tc *testing.T) {
	all := []api.Tx{{}, {Kind: -1}, {Kind: 1}, {Kind: 7}, {Nonce: 1}, {Nonce: top}}
	for _, kind := range kinds() {
		all = append(all, fitOf(kind), greatest(kind))
	}
	base := api.Tx{Kind: 2, Nonce: 3, Fixed: fixed(2), Proof: []api.Signed{stated(4, 2), stated(5, 1)}, Channel: ch(1), Asset: at(2), To: at(3), Expect: api.U{1}, Amount: api.U{2}, Which: []int{1, 2}, Index: 3}
	all = append(all, base)
	for _, change := range []func(*api.Tx){
		func(t *api.Tx) { t.Kind = 3 }, func(t *api.Tx) { t.Nonce = 4 },
		func(t *api.Tx) { t.Fixed.Parts[1] = at(77) }, func(t *api.Tx) { t.Fixed.Parts = t.Fixed.Parts[:1] },
		func(t *api.Tx) { t.Fixed.Nonce++ }, func(t *api.Tx) { t.Fixed.App = "apq" }, func(t *api.Tx) { t.Fixed.Time++ },
		func(t *api.Tx) { t.Proof = t.Proof[:1] }, func(t *api.Tx) { t.Proof[1].Var.Turn++ }, func(t *api.Tx) { t.Proof[0].Var.Final = true },
		func(t *api.Tx) { t.Proof[0].Var.Data = "e" }, func(t *api.Tx) { t.Proof[0].Var.Exits = nil },
		func(t *api.Tx) { t.Proof[0].Var.Exits[0].Asset = at(4) }, func(t *api.Tx) { t.Proof[0].Var.Exits[0].Allocs[0].Amount = api.U{5, 1} },
		func(t *api.Tx) { t.Proof[0].Var.Exits[0].Allocs[0].Dest = ch(5) }, func(t *api.Tx) { t.Proof[0].Var.Exits[0].Allocs[0].Kind = 1 },
		func(t *api.Tx) { t.Proof[1].Seals = nil }, func(t *api.Tx) { t.Proof[0].Seals[1].R[3] = 1 },
		func(t *api.Tx) { t.Proof[0].Seals[1].S[0] = 9 }, func(t *api.Tx) { t.Proof[0].Seals[1].Odd = true },
		func(t *api.Tx) { t.Proof[0], t.Proof[1] = t.Proof[1], t.Proof[0] },
		func(t *api.Tx) { t.Channel = rep(1, 31) }, func(t *api.Tx) { t.Channel = ch(2) }, func(t *api.Tx) { t.Asset = at(4) }, func(t *api.Tx) { t.To = at(5) },
		func(t *api.Tx) { t.Asset, t.To = t.To, t.Asset },
		func(t *api.Tx) { t.Expect = api.U{1, 1} }, func(t *api.Tx) { t.Amount = api.U{2, 0, 0, 1} }, func(t *api.Tx) { t.Expect, t.Amount = t.Amount, t.Expect },
		func(t *api.Tx) { t.Which = []int{1, 3} }, func(t *api.Tx) { t.Which = []int{1} }, func(t *api.Tx) { t.Which = []int{1, 2, 0} }, func(t *api.Tx) { t.Index = 2 },
	} {
		t := bare(base)
		change(&t)
		all = append(all, t)
	}
	for i, a := range all {
		for k, b := range all {
			if Same(bare(a), bare(b)) != (i == k) {
				tc.Errorf("Same is %v of %v and %v", i != k, a, b)
			}
		}
	}
	empty := api.Tx{Fixed: api.Fixed{Parts: []string{}}, Proof: []api.Signed{}, Which: []int{}}
	if !Same(api.Tx{}, empty) || !Same(empty, api.Tx{}) {
		tc.Error("an empty list is none")
	}
	hollow := api.Tx{Proof: []api.Signed{{Var: api.Var{Exits: []api.Exit{}}, Seals: []api.Seal{}}}}
	if !Same(api.Tx{Proof: []api.Signed{{}}}, hollow) {
		tc.Error("an empty list is none, in a proof, too")
	}
}

// P20.2: a transaction's bytes, written out by hand.
func TestWriteKnown(tc *testing.T) {
	pad := strings.Repeat("0", 56)
	want := pad + "00000000" + pad + "00000003" + // TxSend, Nonce
		pad + "00000160" + pad + "00000180" + // where Fixed is, where Proof
		pad + "00000000" + // Channel
		strings.Repeat("0", 24) + strings.Repeat("02", 20) + strings.Repeat("0", 24) + strings.Repeat("01", 20) + // Asset, To
		pad + "00000000" + pad + "00000005" + // Expect, Amount
		pad + "000001a0" + pad + "00000000" + // where Which is, Index
		pad + "00000000" + pad + "00000000" + pad + "00000000" // Fixed, Proof, Which: empty
	if got := hex.EncodeToString([]byte(Write(fitOf(api.TxSend)))); got != want {
		tc.Errorf("Write is %s", got)
	}
	want = pad + "00000005" + pad + "00000003" +
		pad + "00000160" + pad + "00000180" +
		strings.Repeat("01", 32) +
		strings.Repeat("0", 24) + strings.Repeat("02", 20) + pad + "00000000" +
		pad + "00000000" + pad + "00000000" +
		pad + "000001a0" + pad + "00000000" +
		pad + "00000000" + pad + "00000000" +
		pad + "00000003" + pad + "00000001" + pad + "00000000" + pad + "000000ff"
	if got := hex.EncodeToString([]byte(Write(fitOf(api.TxTransfer)))); got != want {
		tc.Errorf("Write is %s", got)
	}
}

// P20.2, P20.4: bytes are by the chapter's words, and Read takes them back; the greatest ones, too.
func TestThereAndBack(tc *testing.T) {
	seen := map[string]int{}
	for _, kind := range kinds() {
		for i, t := range []api.Tx{fitOf(kind), greatest(kind)} {
			raw := Write(t)
			if raw != bytesOf(t) {
				tc.Errorf("Write of %v is %x", t, raw)
			}
			reads(tc, "back", raw, t, api.OK)
			if seen[raw] > 0 {
				tc.Errorf("%v has another one's bytes", t)
			}
			seen[raw] = 1 + i
		}
	}
}

// P20.2: bytes of no transaction.
func TestReadOthers(tc *testing.T) {
	none := api.Tx{}
	reads(tc, "nothing", "", none, api.ErrForm)
	reads(tc, "a byte", "\x00", none, api.ErrForm)
	reads(tc, "words of 0", rep(0, 11*32), none, api.ErrForm)
	reads(tc, "a channel's bytes", state.WriteFixed(fixed(2)), none, api.ErrForm)
	for _, kind := range kinds() {
		raw := Write(fitOf(kind))
		reads(tc, "a byte more", raw+"\x00", none, api.ErrForm)
		reads(tc, "a word more", raw+rep(0, 32), none, api.ErrForm)
		reads(tc, "a byte ahead", "\x00"+raw, none, api.ErrForm)
		for end := range raw {
			reads(tc, "the beginning", raw[:end], none, api.ErrForm)
		}
	}
}

// P20.2: every other byte makes another transaction, or none: whatever is read is written just so.
func TestReadEachByte(tc *testing.T) {
	for _, kind := range []int{api.TxSend, api.TxDeposit, api.TxCheckpoint, api.TxTransfer, api.TxClaim} {
		raw := []byte(Write(fitOf(kind)))
		for i := range raw {
			for _, by := range []byte{1, 0x80, 0xff} {
				raw[i] ^= by
				t, err := Read(string(raw))
				switch {
				case err == api.OK && (!isFit(t) || bytesOf(t) != string(raw)):
					tc.Errorf("kind %d, byte %d: Read is %v", kind, i, t)
				case err != api.OK && (err != api.ErrForm || !Same(t, api.Tx{})):
					tc.Errorf("kind %d, byte %d: Read is %v, %d", kind, i, t, err)
				}
				raw[i] ^= by
			}
		}
	}
}

// lift is bytes with a word's number more by 2^(8 times so many bytes).
func lift(raw string, word, bytes int) string {
	at := 32*word + 31 - bytes
	return raw[:at] + string([]byte{raw[at] + 1}) + raw[at+1:]
}

// P20.2: a number beyond its field's is none, though its lowest bytes are.
func TestReadBeyond(tc *testing.T) {
	for _, kind := range kinds() {
		raw := Write(fitOf(kind))
		for _, word := range []int{0, 1, 10} {
			reads(tc, fmt.Sprintf("kind %d, word %d above 2^64", kind, word), lift(raw, word, 8), api.Tx{}, api.ErrForm)
			reads(tc, fmt.Sprintf("kind %d, word %d at the highest byte", kind, word), lift(raw, word, 31), api.Tx{}, api.ErrForm)
			reads(tc, fmt.Sprintf("kind %d, word %d above 2^63", kind, word), lift(lift(raw, word, 7), word, 7), api.Tx{}, api.ErrForm)
		}
	}
	for _, kind := range []int{api.TxSend, api.TxDeposit, api.TxTransfer, api.TxClaim} {
		raw := Write(fitOf(kind))
		reads(tc, "an asset of 21 bytes", lift(raw, 5, 20), api.Tx{}, api.ErrForm)
		reads(tc, "an asset of 32 bytes", lift(raw, 5, 31), api.Tx{}, api.ErrForm)
	}
	raw := Write(fitOf(api.TxSend))
	reads(tc, "an address of 21 bytes", lift(raw, 6, 20), api.Tx{}, api.ErrForm)
	reads(tc, "a channel that is not needed", lift(raw, 4, 0), api.Tx{}, api.ErrForm)
	reads(tc, "what is held, which is not needed", lift(raw, 7, 0), api.Tx{}, api.ErrForm)
	reads(tc, "a place that is not needed", lift(raw, 10, 0), api.Tx{}, api.ErrForm)
	raw = Write(fitOf(api.TxClaim))
	reads(tc, "an amount that is not needed", lift(raw, 8, 0), api.Tx{}, api.ErrForm)
	reads(tc, "an address that is not needed", lift(raw, 6, 0), api.Tx{}, api.ErrForm)
	reads(tc, "place 262", lift(raw, 10, 1), api.Tx{}, api.ErrForm)
	raw = Write(fitOf(api.TxTransfer))
	reads(tc, "a place of Which above 2^64", lift(raw, 14, 8), api.Tx{}, api.ErrForm)
	reads(tc, "place 257 of Which", lift(raw, 14, 1), api.Tx{}, api.ErrForm)
	reads(tc, "place 256 of Which", lift(Write(api.Tx{Kind: api.TxTransfer, Channel: ch(1), Asset: at(2), Which: []int{0}}), 14, 1), api.Tx{}, api.ErrForm)
	for kind := 7; kind < 300; kind++ {
		reads(tc, "no kind", together(numPiece(uint64(kind)), numPiece(0), textPiece(""), listPiece(), numPiece(0), numPiece(0), numPiece(0), numPiece(0), numPiece(0), listPiece(), numPiece(0)), api.Tx{}, api.ErrForm)
	}
}

// laidOut is bytes of a proof's kind, of any texts.
func laidOut(f string, l ...piece) string {
	none := numPiece(0)
	return together(numPiece(api.TxConclude), none, textPiece(f), listPiece(l...), none, none, none, none, none, listPiece(), none)
}

// P20.2: texts that are no channel's, no state's, no seal's.
func TestReadTexts(tc *testing.T) {
	f, v, s := state.WriteFixed(fixed(2)), state.Write(stated(1, 0).Var), seal.Write(mark(1, 2))
	blank := state.Write(api.Var{})
	part := func(v string, seals ...string) piece {
		var l []piece
		for _, one := range seals {
			l = append(l, textPiece(one))
		}
		return listPiece(textPiece(v), listPiece(l...))
	}
	good := api.Tx{Kind: api.TxConclude, Fixed: fixed(2), Proof: []api.Signed{{Var: stated(1, 0).Var, Seals: []api.Seal{mark(1, 2)}}}}
	reads(tc, "a good one", laidOut(f, part(v, s)), good, api.OK)
	good.Proof = []api.Signed{{}, {Seals: make([]api.Seal, 4)}, {}, {}}
	full := part(blank, rep(0, 65), rep(0, 65), rep(0, 65), rep(0, 65))
	reads(tc, "zero states", laidOut(f, part(blank), full, part(blank), part(blank)), good, api.OK)
	bad := map[string]string{
		"no channel":               laidOut("", part(v, s)),
		"a channel cut":            laidOut(f[:len(f)-1], part(v, s)),
		"a channel and more":       laidOut(f+rep(0, 32), part(v, s)),
		"another thing's":          laidOut(v, part(v, s)),
		"no state":                 laidOut(f),
		"an empty state":           laidOut(f, part("", s)),
		"a state cut":              laidOut(f, part(v[:len(v)-32], s)),
		"a state and more":         laidOut(f, part(v, s), part(v+"\x00")),
		"a zero state cut":         laidOut(f, part(blank[:len(blank)-32], s)),
		"a seal cut":               laidOut(f, part(v, s, s[:64])),
		"an empty seal":            laidOut(f, part(v, "")),
		"a seal and more":          laidOut(f, part(v, s+"\x00")),
		"a seal's last byte":       laidOut(f, part(v, s[:64]+"\x02")),
		"a zero seal's last":       laidOut(f, part(v, rep(0, 64)+"\x02")),
		"a zero seal cut":          laidOut(f, part(v, rep(0, 64))),
		"five seals":               laidOut(f, part(v, s, s, s, s, s)),
		"five states":              laidOut(f, part(v), part(v), part(v), part(v), part(v)),
		"a state of one term":      laidOut(f, listPiece(textPiece(v))),
		"a state that is a number": laidOut(f, listPiece(numPiece(1), listPiece())),
	}
	for what, raw := range bad {
		reads(tc, what, raw, api.Tx{}, api.ErrForm)
	}
}

// P20.3: Wrap is the bytes and a seal of their sum.
func TestWrap(tc *testing.T) {
	order := curve.Order()
	last, _ := num.Sub(order, num.Of(1))
	for _, kind := range kinds() {
		for _, k := range []api.U{{1}, {2}, {7, 7, 7, 7}, last} {
			t := fitOf(kind)
			raw := bytesOf(t)
			s, err := seal.Make(hash.Sum(raw), k)
			if err != api.OK {
				tc.Fatalf("no seal: %d", err)
			}
			got, err := Wrap(t, k)
			if err != api.OK || got != raw+seal.Write(s) {
				tc.Errorf("Wrap of %v is %x, %d", t, got, err)
			}
			opens(tc, "back", got, t, owner(tc, k), api.OK)
		}
	}
}

// P20.3: what can't be wrapped; that a transaction is not fit comes first.
func TestWrapErrors(tc *testing.T) {
	unfit := fitOf(api.TxSend)
	unfit.Index = 1
	for _, row := range []struct {
		t   api.Tx
		k   api.U
		err api.Errno
	}{
		{fitOf(api.TxSend), api.U{}, api.ErrKey},
		{fitOf(api.TxClaim), curve.Order(), api.ErrKey},
		{fitOf(api.TxConclude), most(), api.ErrKey},
		{unfit, api.U{1}, api.ErrForm},
		{unfit, api.U{}, api.ErrForm},
		{api.Tx{}, api.U{1}, api.ErrForm},
		{api.Tx{Kind: -1}, most(), api.ErrForm},
	} {
		if got, err := Wrap(row.t, row.k); got != "" || err != row.err {
			tc.Errorf("Wrap of %v by %v is %x, %d", row.t, row.k, got, err)
		}
	}
}

// P20.3: what can't be opened, each error ahead of those behind it.
func TestOpenErrors(tc *testing.T) {
	none := api.Tx{}
	t := fitOf(api.TxDeposit)
	raw := Write(t)
	good, _ := Wrap(t, api.U{1})
	last := good[len(raw):]
	for n := range 65 {
		opens(tc, "short", good[len(good)-n:], none, "", api.ErrShort)
		opens(tc, "short", rep(2, n), none, "", api.ErrShort)
	}
	opens(tc, "a seal alone", last, none, "", api.ErrForm)
	opens(tc, "65 bytes", rep(2, 65), none, "", api.ErrForm)
	opens(tc, "a transaction alone", raw, none, "", api.ErrForm)
	opens(tc, "a byte less", good[:len(good)-1], none, "", api.ErrForm)
	opens(tc, "a byte more", good+"\x00", none, "", api.ErrForm)
	opens(tc, "a byte less ahead", good[1:], none, "", api.ErrForm)
	noSeal := rep(0, 65)
	opens(tc, "no transaction, and no seal of anybody", raw[1:]+noSeal, none, "", api.ErrForm)
	opens(tc, "a last byte of 2", raw+last[:64]+"\x02", none, "", api.ErrForm)
	opens(tc, "a last byte of 2, and R of 0", raw+rep(0, 64)+"\x02", none, "", api.ErrForm)
	opens(tc, "R and S of 0", raw+noSeal, none, "", api.ErrSeal)
	opens(tc, "S of 0", raw+last[:32]+rep(0, 32)+last[64:], none, "", api.ErrSeal)
	opens(tc, "R of 0", raw+rep(0, 32)+last[32:], none, "", api.ErrSeal)
	s, _ := seal.Read(last)
	high, _ := num.Sub(curve.Order(), s.S)
	opens(tc, "the higher S", raw+seal.Write(api.Seal{R: s.R, S: high, Odd: !s.Odd}), none, "", api.ErrSeal)
	opens(tc, "the order as R", raw+seal.Write(api.Seal{R: curve.Order(), S: s.S, Odd: s.Odd}), none, "", api.ErrSeal)
	opens(tc, "R without a point", raw+seal.Write(api.Seal{R: api.U{5}, S: s.S, Odd: s.Odd}), none, "", api.ErrSeal)
}

// P20.3: a seal is of all the bytes: of other ones it is another address's.
func TestOpenOthers(tc *testing.T) {
	t := fitOf(api.TxSend)
	good, _ := Wrap(t, api.U{1})
	own := owner(tc, api.U{1})
	t.Nonce++
	raw := Write(t)
	got, who, err := Open(raw + good[len(raw):])
	if err == api.OK && (who == own || len(who) != 20 || !Same(got, t)) || err != api.OK && err != api.ErrSeal {
		tc.Errorf("Open of another one's seal is %v, %x, %d", got, who, err)
	}
	flipped := []byte(good)
	flipped[len(good)-1] ^= 1
	_, who, err = Open(string(flipped))
	if err == api.OK && who == own {
		tc.Error("another seal is the same one's")
	}
}
