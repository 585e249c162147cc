package call

import (
	"math/big"
	"reflect"
	"slices"
	"strings"
	"testing"

	"truce/api"
	"truce/key"
	"truce/num"
	"truce/seal"
	"truce/state"
)

const top = 1<<64 - 1

// most is 2^256 - 1.
func most() api.U { return api.U{top, top, top, top} }

// mix is a fixed row of numbers that look mixed: the tests must go alike each time.
func mix(seed *uint64) uint64 {
	*seed += 0x9e3779b97f4a7c15
	z := *seed
	z = (z ^ z>>30) * 0xbf58476d1ce4e5b9
	z = (z ^ z>>27) * 0x94d049bb133111eb
	return z ^ z>>31
}

func below(seed *uint64, n int) int { return int(mix(seed) % uint64(n)) }

func rep(b byte, n int) string { return strings.Repeat(string([]byte{b}), n) }

// ch is a channel of one byte, over and over.
func ch(b byte) string { return rep(b, 32) }

// at is an address, or an asset.
func at(b byte) string { return rep(b, 20) }

func fixed(parts int) api.Fixed {
	f := api.Fixed{Nonce: 7, App: "app", Time: 60}
	for i := range parts {
		f.Parts = append(f.Parts, at(byte(i+1)))
	}
	return f
}

func mark(r, s uint64) api.Seal { return api.Seal{R: api.U{r}, S: api.U{s}, Odd: r%2 == 1} }

// stated is a state of a turn with so many seals, which needn't be anybody's.
func stated(turn uint64, seals int) api.Signed {
	out := api.Signed{Var: api.Var{Turn: turn, Data: "d", Exits: []api.Exit{{Asset: at(3), Allocs: []api.Alloc{{Dest: ch(4), Amount: api.U{5}}}}}}}
	for i := range seals {
		out.Seals = append(out.Seals, mark(turn, uint64(i)))
	}
	return out
}

// fitOf is a fit transaction of a kind, in new memory.
func fitOf(kind int) api.Tx {
	switch kind {
	case api.TxSend:
		return api.Tx{Kind: kind, Nonce: 3, To: at(1), Asset: at(2), Amount: api.U{5}}
	case api.TxDeposit:
		return api.Tx{Kind: kind, Nonce: 3, Channel: ch(1), Asset: at(2), Expect: api.U{4}, Amount: api.U{5}}
	case api.TxTransfer:
		return api.Tx{Kind: kind, Nonce: 3, Channel: ch(1), Asset: at(2), Which: []int{1, 0, 255}}
	case api.TxClaim:
		return api.Tx{Kind: kind, Nonce: 3, Channel: ch(1), Asset: at(2), Index: 6}
	}
	return api.Tx{Kind: kind, Nonce: 3, Fixed: fixed(2), Proof: []api.Signed{stated(4, 1), stated(5, 2)}}
}

// greatest is a fit one of a kind that has as much as may be.
func greatest(kind int) api.Tx {
	t := fitOf(kind)
	t.Nonce = 1 << 40
	switch kind {
	case api.TxSend:
		t.Amount = most()
	case api.TxDeposit:
		t.Expect, t.Amount = most(), most()
	case api.TxTransfer:
		t.Which = []int{255, 255, 0, 0, 1, 2, 3, 255}
	case api.TxClaim:
		t.Index = 255
	default:
		t.Fixed = fixed(4)
		t.Fixed.Nonce, t.Fixed.App, t.Fixed.Time = top, rep(9, 512), 1<<20
		t.Proof = slices.Repeat([]api.Signed{stated(4, 4)}, 4)
		for i := range t.Proof {
			t.Proof[i].Var = fullVar()
			t.Proof[i].Seals = slices.Repeat([]api.Seal{{R: most(), S: most(), Odd: true}}, 4)
		}
	}
	return t
}

// fullVar is a fit state that has as much as may be.
func fullVar() api.Var {
	out := api.Var{Turn: 1 << 40, Final: true, Data: rep(8, 256)}
	for i := range byte(3) {
		e := api.Exit{Asset: at(i)}
		for range 8 {
			e.Allocs = append(e.Allocs, api.Alloc{Dest: ch(1), Amount: api.U{top, top, top, top >> 3}, Kind: api.PayBound, Left: ch(2), Right: ch(3)})
		}
		out.Exits = append(out.Exits, e)
	}
	return out
}

// isFit is Fit by the chapter's words: what a kind needs is looked at and taken away, and nothing may be left.
func isFit(t api.Tx) bool {
	rest, fits := bare(t), false
	rest.Kind, rest.Nonce = 0, 0
	switch t.Kind {
	case 0:
		fits = len(t.To) == 20 && len(t.Asset) == 20
		rest.To, rest.Asset, rest.Amount = "", "", api.U{}
	case 1:
		fits = len(t.Channel) == 32 && len(t.Asset) == 20
		rest.Channel, rest.Asset, rest.Expect, rest.Amount = "", "", api.U{}, api.U{}
	case 2, 3, 4:
		fits = state.FitFixed(t.Fixed) && len(t.Proof) > 0 && len(t.Proof) < 5
		for _, s := range t.Proof {
			fits = fits && state.FitVar(s.Var) && len(s.Seals) < 5
		}
		rest.Fixed, rest.Proof = api.Fixed{}, nil
	case 5:
		fits = len(t.Channel) == 32 && len(t.Asset) == 20 && len(t.Which) < 9
		for _, i := range t.Which {
			fits = fits && i > -1 && i < 256
		}
		rest.Channel, rest.Asset, rest.Which = "", "", nil
	case 6:
		fits = len(t.Channel) == 32 && len(t.Asset) == 20 && t.Index > -1 && t.Index < 256
		rest.Channel, rest.Asset, rest.Index = "", "", 0
	}
	return fits && t.Nonce <= 1099511627776 && reflect.DeepEqual(rest, api.Tx{})
}

// bare is a transaction in memory of its own whose empty lists are all none.
func bare(t api.Tx) api.Tx {
	t.Fixed.Parts = slices.Concat(t.Fixed.Parts)
	t.Which = slices.Concat(t.Which)
	var l []api.Signed
	for _, s := range t.Proof {
		var exits []api.Exit
		for _, e := range s.Var.Exits {
			exits = append(exits, api.Exit{Asset: e.Asset, Allocs: slices.Concat(e.Allocs)})
		}
		s.Var.Exits = exits
		s.Seals = slices.Concat(s.Seals)
		l = append(l, s)
	}
	t.Proof = l
	return t
}

// roomy is a transaction in memory of its own, with room behind each list, so that a call that writes there is seen.
func roomy(t api.Tx) api.Tx {
	t = bare(t)
	t.Fixed.Parts, t.Which, t.Proof = spare(t.Fixed.Parts), spare(t.Which), spare(t.Proof)
	for i, s := range t.Proof {
		t.Proof[i].Seals, t.Proof[i].Var.Exits = spare(s.Seals), spare(s.Var.Exits)
		for k, e := range t.Proof[i].Var.Exits {
			t.Proof[i].Var.Exits[k].Allocs = spare(e.Allocs)
		}
	}
	return t
}

func spare[T any](l []T) []T {
	if len(l) == 0 {
		return nil
	}
	return append(make([]T, 0, len(l)+3), l...)
}

// behind tells whether there is nothing but zero values in the room behind a transaction's lists.
func behind(t api.Tx) bool {
	ok := isBlank(t.Fixed.Parts) && isBlank(t.Which) && isBlank(t.Proof)
	for _, s := range t.Proof {
		ok = ok && isBlank(s.Seals) && isBlank(s.Var.Exits)
		for _, e := range s.Var.Exits {
			ok = ok && isBlank(e.Allocs)
		}
	}
	return ok
}

func isBlank[T any](l []T) bool {
	for _, x := range l[len(l):cap(l)] {
		if !reflect.ValueOf(x).IsZero() {
			return false
		}
	}
	return true
}

// wipe overwrites all memory of a transaction.
func wipe(t api.Tx) {
	for _, s := range t.Proof {
		for _, e := range s.Var.Exits {
			clear(e.Allocs[:cap(e.Allocs)])
		}
		clear(s.Var.Exits[:cap(s.Var.Exits)])
		clear(s.Seals[:cap(s.Seals)])
	}
	clear(t.Proof[:cap(t.Proof)])
	clear(t.Fixed.Parts[:cap(t.Fixed.Parts)])
	clear(t.Which[:cap(t.Which)])
}

// piece is one thing as words: a number's word, or a tail.
type piece struct {
	word string
	tail string
	dyn  bool
}

func wordOf(n *big.Int) string { return string(n.FillBytes(make([]byte, 32))) }

func count(n int) string { return wordOf(big.NewInt(int64(n))) }

func numPiece(n uint64) piece { return piece{word: wordOf(new(big.Int).SetUint64(n))} }

func bigPiece(u api.U) piece { return piece{word: wordOf(large(u))} }

// bytesPiece is a text as a number: at most 32 bytes, the lowest last.
func bytesPiece(s string) piece { return piece{word: rep(0, 32-len(s)) + s} }

func textPiece(s string) piece {
	return piece{dyn: true, tail: count(len(s)) + s + rep(0, (32-len(s)%32)%32)}
}

func listPiece(l ...piece) piece { return piece{dyn: true, tail: count(len(l)) + together(l...)} }

// together is pieces as bytes, by the words of chapter 9: a word for each, then the tails.
func together(l ...piece) string {
	words, tails := "", ""
	for _, p := range l {
		if !p.dyn {
			words += p.word
			continue
		}
		words += count(32*len(l) + len(tails))
		tails += p.tail
	}
	return words + tails
}

// bytesOf is a fit transaction's bytes by the chapter's words, in the order of its sentence.
func bytesOf(t api.Tx) string {
	f := ""
	if len(t.Fixed.Parts) > 0 {
		f = state.WriteFixed(t.Fixed)
	}
	var proofs, places []piece
	for _, s := range t.Proof {
		var seals []piece
		for _, one := range s.Seals {
			seals = append(seals, textPiece(seal.Write(one)))
		}
		proofs = append(proofs, listPiece(textPiece(state.Write(s.Var)), listPiece(seals...)))
	}
	for _, i := range t.Which {
		places = append(places, numPiece(uint64(i)))
	}
	return together(numPiece(uint64(t.Kind)), numPiece(t.Nonce), textPiece(f), listPiece(proofs...),
		bytesPiece(t.Channel), bytesPiece(t.Asset), bytesPiece(t.To), bigPiece(t.Expect), bigPiece(t.Amount),
		listPiece(places...), numPiece(uint64(t.Index)))
}

// large is a number as one of any size.
func large(u api.U) *big.Int { return new(big.Int).SetBytes([]byte(num.Bytes(u))) }

// owner is the address of a key.
func owner(t testing.TB, k api.U) string {
	t.Helper()
	who, err := key.Who(k)
	if err != api.OK {
		t.Fatalf("no key %v", k)
	}
	return who
}

// reads fails the test unless Read tells just this of some bytes.
func reads(t *testing.T, what, s string, want api.Tx, e api.Errno) {
	t.Helper()
	got, err := Read(s)
	if err != e || !reflect.DeepEqual(got, want) {
		t.Errorf("%s: Read is %v, %d, want %v, %d", what, got, err, want, e)
	}
}

// opens fails the test unless Open tells just this of some bytes.
func opens(t *testing.T, what, s string, want api.Tx, who string, e api.Errno) {
	t.Helper()
	got, by, err := Open(s)
	if err != e || by != who || !reflect.DeepEqual(got, want) {
		t.Errorf("%s: Open is %v, %x, %d, want %v, %x, %d", what, got, by, err, want, who, e)
	}
}
