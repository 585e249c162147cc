package call

import (
	"reflect"
	"testing"

	"truce/api"
	"truce/hash"
	"truce/seal"
	"truce/word"
)

// mixedText is mostly of the length that is asked for, sometimes of one beside it.
func mixedText(seed *uint64, n int) string {
	switch below(seed, 40) {
	case 0:
		n++
	case 1:
		n--
	case 2:
		n = below(seed, 40)
	}
	raw := make([]byte, n)
	for i := range raw {
		raw[i] = byte(mix(seed)) & byte(mix(seed))
	}
	return string(raw)
}

func mixedNumber(seed *uint64) api.U {
	var out api.U
	for i := range below(seed, 5) {
		out[i] = mix(seed)
	}
	return out
}

func mixedPlace(seed *uint64) int {
	if below(seed, 60) == 0 {
		return []int{-1, 256, 1 << 40, -1 << 63}[below(seed, 4)]
	}
	return below(seed, 256)
}

func mixedWhich(seed *uint64) []int {
	out := []int{}
	for range below(seed, 10) {
		out = append(out, mixedPlace(seed))
	}
	return out
}

func mixedFixed(seed *uint64) api.Fixed {
	f := fixed(2 + below(seed, 3))
	f.Nonce, f.App, f.Time = mix(seed), rep(byte(mix(seed)), below(seed, 100)), 1+below(seed, 1<<20)
	if below(seed, 20) == 0 {
		f.Time = []int{0, -1, 1<<20 + 1}[below(seed, 3)]
	}
	return f
}

func mixedSigned(seed *uint64) api.Signed {
	out := stated(mix(seed)>>uint(23+below(seed, 41)), 0)
	out.Var.Final, out.Var.Data = below(seed, 2) == 0, rep(7, below(seed, 258))
	for range below(seed, 5) {
		out.Seals = append(out.Seals, api.Seal{R: mixedNumber(seed), S: mixedNumber(seed), Odd: below(seed, 2) == 0})
	}
	if below(seed, 3) == 0 {
		out.Var.Exits = []api.Exit{}
	}
	if below(seed, 40) == 0 {
		out.Seals = make([]api.Seal, 5)
	}
	return out
}

func mixedProof(seed *uint64) []api.Signed {
	out := []api.Signed{}
	for range below(seed, 6) {
		out = append(out, mixedSigned(seed))
	}
	return out
}

// mixedTx is one of a kind, often fit: what the kind needs is laid in, and now and then something more.
func mixedTx(seed *uint64) api.Tx {
	t := api.Tx{Kind: below(seed, 7), Nonce: mix(seed) >> uint(23+below(seed, 41))}
	lay := []func(){
		func() { t.To = mixedText(seed, 20) },
		func() { t.Asset = mixedText(seed, 20) },
		func() { t.Amount = mixedNumber(seed) },
		func() { t.Channel = mixedText(seed, 32) },
		func() { t.Expect = mixedNumber(seed) },
		func() { t.Fixed = mixedFixed(seed) },
		func() { t.Proof = mixedProof(seed) },
		func() { t.Which = mixedWhich(seed) },
		func() { t.Index = mixedPlace(seed) },
	}
	for _, i := range [][]int{{0, 1, 2}, {1, 2, 3, 4}, {5, 6}, {5, 6}, {5, 6}, {1, 3, 7}, {1, 3, 8}}[t.Kind] {
		lay[i]()
	}
	if below(seed, 4) == 0 {
		lay[below(seed, len(lay))]()
	}
	if below(seed, 30) == 0 {
		t.Kind = below(seed, 12) - 2
	}
	return t
}

// P20.1, P20.2, P20.4: fit ones go there and back, others have no bytes; no call changes what it is given, nor keeps it.
func TestMixed(tc *testing.T) {
	seed, fit := uint64(20), 0
	seen := map[string]api.Tx{}
	for range 4000 {
		t := mixedTx(&seed)
		given := roomy(t)
		want := isFit(t)
		if got := Fit(given); got != want {
			tc.Fatalf("Fit is %v of %v", got, t)
		}
		raw := Write(given)
		if !reflect.DeepEqual(bare(given), bare(t)) || !behind(given) {
			tc.Fatalf("%v was changed", t)
		}
		wipe(given)
		if !want {
			if raw != "" {
				tc.Fatalf("Write is %x of %v", raw, t)
			}
			continue
		}
		fit++
		if raw != bytesOf(t) {
			tc.Fatalf("Write of %v is %x", t, raw)
		}
		if other, there := seen[raw]; there && !Same(t, other) {
			tc.Fatalf("%v and %v have the same bytes", t, other)
		}
		seen[raw] = t
		reads(tc, "mixed", raw, bare(t), api.OK)
	}
	if fit < 1500 || fit > 3500 {
		tc.Errorf("%d of 4000 are fit", fit)
	}
}

// P20.1: Same by reflection over mixed pairs, most of them near each other.
func TestMixedSame(tc *testing.T) {
	seed := uint64(21)
	for range 4000 {
		s := seed
		a := mixedTx(&seed)
		b := mixedTx(&s)
		if below(&seed, 2) == 0 {
			b = mixedTx(&seed)
			b.Kind = a.Kind
		}
		if got := Same(roomy(a), b); got != reflect.DeepEqual(bare(a), bare(b)) {
			tc.Fatalf("Same is %v of %v and %v", got, a, b)
		}
	}
}

// P20.3: Open of bytes that were changed somewhere tells what the chapter's words tell of its parts.
func TestMixedOpen(tc *testing.T) {
	seed := uint64(22)
	for i := range 700 {
		t := fitOf(below(&seed, 7))
		s, err := Wrap(t, api.U{uint64(1 + i%5)})
		if err != api.OK {
			tc.Fatalf("Wrap is %d", err)
		}
		raw := []byte(s)
		for range below(&seed, 3) {
			raw[len(raw)-1-below(&seed, 1+below(&seed, len(raw)))] ^= byte(1 << below(&seed, 8))
		}
		given := string(raw[:len(raw)-below(&seed, 2)*below(&seed, len(raw)+1)])
		want, who, e := opened(given)
		opens(tc, "mixed", given, want, who, e)
	}
}

// opened is Open by the chapter's words.
func opened(s string) (api.Tx, string, api.Errno) {
	if len(s) < 65 {
		return api.Tx{}, "", api.ErrShort
	}
	raw := s[:len(s)-65]
	t, err := Read(raw)
	if err != api.OK {
		return api.Tx{}, "", err
	}
	one, err := seal.Read(s[len(raw):])
	if err != api.OK {
		return api.Tx{}, "", api.ErrForm
	}
	who, err := seal.Who(hash.Sum(raw), one)
	if err != api.OK {
		return api.Tx{}, "", err
	}
	return t, who, api.OK
}

// 0.1, P20.2: terms of a transaction's form, of any numbers and texts, are read only where they are one's bytes.
func TestMixedTerms(tc *testing.T) {
	seed, read := uint64(23), 0
	for range 4000 {
		l := terms(bare(mixedTx(&seed)))
		spoilTerm(&seed, l)
		raw := word.Encode(l)
		t, err := Read(raw)
		switch {
		case err == api.OK && isFit(t) && bytesOf(t) == raw:
			read++
		case err != api.ErrForm || !reflect.DeepEqual(t, api.Tx{}):
			tc.Fatalf("Read of %v is %v, %d", l, t, err)
		}
	}
	if read < 300 {
		tc.Errorf("%d of 4000 are read", read)
	}
}

// spoilTerm changes one of some terms, or one within it, as often as not.
func spoilTerm(seed *uint64, l []api.Term) {
	if len(l) == 0 || below(seed, 2) == 0 {
		return
	}
	t := &l[below(seed, len(l))]
	switch t.Kind {
	case api.TmNum:
		t.Num = mixedNumber(seed)
	case api.TmText:
		t.Text = t.Text[:below(seed, len(t.Text)+1)] + rep(byte(mix(seed)), below(seed, 3))
	case api.TmList:
		spoilTerm(seed, t.List)
	}
}

// 0.5: two answers of Read share nothing.
func TestReadOwnMemory(tc *testing.T) {
	for _, kind := range kinds() {
		raw := Write(greatest(kind))
		first, _ := Read(raw)
		second, _ := Read(raw)
		wipe(first)
		if !reflect.DeepEqual(second, greatest(kind)) {
			tc.Errorf("kind %d: a second answer was changed", kind)
		}
	}
	twice := fitOf(api.TxChallenge)
	twice.Proof = []api.Signed{stated(4, 2), stated(4, 2)}
	got, _ := Read(Write(twice))
	got.Proof[0].Seals[0], got.Proof[0].Var.Exits[0].Allocs[0] = api.Seal{}, api.Alloc{}
	if !reflect.DeepEqual(got.Proof[1], twice.Proof[1]) {
		tc.Error("two states of one answer share memory")
	}
}

// 0.1: no call panics, whatever it is given.
func TestAnything(tc *testing.T) {
	seed := uint64(24)
	for range 3000 {
		raw := make([]byte, below(&seed, 900))
		for i := range raw {
			raw[i] = byte(mix(&seed)) & byte(mix(&seed)) & byte(mix(&seed))
		}
		reads(tc, "anything", string(raw), api.Tx{}, api.ErrForm)
		t := mixedTx(&seed)
		t.Kind, t.Index, t.Which = int(mix(&seed)), int(mix(&seed)), []int{int(mix(&seed))}
		fits(tc, "anything", t, false)
	}
}
