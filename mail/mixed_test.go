package mail

import (
	"reflect"
	"testing"

	"truce/api"
	"truce/word"
)

func mixedNumber(seed *uint64) api.U {
	var out api.U
	for i := range below(seed, 5) {
		out[i] = mix(seed)
	}
	return out
}

// mixedText is of the length that is asked for, now and then of one more or less.
func mixedText(seed *uint64, n int) string {
	switch below(seed, 150) {
	case 0:
		n++
	case 1:
		n--
	}
	raw := make([]byte, n)
	for i := range raw {
		raw[i] = byte(mix(seed)) & byte(mix(seed))
	}
	return string(raw)
}

func mixedFixed(seed *uint64) api.Fixed {
	f := fixed(2 + below(seed, 3))
	f.Nonce, f.App, f.Time = mix(seed)>>below(seed, 64), mixedText(seed, 1+below(seed, 100)), 1+below(seed, 1<<20)
	switch below(seed, 25) {
	case 0:
		f.Time = []int{0, -1, 1<<20 + 1, -1 << 63}[below(seed, 4)]
	case 1:
		f.Parts = fixed([]int{0, 1, 5, 8}[below(seed, 4)]).Parts
	case 2:
		f.Parts[0] = f.Parts[1]
	case 3:
		f.Parts[1] = mixedText(seed, 20)
	case 4:
		f.App = rep(1, 510+below(seed, 5))
	}
	return f
}

func mixedAlloc(seed *uint64) api.Alloc {
	a := api.Alloc{Dest: mixedText(seed, 32), Amount: mixedNumber(seed)}
	a.Amount[3] >>= 4
	if below(seed, 4) == 0 {
		a.Kind, a.Left, a.Right = api.PayBound, mixedText(seed, 32), mixedText(seed, 32)
	}
	if below(seed, 150) == 0 {
		a.Kind = below(seed, 4) - 1
	}
	return a
}

// mixedVar is a state, mostly a fit one.
func mixedVar(seed *uint64) api.Var {
	v := api.Var{Turn: mix(seed) >> uint(23+below(seed, 41)), Final: below(seed, 2) == 0, Data: rep(7, below(seed, 257))}
	v.Exits = []api.Exit{}
	for i := range below(seed, 4) {
		e := api.Exit{Asset: at(byte(5*i + below(seed, 6))), Allocs: []api.Alloc{}}
		for range below(seed, 5) {
			e.Allocs = append(e.Allocs, mixedAlloc(seed))
		}
		v.Exits = append(v.Exits, e)
	}
	return v
}

// mixedMail is a mail, more often fit than not.
func mixedMail(seed *uint64) api.Mail {
	m := api.Mail{Fixed: mixedFixed(seed), Signed: api.Signed{Var: mixedVar(seed), Seals: []api.Seal{}}}
	n := 1 + below(seed, 4)
	if below(seed, 8) == 0 {
		n = below(seed, 7)
	}
	for range n {
		m.Signed.Seals = append(m.Signed.Seals, api.Seal{R: mixedNumber(seed), S: mixedNumber(seed), Odd: below(seed, 2) == 0})
	}
	return m
}

// P28.1, P28.2, P28.3: fit ones go there and back, others have no bytes; no call changes what it is given, nor keeps it.
func TestMixed(t *testing.T) {
	seed, fit := uint64(28), 0
	seen := map[string]api.Mail{}
	for range 4000 {
		m := mixedMail(&seed)
		given := roomy(m)
		want := isFit(m)
		if got := Fit(given); got != want {
			t.Fatalf("Fit is %v of %s", got, spelled(m))
		}
		raw := Write(given)
		if !reflect.DeepEqual(bare(given), bare(m)) || !behind(given) {
			t.Fatalf("%s was changed", spelled(m))
		}
		wipe(given)
		if !want {
			if raw != "" {
				t.Fatalf("Write has %d bytes of %s", len(raw), spelled(m))
			}
			continue
		}
		fit++
		if raw != bytesOf(m) {
			t.Fatalf("Write of %s is %x", spelled(m), raw)
		}
		if other, there := seen[raw]; there && !Same(m, other) {
			t.Fatalf("%s and %s have the same bytes", spelled(m), spelled(other))
		}
		seen[raw] = m
		reads(t, "mixed", raw, bare(m), api.OK)
	}
	if fit < 2000 || fit > 3600 {
		t.Errorf("%d of 4000 are fit", fit)
	}
}

// P28.1: Same by reflection over mixed pairs, most of them near each other.
func TestMixedSame(t *testing.T) {
	seed, alike := uint64(29), 0
	for range 4000 {
		s := seed
		a := mixedMail(&seed)
		b := mixedMail(&s)
		switch below(&seed, 4) {
		case 0:
			b.Signed.Seals = mixedMail(&seed).Signed.Seals
		case 1:
			b.Signed.Var.Exits = mixedMail(&seed).Signed.Var.Exits
		case 2:
			b.Fixed.App = mixedText(&seed, 1+below(&seed, 2))
		}
		want := reflect.DeepEqual(bare(a), bare(b))
		if got := Same(roomy(a), b); got != want {
			t.Fatalf("Same is %v of %s and %s", got, spelled(a), spelled(b))
		}
		if want {
			alike++
		}
	}
	if alike < 800 || alike > 2000 {
		t.Errorf("%d of 4000 are the same", alike)
	}
}

// mailTerms is any mail's terms, by the texts that its parts have as bytes.
func mailTerms(seed *uint64) []api.Term {
	m := mixedMail(seed)
	for !isFit(m) {
		m = mixedMail(seed)
	}
	l, err := word.Decode("tt[t]", bytesOf(m))
	if err != api.OK {
		return nil
	}
	return l
}

// spoil changes a text somewhere, or how many seals there are, as often as not.
func spoil(seed *uint64, l []api.Term) {
	seals := &l[2].List
	of := &l[below(seed, 2)]
	switch below(seed, 6) {
	case 0:
		of.Text = of.Text[:below(seed, len(of.Text)+1)] + rep(byte(mix(seed)), below(seed, 3))
	case 1:
		raw := []byte(of.Text)
		raw[below(seed, len(raw))] ^= byte(1 << below(seed, 8))
		of.Text = string(raw)
	case 2:
		for range below(seed, 9) {
			*seals = append(*seals, (*seals)[0])
		}
	case 3:
		at := below(seed, len(*seals))
		(*seals)[at].Text = (*seals)[at].Text[:63+below(seed, 3)] + rep(byte(below(seed, 4)), below(seed, 3))
	}
}

// P28.2, P28.3: terms of a mail's form, of any texts, are read only where they are one's bytes.
func TestMixedTerms(t *testing.T) {
	seed, read := uint64(30), 0
	for range 4000 {
		l := mailTerms(&seed)
		spoil(&seed, l)
		raw := word.Encode(l)
		m, err := Read(raw)
		switch {
		case err == api.OK && isFit(m) && bytesOf(m) == raw:
			read++
		case err != api.ErrForm || !reflect.DeepEqual(m, api.Mail{}):
			t.Fatalf("Read of %d bytes is %s, %d", len(raw), spelled(m), err)
		case isFitTerms(l):
			t.Fatalf("Read refuses %d bytes of a mail", len(raw))
		}
	}
	if read < 1500 || read > 3500 {
		t.Errorf("%d of 4000 are read", read)
	}
}

// 0.1, P28.2: no call panics, whatever it is given.
func TestAnything(t *testing.T) {
	seed := uint64(31)
	for range 3000 {
		raw := make([]byte, below(&seed, 900))
		for i := range raw {
			raw[i] = byte(mix(&seed)) & byte(mix(&seed)) & byte(mix(&seed))
		}
		refuses(t, "anything", string(raw))
		m := mixedMail(&seed)
		m.Fixed.Time, m.Signed.Seals = int(mix(&seed)>>1|1<<30), make([]api.Seal, below(&seed, 2000))
		fits(t, "anything", m, false)
	}
	huge := plain(1)
	huge.Fixed.App, huge.Signed.Var.Data = rep(1, 1<<20), rep(1, 1<<20)
	huge.Fixed.Parts = make([]string, 1<<16)
	fits(t, "a huge one", huge, false)
	refuses(t, "many bytes", rep(0, 1<<20))
	refuses(t, "many bytes", rep(0xff, 1<<20))
}
