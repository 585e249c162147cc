package mail

import (
	"encoding/hex"
	"fmt"
	"reflect"
	"strings"
	"testing"

	"truce/api"
	"truce/key"
	"truce/seal"
	"truce/state"
)

// P28.1, P28.2: the chapter's example.
func TestExample(t *testing.T) {
	fits(t, "without a seal", plain(0), false)
	if raw := Write(plain(0)); raw != "" {
		t.Errorf("Write of a mail without a seal has %d bytes", len(raw))
	}
	refuses(t, "nothing", "")
}

// changes lay something into a mail's one part; whether a fit one is still fit then.
func changes() map[string]func(*api.Mail) bool {
	return map[string]func(*api.Mail) bool{
		"no seals":          func(m *api.Mail) bool { m.Signed.Seals = nil; return false },
		"an empty list":     func(m *api.Mail) bool { m.Signed.Seals = []api.Seal{}; return false },
		"a zero seal":       func(m *api.Mail) bool { m.Signed.Seals = make([]api.Seal, 1); return true },
		"four seals":        func(m *api.Mail) bool { m.Signed.Seals = make([]api.Seal, 4); return true },
		"five seals":        func(m *api.Mail) bool { m.Signed.Seals = make([]api.Seal, 5); return false },
		"64 seals":          func(m *api.Mail) bool { m.Signed.Seals = make([]api.Seal, 64); return false },
		"65 seals":          func(m *api.Mail) bool { m.Signed.Seals = make([]api.Seal, 65); return false },
		"no channel":        func(m *api.Mail) bool { m.Fixed = api.Fixed{}; return false },
		"one participant":   func(m *api.Mail) bool { m.Fixed.Parts = m.Fixed.Parts[:1]; return false },
		"four participants": func(m *api.Mail) bool { m.Fixed.Parts = fixed(4).Parts; return true },
		"five participants": func(m *api.Mail) bool { m.Fixed.Parts = fixed(5).Parts; return false },
		"one twice":         func(m *api.Mail) bool { m.Fixed.Parts[1] = m.Fixed.Parts[0]; return false },
		"a short address":   func(m *api.Mail) bool { m.Fixed.Parts[1] = rep(7, 19); return false },
		"a nonce":           func(m *api.Mail) bool { m.Fixed.Nonce = top; return true },
		"a code of 512":     func(m *api.Mail) bool { m.Fixed.App = rep(1, 512); return true },
		"a code of 513":     func(m *api.Mail) bool { m.Fixed.App = rep(1, 513); return false },
		"time 0":            func(m *api.Mail) bool { m.Fixed.Time = 0; return false },
		"time -1":           func(m *api.Mail) bool { m.Fixed.Time = -1; return false },
		"time 2^20":         func(m *api.Mail) bool { m.Fixed.Time = 1 << 20; return true },
		"time above 2^20":   func(m *api.Mail) bool { m.Fixed.Time = 1<<20 + 1; return false },
		"turn 0":            func(m *api.Mail) bool { m.Signed.Var.Turn = 0; return true },
		"turn 2^40":         func(m *api.Mail) bool { m.Signed.Var.Turn = 1 << 40; return true },
		"turn above 2^40":   func(m *api.Mail) bool { m.Signed.Var.Turn = 1<<40 + 1; return false },
		"final":             func(m *api.Mail) bool { m.Signed.Var.Final = true; return true },
		"data of 256":       func(m *api.Mail) bool { m.Signed.Var.Data = rep(1, 256); return true },
		"data of 257":       func(m *api.Mail) bool { m.Signed.Var.Data = rep(1, 257); return false },
		"a zero state":      func(m *api.Mail) bool { m.Signed.Var = api.Var{}; return true },
		"no exits":          func(m *api.Mail) bool { m.Signed.Var.Exits = nil; return true },
		"three exits": func(m *api.Mail) bool {
			m.Signed.Var.Exits = []api.Exit{{Asset: at(1)}, {Asset: at(2)}, {Asset: at(3)}}
			return true
		},
		"four exits": func(m *api.Mail) bool {
			m.Signed.Var.Exits = []api.Exit{{Asset: at(1)}, {Asset: at(2)}, {Asset: at(3)}, {Asset: at(4)}}
			return false
		},
		"an asset twice": func(m *api.Mail) bool {
			m.Signed.Var.Exits = []api.Exit{{Asset: at(1)}, {Asset: at(1)}}
			return false
		},
		"eight allocations": func(m *api.Mail) bool { return lays(m, 8) },
		"nine allocations":  func(m *api.Mail) bool { return !lays(m, 9) },
		"a short destination": func(m *api.Mail) bool {
			m.Signed.Var.Exits[0].Allocs[0].Dest = rep(1, 31)
			return false
		},
		"more than can be": func(m *api.Mail) bool {
			m.Signed.Var.Exits[0].Allocs = []api.Alloc{{Dest: dest(1), Amount: most()}, {Dest: dest(1), Amount: api.U{1}}}
			return false
		},
		"as much as can be": func(m *api.Mail) bool {
			m.Signed.Var.Exits[0].Allocs = []api.Alloc{{Dest: dest(1), Amount: most()}, {Dest: dest(1)}}
			return true
		},
		"bound money": func(m *api.Mail) bool {
			m.Signed.Var.Exits[0].Allocs[0] = api.Alloc{Dest: dest(1), Kind: api.PayBound, Left: dest(2), Right: dest(3)}
			return true
		},
		"bound to one": func(m *api.Mail) bool {
			m.Signed.Var.Exits[0].Allocs[0] = api.Alloc{Dest: dest(1), Kind: api.PayBound, Left: dest(2)}
			return false
		},
		"another kind": func(m *api.Mail) bool { m.Signed.Var.Exits[0].Allocs[0].Kind = 2; return false },
	}
}

// lays lays so many allocations into a mail's first exit.
func lays(m *api.Mail, n int) bool {
	m.Signed.Var.Exits[0].Allocs = nil
	for range n {
		m.Signed.Var.Exits[0].Allocs = append(m.Signed.Var.Exits[0].Allocs, api.Alloc{Dest: dest(1)})
	}
	return true
}

// P28.1, P28.2: what a mail needs, one by one; Write goes by it, and what is fit goes there and back.
func TestFit(t *testing.T) {
	for what, change := range changes() {
		m := plain(2)
		want := change(&m)
		fits(t, what, m, want)
		if isFit(m) != want {
			t.Errorf("%s: the tests' own words tell otherwise", what)
		}
		if want {
			reads(t, what, bytesOf(m), bare(m), api.OK)
		}
	}
	fits(t, "nothing", api.Mail{}, false)
	fits(t, "as much as may be", greatest(), true)
	fits(t, "as little as may be", least(), true)
}

// P28.1: how many seals there are is asked, not how many participants, nor whose the seals are.
func TestFitSeals(t *testing.T) {
	for parts := 0; parts < 7; parts++ {
		for seals := 0; seals < 9; seals++ {
			m := plain(seals)
			m.Fixed = fixed(parts)
			fits(t, fmt.Sprintf("%d parts, %d seals", parts, seals), m, 2 <= parts && parts <= 4 && 1 <= seals && seals <= 4)
		}
	}
	m := plain(0)
	m.Signed.Seals = []api.Seal{mark(1, 2), mark(1, 2), mark(1, 2)}
	fits(t, "one seal thrice", m, true)
	m.Signed.Seals = []api.Seal{{R: most(), S: most()}}
	fits(t, "a seal of no numbers that can be", m, true)
}

// P28.1: Same goes field by field.
func TestSame(t *testing.T) {
	all := []api.Mail{{}, plain(0), plain(1), plain(2), plain(4), plain(9), greatest(), least()}
	for _, change := range []func(*api.Mail){
		func(m *api.Mail) { m.Fixed.Parts[1] = at(77) }, func(m *api.Mail) { m.Fixed.Parts = m.Fixed.Parts[:1] },
		func(m *api.Mail) { m.Fixed.Parts = fixed(4).Parts }, func(m *api.Mail) { m.Fixed.Parts = nil },
		func(m *api.Mail) { m.Fixed.Parts[0], m.Fixed.Parts[1] = m.Fixed.Parts[1], m.Fixed.Parts[0] },
		func(m *api.Mail) { m.Fixed.Nonce++ }, func(m *api.Mail) { m.Fixed.App = "apq" }, func(m *api.Mail) { m.Fixed.Time++ },
		func(m *api.Mail) { m.Signed.Var.Turn++ }, func(m *api.Mail) { m.Signed.Var.Final = true },
		func(m *api.Mail) { m.Signed.Var.Data = "e" }, func(m *api.Mail) { m.Signed.Var.Exits = nil },
		func(m *api.Mail) { m.Signed.Var.Exits[0].Asset = at(4) }, func(m *api.Mail) { m.Signed.Var.Exits[0].Allocs = nil },
		func(m *api.Mail) { m.Signed.Var.Exits[0].Allocs[0].Amount = api.U{5, 1} },
		func(m *api.Mail) { m.Signed.Var.Exits[0].Allocs[0].Dest = dest(5) },
		func(m *api.Mail) { m.Signed.Var.Exits[0].Allocs[0].Kind = 1 },
		func(m *api.Mail) { m.Signed.Var.Exits[0].Allocs[0].Left = dest(5) },
		func(m *api.Mail) { m.Signed.Var.Exits[0].Allocs[0].Right = dest(5) },
		func(m *api.Mail) { m.Signed.Seals[0].R[3] = 1 }, func(m *api.Mail) { m.Signed.Seals[2].S[0] = 9 },
		func(m *api.Mail) { m.Signed.Seals[2].Odd = false },
		func(m *api.Mail) { m.Signed.Seals[0], m.Signed.Seals[1] = m.Signed.Seals[1], m.Signed.Seals[0] },
	} {
		m := plain(3)
		change(&m)
		all = append(all, m)
	}
	for i, a := range all {
		for k, b := range all {
			if Same(bare(a), bare(b)) != (i == k) {
				t.Errorf("Same is %v of %s (%d) and %s (%d)", i != k, spelled(a), i, spelled(b), k)
			}
		}
	}
	empty := api.Mail{Fixed: api.Fixed{Parts: []string{}}, Signed: api.Signed{Var: api.Var{Exits: []api.Exit{}}, Seals: []api.Seal{}}}
	if !Same(api.Mail{}, empty) || !Same(empty, api.Mail{}) {
		t.Error("an empty list is none")
	}
}

// P28.2: a mail's bytes, written out by hand.
func TestWriteKnown(t *testing.T) {
	m := least()
	m.Signed.Seals = []api.Seal{{R: api.U{0x11}, S: api.U{0x22}, Odd: true}, {R: api.U{0x33}}}
	word := func(n string) string { return strings.Repeat("0", 64-len(n)) + n }
	want := word("60") + word("180") + word("260") + // where the channel is, the state, the seals
		word("100") + // the channel's 256 bytes
		word("80") + word("0") + word("e0") + word("1") + // where its participants are, Nonce, where App is, Time
		word("2") + word("0") + word(strings.Repeat("01", 20)) + word("0") + // two participants, no App
		word("c0") + // the state's 192 bytes
		word("0") + word("0") + word("80") + word("a0") + // Turn, Final, where Data is, where its exits are
		word("0") + word("0") + // none of both
		word("2") + word("40") + word("c0") + // two seals, and where they are
		word("41") + word("11") + word("22") + "01" + strings.Repeat("0", 62) +
		word("41") + word("33") + word("0") + word("0")
	if got := hex.EncodeToString([]byte(Write(m))); got != want {
		t.Errorf("Write is\n%s, want\n%s", got, want)
	}
	reads(t, "known", Write(m), m, api.OK)
}

// P28.2, P28.3: bytes are by the chapter's words, and Read takes them back; unlike ones have unlike ones.
func TestThereAndBack(t *testing.T) {
	seen := map[string]int{}
	for i, m := range []api.Mail{plain(1), plain(2), plain(3), plain(4), greatest(), least()} {
		raw := Write(m)
		if raw != bytesOf(m) {
			t.Errorf("Write of %s is %x", spelled(m), raw)
		}
		reads(t, "back", raw, m, api.OK)
		if seen[raw] > 0 {
			t.Errorf("%s has another one's bytes", spelled(m))
		}
		seen[raw] = 1 + i
	}
}

// P28.3: what was sealed by keys is theirs when it is read.
func TestSealed(t *testing.T) {
	m := plain(0)
	m.Fixed.Parts = nil
	for n := range uint64(4) {
		who, err := key.Who(key.Small(n))
		if err != api.OK {
			t.Fatalf("no key: %d", err)
		}
		m.Fixed.Parts = append(m.Fixed.Parts, who)
	}
	for n := range uint64(4) {
		m.Signed.Seals = append(m.Signed.Seals, keySeal(t, m, key.Small(n)))
		got, err := Read(Write(m))
		if err != api.OK || !Same(got, m) {
			t.Fatalf("Read of %s is %s, %d", spelled(m), spelled(got), err)
		}
		who, err := seal.Who(state.Digest(got.Fixed, got.Signed.Var), got.Signed.Seals[n])
		if err != api.OK || who != m.Fixed.Parts[n] {
			t.Errorf("seal %d is of %x, %d", n, who, err)
		}
	}
}

// P28.2: bytes of no mail.
func TestReadOthers(t *testing.T) {
	refuses(t, "a byte", "\x00")
	refuses(t, "words of 0", rep(0, 3*32))
	refuses(t, "a channel's bytes", state.WriteFixed(fixed(2)))
	refuses(t, "a state's bytes", state.Write(plain(1).Signed.Var))
	refuses(t, "a seal's bytes", seal.Write(mark(1, 2)))
	for _, m := range []api.Mail{plain(1), plain(2), plain(4), least()} {
		raw := Write(m)
		refuses(t, "a byte more", raw+"\x00")
		refuses(t, "a word more", raw+rep(0, 32))
		refuses(t, "twice", raw+raw)
		refuses(t, "a byte ahead", "\x00"+raw)
		refuses(t, "a word ahead", rep(0, 32)+raw)
		for end := range raw {
			refuses(t, "the beginning", raw[:end])
		}
	}
}

// P28.2, P28.3: every other byte makes another mail, or none: whatever is read has just these bytes.
func TestReadEachByte(t *testing.T) {
	read := 0
	for _, m := range []api.Mail{plain(2), least()} {
		raw := []byte(Write(m))
		for i := range raw {
			for _, by := range []byte{1, 2, 0x80, 0xff} {
				raw[i] ^= by
				got, err := Read(string(raw))
				switch {
				case err == api.OK && isFit(got) && bytesOf(got) == string(raw) && !Same(got, m):
					read++
				case err != api.ErrForm || !Same(got, api.Mail{}):
					t.Errorf("byte %d: Read is %s, %d", i, spelled(got), err)
				}
				raw[i] ^= by
			}
		}
	}
	if read < 500 {
		t.Errorf("%d are read", read)
	}
}

// P28.2: texts that are no channel's, no state's, no seal's; how many seals there are.
func TestReadTexts(t *testing.T) {
	f, v, s := state.WriteFixed(fixed(2)), state.Write(plain(1).Signed.Var), seal.Write(mark(9, 0))
	blank, none := state.Write(api.Var{}), rep(0, 65)
	reads(t, "a good one", laidOut(f, v, s), plain(1), api.OK)
	reads(t, "a zero state", laidOut(f, blank, none), api.Mail{Fixed: fixed(2), Signed: api.Signed{Seals: make([]api.Seal, 1)}}, api.OK)
	reads(t, "four zero seals", laidOut(f, blank, none, none, none, none), api.Mail{Fixed: fixed(2), Signed: api.Signed{Seals: make([]api.Seal, 4)}}, api.OK)
	for what, raw := range map[string]string{
		"no seals":              laidOut(f, v),
		"five seals":            laidOut(f, v, s, s, s, s, s),
		"64 seals":              laidOut(f, v, strings.Split(strings.Repeat(s+"|", 63)+s, "|")...),
		"no channel":            laidOut("", v, s),
		"a channel cut":         laidOut(f[:len(f)-1], v, s),
		"a channel and more":    laidOut(f+rep(0, 32), v, s),
		"a state as a channel":  laidOut(v, v, s),
		"a channel as a state":  laidOut(f, f, s),
		"both turned":           laidOut(v, f, s),
		"no state":              laidOut(f, "", s),
		"a state cut":           laidOut(f, v[:len(v)-32], s),
		"a state and more":      laidOut(f, v+"\x00", s),
		"a zero state cut":      laidOut(f, blank[:len(blank)-32], s),
		"an empty seal":         laidOut(f, v, ""),
		"an empty seal ahead":   laidOut(f, v, "", s),
		"an empty seal behind":  laidOut(f, v, s, s, ""),
		"an empty seal amid":    laidOut(f, v, s, "", s),
		"empty seals":           laidOut(f, v, "", "", "", ""),
		"a seal cut":            laidOut(f, v, s[:64], s),
		"a seal and more":       laidOut(f, v, s, s+"\x00"),
		"a seal's last byte":    laidOut(f, v, s, s[:64]+"\x02"),
		"a zero seal's last":    laidOut(f, v, none[:64]+"\x02", s, s),
		"a zero seal cut":       laidOut(f, v, none[:64]),
		"four, the last one":    laidOut(f, v, s, s, s, none[:64]),
		"four, the first one":   laidOut(f, v, none[:64]+"\xff", s, s, s),
		"no lists":              together(tail(f), tail(v)),
		"a fourth term":         together(tail(f), tail(v), count(1)+together(tail(s)), tail("")),
		"a seal, not in a list": together(tail(f), tail(v), tail(s)),
		"a number for a list":   count(96) + count(96+len(tail(f))) + count(1) + tail(f) + tail(v),
		"tails in another order": count(96+len(tail(v))) + count(96) + count(96+len(tail(v))+len(tail(f))) +
			tail(v) + tail(f) + count(1) + together(tail(s)),
		"a tail that is shared": count(96) + count(96) + count(96+len(tail(f))) + tail(f) + count(1) + together(tail(s)),
	} {
		refuses(t, what, raw)
	}
}

// P28.2: fields beyond what is fit, in bytes that are otherwise a mail's.
func TestReadBeyond(t *testing.T) {
	f := []byte(state.WriteFixed(fixed(2)))
	v := []byte(state.Write(plain(1).Signed.Var))
	s := seal.Write(mark(9, 0))
	// A channel's first words are where its participants are, Nonce, where App is, Time; a state's Turn and Final.
	for what, row := range map[string]struct {
		of []byte
		at int
		by byte
	}{
		"a nonce above 2^64": {f, 32 + 23, 1}, "time 0": {f, 3*32 + 31, 60}, "time above 2^64": {f, 3*32 + 23, 1},
		"a turn above 2^40": {v, 31 - 5, 1}, "a turn above 2^64": {v, 23, 1}, "final 2": {v, 63, 2}, "final above 2^8": {v, 62, 1},
	} {
		row.of[row.at] ^= row.by
		refuses(t, what, laidOut(string(f), string(v), s))
		row.of[row.at] ^= row.by
	}
	reads(t, "within", laidOut(string(f), string(v), s), plain(1), api.OK)
}

// P28.2: filling bytes that are not 0.
func TestReadFilling(t *testing.T) {
	raw := []byte(Write(plain(2)))
	for _, at := range []int{len(raw) - 1, len(raw) - 31} {
		raw[at] = 1
		refuses(t, "a filling byte", string(raw))
		raw[at] = 0
	}
	reads(t, "as it was", string(raw), plain(2), api.OK)
}

// 0.5: two answers of Read share nothing, nor do two lists of one.
func TestReadOwnMemory(t *testing.T) {
	raw := Write(greatest())
	first, _ := Read(raw)
	second, _ := Read(raw)
	wipe(first)
	if !reflect.DeepEqual(second, greatest()) {
		t.Error("a second answer was changed")
	}
	clear(second.Signed.Var.Exits[0].Allocs)
	if !reflect.DeepEqual(second.Signed.Var.Exits[1:], greatest().Signed.Var.Exits[1:]) {
		t.Error("two exits of one answer share memory")
	}
}
