package book

import (
	"encoding/hex"
	"fmt"
	"slices"
	"strings"
	"testing"

	"truce/api"
	"truce/curve"
	"truce/num"
	"truce/seal"
	"truce/state"
)

// kinds are all kinds, by the chapter's names.
func kinds() []int { return []int{api.EnKey, api.EnChan, api.EnMine, api.EnSeen, api.EnGoal} }

// fitOf is a fit entry of a kind, with something in each of its fields.
func fitOf(t testing.TB, kind int) api.Entry {
	t.Helper()
	f := channel(t, 3, yes)
	switch kind {
	case api.EnKey:
		return enKey(0)
	case api.EnChan:
		return enChan(f)
	case api.EnMine:
		return enMine(t, f, at(7), 0)
	case api.EnSeen:
		return enSeen(t, f, at(7), 2)
	}
	return enGoal(f, api.GoalExit)
}

// wantWritten fails the test unless Write tells these bytes, and Read of them the entry, or Write none.
func wantWritten(t *testing.T, what string, e api.Entry, want string) {
	t.Helper()
	got := Write(e)
	if got != want {
		t.Errorf("%s: %d bytes, want %d", what, len(got), len(want))
	}
	if want == "" {
		return
	}
	back, err := Read(want)
	if err != api.OK || spelled(back) != spelled(e) {
		t.Errorf("%s: Read tells kind %d, error %d", what, back.Kind, err)
	}
}

// wantUnread fails the test unless Read tells of bytes that they are no entry's.
func wantUnread(t *testing.T, what, s string) {
	t.Helper()
	e, err := Read(s)
	if err != api.ErrForm || spelled(e) != spelled(api.Entry{}) {
		t.Errorf("%s: kind %d, error %d", what, e.Kind, err)
	}
}

// P24.1: the bytes of small entries, written out.
func TestWriteWords(t *testing.T) {
	none := []string{"0", "0", "0"}
	for what, c := range map[string]struct {
		e     api.Entry
		words []string
	}{
		"the key 2":    {api.Entry{Kind: api.EnKey, Key: api.U{2}}, append([]string{"1", "2", "100", "0", "120", "0", "140", "0"}, none...)},
		"a goal":       {api.Entry{Kind: api.EnGoal, Channel: rep(9, 31) + "\x01", Goal: 1}, append([]string{"5", "0", "100", strings.Repeat("09", 31) + "01", "120", "0", "140", "1"}, none...)},
		"a goal of 0s": {api.Entry{Kind: api.EnGoal, Channel: rep(0, 32)}, append([]string{"5", "0", "100", "0", "120", "0", "140", "0"}, none...)},
		"a zero state": {api.Entry{Kind: api.EnMine, Channel: rep(0, 32)}, []string{
			"3", "0", "100", "0", "120", "0", "200", "0", "0",
			"c0", "0", "0", "80", "a0", "0", "0",
			"41", "0", "0", "0",
		}},
		"another one's": {api.Entry{Kind: api.EnSeen, Channel: rep(255, 32), Var: api.Var{Turn: 5, Final: true}, Who: 3, Seal: api.Seal{R: api.U{6}, S: api.U{7}, Odd: true}}, []string{
			"4", "0", "100", strings.Repeat("ff", 32), "120", "3", "200", "0", "0",
			"c0", "5", "1", "80", "a0", "0", "0",
			"41", "6", "7", "01" + strings.Repeat("00", 31),
		}},
	} {
		want := ""
		for _, w := range c.words {
			b, err := hex.DecodeString(strings.Repeat("0", 64-len(w)) + w)
			if err != nil {
				t.Fatal(err)
			}
			want += string(b)
		}
		wantWritten(t, what, c.e, want)
	}
}

// P24.1: each kind, with least and greatest values, word by word.
func TestWriteKinds(t *testing.T) {
	for _, kind := range kinds() {
		e := fitOf(t, kind)
		wantWritten(t, fmt.Sprint("kind ", kind), e, plainWrite(e))
	}
	bounds := api.Var{Turn: api.MaxTurn, Data: rep(255, api.MaxData), Final: true}
	for i := range api.MaxExits {
		e := api.Exit{Asset: rep(byte(i), 20)}
		for range api.MaxAllocs {
			e.Allocs = append(e.Allocs, api.Alloc{Dest: rep(255, 32), Kind: api.PayBound, Left: rep(0, 32), Right: rep(1, 32)})
		}
		bounds.Exits = append(bounds.Exits, e)
	}
	f := channel(t, api.MaxParts, yes)
	f.App, f.Time, f.Nonce = rep(1, api.MaxApp), api.MaxTime, top
	last, _ := num.Sub(curve.Order(), num.Of(1))
	full := api.U{top, top, top, top}
	for what, e := range map[string]api.Entry{
		"the last key":             {Kind: api.EnKey, Key: last},
		"the least channel":        {Kind: api.EnChan, Fixed: api.Fixed{Parts: []string{rep(0, 20), rep(1, 20)}, Time: 1}},
		"the greatest channel":     {Kind: api.EnChan, Fixed: f},
		"mine of a zero state":     {Kind: api.EnMine, Channel: rep(1, 32)},
		"mine of the greatest one": {Kind: api.EnMine, Channel: rep(255, 32), Var: bounds, Seal: api.Seal{R: full, S: full, Odd: true}},
		"seen of a zero state":     {Kind: api.EnSeen, Channel: rep(1, 32)},
		"seen of the greatest one": {Kind: api.EnSeen, Channel: rep(255, 32), Var: bounds, Who: 3, Seal: api.Seal{R: full, S: full}},
		"seen of the place 1":      {Kind: api.EnSeen, Channel: rep(1, 32), Who: 1},
		"the goal to stay":         {Kind: api.EnGoal, Channel: rep(1, 32)},
	} {
		wantWritten(t, what, e, plainWrite(e))
	}
	wantWritten(t, "the order", api.Entry{Kind: api.EnKey, Key: curve.Order()}, "")
	wantWritten(t, "no key", api.Entry{Kind: api.EnKey}, "")
	wantWritten(t, "no channel", api.Entry{Kind: api.EnChan}, "")
}

// spoilers lay something into one field; the kinds for which that is a fit one.
func spoilers(t testing.TB) map[string]func(*api.Entry) []int {
	t.Helper()
	states, named := []int{api.EnMine, api.EnSeen}, []int{api.EnMine, api.EnSeen, api.EnGoal}
	out := map[string]func(*api.Entry) []int{
		"Key":                   func(e *api.Entry) []int { e.Key = keyOf(5); return []int{api.EnKey} },
		"a Key that is none":    func(e *api.Entry) []int { e.Key = api.U{top, top, top, top}; return nil },
		"Fixed":                 func(e *api.Entry) []int { e.Fixed = channel(t, 2, no); return []int{api.EnChan} },
		"Fixed of Parts alone":  func(e *api.Entry) []int { e.Fixed = api.Fixed{Parts: channel(t, 2, no).Parts}; return nil },
		"Fixed of Nonce alone":  func(e *api.Entry) []int { e.Fixed = api.Fixed{Nonce: 1}; return nil },
		"Fixed of App alone":    func(e *api.Entry) []int { e.Fixed = api.Fixed{App: "a"}; return nil },
		"Fixed of Time alone":   func(e *api.Entry) []int { e.Fixed = api.Fixed{Time: 1}; return nil },
		"Fixed of 5":            func(e *api.Entry) []int { e.Fixed = channel(t, 5, yes); return nil },
		"Fixed of 1":            func(e *api.Entry) []int { e.Fixed = channel(t, 1, yes); return nil },
		"Channel":               func(e *api.Entry) []int { e.Channel = rep(9, 32); return named },
		"Channel of bytes 0":    func(e *api.Entry) []int { e.Channel = rep(0, 32); return named },
		"Channel of 31":         func(e *api.Entry) []int { e.Channel = rep(9, 31); return nil },
		"Channel of 33":         func(e *api.Entry) []int { e.Channel = rep(9, 33); return nil },
		"Channel of 20":         func(e *api.Entry) []int { e.Channel = rep(9, 20); return nil },
		"Channel of one byte 0": func(e *api.Entry) []int { e.Channel = "\x00"; return nil },
		"Turn":                  func(e *api.Entry) []int { e.Var = api.Var{Turn: 1}; return states },
		"Turn too great":        func(e *api.Entry) []int { e.Var = api.Var{Turn: api.MaxTurn + 1}; return nil },
		"Final":                 func(e *api.Entry) []int { e.Var = api.Var{Final: true}; return states },
		"Data":                  func(e *api.Entry) []int { e.Var = api.Var{Data: "\x00"}; return states },
		"Data too long":         func(e *api.Entry) []int { e.Var = api.Var{Data: rep(0, api.MaxData+1)}; return nil },
		"Exits":                 func(e *api.Entry) []int { e.Var = api.Var{Exits: exits()}; return states },
		"Exits not rising":      func(e *api.Entry) []int { e.Var = api.Var{Exits: slices.Concat(exits(1), exits(2))}; return nil },
		"Who 1":                 func(e *api.Entry) []int { e.Who = 1; return []int{api.EnSeen} },
		"Who 3":                 func(e *api.Entry) []int { e.Who = 3; return []int{api.EnSeen} },
		"Who 4":                 func(e *api.Entry) []int { e.Who = 4; return nil },
		"Who -1":                func(e *api.Entry) []int { e.Who = -1; return nil },
		"Who of 2^32":           func(e *api.Entry) []int { e.Who = 1 << 32; return nil },
		"R":                     func(e *api.Entry) []int { e.Seal = api.Seal{R: api.U{1}}; return states },
		"S":                     func(e *api.Entry) []int { e.Seal = api.Seal{S: api.U{0, 0, 0, 1}}; return states },
		"Odd":                   func(e *api.Entry) []int { e.Seal = api.Seal{Odd: true}; return states },
		"Goal 1":                func(e *api.Entry) []int { e.Goal = 1; return []int{api.EnGoal} },
		"Goal 2":                func(e *api.Entry) []int { e.Goal = 2; return nil },
		"Goal -1":               func(e *api.Entry) []int { e.Goal = -1; return nil },
	}
	return out
}

// P24.1: a field that a kind has must be as said, one that it does not have must be zero; Apply asks the same.
func TestFitFields(t *testing.T) {
	for what, spoil := range spoilers(t) {
		for _, kind := range kinds() {
			e := fitOf(t, kind)
			isFit := slices.Contains(spoil(&e), kind)
			want := ""
			if isFit {
				want = plainWrite(e)
			}
			wantWritten(t, fmt.Sprintf("kind %d, %s", kind, what), e, want)
			if plainFit(e) != isFit {
				t.Errorf("kind %d, %s: the tests' own words tell otherwise", kind, what)
			}
			if _, err := Apply(api.Book{}, e); (err != api.ErrForm) != isFit {
				t.Errorf("kind %d, %s: Apply tells error %d", kind, what, err)
			}
		}
	}
}

// P24.1: the kinds there are; one kind's fields are no other's.
func TestFitKinds(t *testing.T) {
	for _, kind := range []int{0, -1, 6, 7, 255, 256, 1 << 32, 1<<32 + 1, -1 << 63, 1<<63 - 1} {
		wantWritten(t, fmt.Sprint("kind ", kind), api.Entry{Kind: kind}, "")
		for _, k := range kinds() {
			e := fitOf(t, k)
			e.Kind = kind
			wantWritten(t, fmt.Sprintf("kind %d as %d", k, kind), e, "")
			refuses(t, fmt.Sprintf("kind %d as %d", k, kind), bookOf(t, enKey(0)), e, api.ErrForm)
		}
	}
	for _, a := range kinds() {
		for _, b := range kinds() {
			e := fitOf(t, a)
			e.Kind = b
			want := ""
			// One's own state has all fields of another one's, whose place is 0.
			if a == b || a == api.EnMine && b == api.EnSeen {
				want = plainWrite(e)
			}
			wantWritten(t, fmt.Sprintf("kind %d as %d", a, b), e, want)
		}
	}
}

// P24.1: a state of each bound, and beyond.
func TestFitStates(t *testing.T) {
	for _, v := range []api.Var{
		{Turn: api.MaxTurn + 1}, {Turn: top}, {Turn: 9, Data: rep(0, api.MaxData+1)},
		{Exits: []api.Exit{{}}}, {Exits: []api.Exit{{Asset: rep(1, 19)}}}, {Exits: slices.Concat(exits(1), exits(2))},
		{Exits: exits(1, 2, 3, 4, 5, 6, 7, 8, 9)}, {Exits: []api.Exit{{Asset: rep(1, 20), Allocs: []api.Alloc{{Dest: "d"}}}}},
	} {
		for _, kind := range []int{api.EnMine, api.EnSeen} {
			e := api.Entry{Kind: kind, Channel: rep(1, 32), Var: v}
			wantWritten(t, fmt.Sprintf("kind %d, turn %d", kind, v.Turn), e, "")
		}
	}
}

// P24.1, 0.7: an empty list is none: its bytes are those of none.
func TestEmptyLists(t *testing.T) {
	for _, kind := range kinds() {
		e := fitOf(t, kind)
		want := Write(e)
		if e.Fixed.Parts == nil {
			e.Fixed.Parts = []string{}
		}
		if e.Var.Exits == nil {
			e.Var.Exits = []api.Exit{}
		}
		if got := Write(e); got != want || want == "" {
			t.Errorf("kind %d: %d bytes, want %d", kind, len(got), len(want))
		}
	}
}

// P24.1: bytes that no fit entry has, though each word of them is laid as it must be.
func TestReadUnfit(t *testing.T) {
	f := channel(t, 2, yes)
	fixed, id, stated, sealed := state.WriteFixed(f), state.Id(f), state.Write(at(7)), seal.Write(sealOf(t, f, at(7), 0))
	zero, none := rep(0, 32), api.U{}
	for what, s := range map[string]string{
		"kind 0":                        laid(0, none, "", zero, "", 0, "", 0),
		"kind 6":                        laid(6, none, "", zero, "", 0, "", 0),
		"a key that is none":            laid(1, none, "", zero, "", 0, "", 0),
		"a key of the order":            laid(1, curve.Order(), "", zero, "", 0, "", 0),
		"a key with a channel":          laid(1, keyOf(0), "", id, "", 0, "", 0),
		"a key with a channel of 1":     laid(1, keyOf(0), "", word32(1), "", 0, "", 0),
		"a key with a Fixed":            laid(1, keyOf(0), fixed, zero, "", 0, "", 0),
		"a key with bytes of none":      laid(1, keyOf(0), "x", zero, "", 0, "", 0),
		"a key with a state":            laid(1, keyOf(0), "", zero, stated, 0, "", 0),
		"a key with a zero state":       laid(1, keyOf(0), "", zero, state.Write(api.Var{}), 0, "", 0),
		"a key with bytes of no state":  laid(1, keyOf(0), "", zero, "x", 0, "", 0),
		"a key with a seal":             laid(1, keyOf(0), "", zero, "", 0, sealed, 0),
		"a key with a zero seal":        laid(1, keyOf(0), "", zero, "", 0, rep(0, 65), 0),
		"a key with bytes of no seal":   laid(1, keyOf(0), "", zero, "", 0, "x", 0),
		"a key with Who":                laid(1, keyOf(0), "", zero, "", 1, "", 0),
		"a key with a goal":             laid(1, keyOf(0), "", zero, "", 0, "", 1),
		"a channel of no bytes":         laid(2, none, "", zero, "", 0, "", 0),
		"a channel of bytes of none":    laid(2, none, fixed[1:], zero, "", 0, "", 0),
		"a channel of a state's bytes":  laid(2, none, stated, zero, "", 0, "", 0),
		"a channel with a name":         laid(2, none, fixed, id, "", 0, "", 0),
		"a channel with a zero state":   laid(2, none, fixed, zero, state.Write(api.Var{}), 0, "", 0),
		"a channel with a zero seal":    laid(2, none, fixed, zero, "", 0, rep(0, 65), 0),
		"a channel with a key":          laid(2, keyOf(0), fixed, zero, "", 0, "", 0),
		"mine with no state":            laid(3, none, "", id, "", 0, sealed, 0),
		"mine with bytes of no state":   laid(3, none, "", id, stated[1:], 0, sealed, 0),
		"mine with a state behind it":   laid(3, none, "", id, stated+stated, 0, sealed, 0),
		"mine with no seal":             laid(3, none, "", id, stated, 0, "", 0),
		"mine with a seal of 64":        laid(3, none, "", id, stated, 0, sealed[:64], 0),
		"mine with a seal of 66":        laid(3, none, "", id, stated, 0, sealed+"\x00", 0),
		"mine with a seal that ends 2":  laid(3, none, "", id, stated, 0, sealed[:64]+"\x02", 0),
		"mine with a Fixed":             laid(3, none, fixed, id, stated, 0, sealed, 0),
		"mine with a key":               laid(3, keyOf(0), "", id, stated, 0, sealed, 0),
		"mine with Who":                 laid(3, none, "", id, stated, 1, sealed, 0),
		"mine with a goal":              laid(3, none, "", id, stated, 0, sealed, 1),
		"seen of the place 4":           laid(4, none, "", id, stated, 4, sealed, 0),
		"seen of the greatest place":    laid(4, none, "", id, stated, top, sealed, 0),
		"seen with no state":            laid(4, none, "", id, "", 1, sealed, 0),
		"seen with no seal":             laid(4, none, "", id, stated, 1, "", 0),
		"seen with a goal":              laid(4, none, "", id, stated, 1, sealed, 1),
		"goal 2":                        laid(5, none, "", id, "", 0, "", 2),
		"the greatest goal":             laid(5, none, "", id, "", 0, "", top),
		"a goal with Who":               laid(5, none, "", id, "", 1, "", 0),
		"a goal with a zero state":      laid(5, none, "", id, state.Write(api.Var{}), 0, "", 0),
		"a goal with a state and seal":  laid(5, none, "", id, stated, 0, sealed, 0),
		"a goal with a Fixed":           laid(5, none, fixed, id, "", 0, "", 0),
		"nothing":                       "",
		"a word":                        zero,
		"bytes that are none":           "abc",
		"a state's bytes":               stated,
		"a channel's bytes":             fixed,
		"an entry's bytes and one more": Write(enKey(0)) + "\x00",
		"an entry's and a word":         Write(enKey(0)) + zero,
		"two entries":                   Write(enKey(0)) + Write(enKey(0)),
	} {
		wantUnread(t, what, s)
	}
	if _, err := Read(laid(4, none, "", id, stated, 3, sealed, 0)); err != api.OK {
		t.Errorf("a fit one is not read: error %d", err)
	}
}

// P24.1: a number that is too great for its field is not cut.
func TestReadTooGreat(t *testing.T) {
	for _, kind := range kinds() {
		good := Write(fitOf(t, kind))
		for _, word := range []int{0, 5, 7} {
			for at := 32 * word; at < 32*word+31; at++ {
				b := []byte(good)
				b[at] ^= 1
				wantUnread(t, fmt.Sprintf("kind %d, byte %d", kind, at), string(b))
			}
		}
	}
}

// P24.1: each bit of each kind's bytes changed: none, or another entry that has just these bytes.
func TestReadEachBit(t *testing.T) {
	for _, kind := range kinds() {
		good := Write(fitOf(t, kind))
		read := 0
		for at := range len(good) * 8 {
			b := []byte(good)
			b[at/8] ^= 1 << (at % 8)
			e, err := Read(string(b))
			switch {
			case err == api.OK && (plainWrite(e) != string(b) || !plainFit(e)):
				t.Fatalf("kind %d, bit %d: taken as kind %d with other bytes", kind, at, e.Kind)
			case err == api.OK:
				read++
			case err != api.ErrForm || spelled(e) != spelled(api.Entry{}):
				t.Fatalf("kind %d, bit %d: error %d with kind %d", kind, at, err, e.Kind)
			}
		}
		// A key, a name, a sum of a channel: most of what bears no place has other values that are fit.
		if read < 200 {
			t.Errorf("kind %d: only %d changed ones are read", kind, read)
		}
	}
}

// P24.1: each beginning of each kind's bytes is none.
func TestReadCut(t *testing.T) {
	for _, kind := range kinds() {
		good := Write(fitOf(t, kind))
		for n := range len(good) {
			wantUnread(t, fmt.Sprintf("kind %d, %d bytes", kind, n), good[:n])
		}
	}
}

// 0.5: what Read tells is new memory, and Write changes nothing.
func TestReadOwn(t *testing.T) {
	for _, kind := range kinds() {
		e := fitOf(t, kind)
		before, s := spelled(e), Write(e)
		one, _ := Read(s)
		two, _ := Read(s)
		for i := range one.Var.Exits {
			clear(one.Var.Exits[i].Allocs)
		}
		clear(one.Var.Exits)
		clear(one.Fixed.Parts)
		if spelled(e) != before || spelled(two) != before {
			t.Errorf("kind %d: changed with another one's lists", kind)
		}
	}
}
