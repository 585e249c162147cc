package proof

import (
	"slices"
	"testing"
	"time"

	"truce/api"
	"truce/key"
	"truce/seal"
	"truce/state"
)

// P15.1: who signed, in the participants' order whatever the seals' is.
func TestSigners(t *testing.T) {
	for n := 2; n <= 4; n++ {
		f, v := channel(t, n, ""), at(9)
		for bits := range 1 << n {
			parts := set(bits)
			for range 2 {
				got, err := Signers(f, signed(t, f, v, parts...))
				if err != api.OK || len(got) != n {
					t.Fatalf("%d participants, signed by %v: %v, %d", n, parts, got, err)
				}
				for p, has := range got {
					if has != slices.Contains(parts, p) {
						t.Errorf("%d participants, signed by %v: %v", n, parts, got)
					}
				}
				slices.Reverse(parts)
			}
		}
	}
}

// P15.1: a participant may have sealed a state twice.
func TestSignersTwice(t *testing.T) {
	f, v := channel(t, 3, ""), at(0)
	for _, c := range []struct {
		parts []int
		want  []bool
	}{
		{nil, []bool{false, false, false}}, {[]int{1, 1}, []bool{false, true, false}}, {[]int{2, 2, 2}, []bool{false, false, true}},
		{[]int{2, 0, 2}, []bool{true, false, true}}, {[]int{2, 0, 1}, []bool{true, true, true}},
	} {
		if got, err := Signers(f, signed(t, f, v, c.parts...)); err != api.OK || !slices.Equal(got, c.want) {
			t.Errorf("signed by %v: %v, %d", c.parts, got, err)
		}
	}
}

// P15.1: one seal that is none spoils it, wherever it stands.
func TestSignersSeal(t *testing.T) {
	f, v := channel(t, 3, ""), at(9)
	good := signed(t, f, v, 0, 1)
	for i, bad := range badSeals(t, f, v) {
		for _, seals := range [][]api.Seal{{bad}, {bad, good.Seals[0]}, {good.Seals[0], bad}, {good.Seals[0], bad, good.Seals[1]}, {good.Seals[0], good.Seals[1], bad}, {bad, bad, bad}} {
			if got, err := Signers(f, api.Signed{Var: v, Seals: seals}); err != api.ErrSeal || got != nil {
				t.Errorf("bad seal %d of %d: %v, %d", i, len(seals), got, err)
			}
		}
	}
}

// P15.1: what is sealed hangs on every part of the channel and of the state.
func TestSignersOther(t *testing.T) {
	f, v := channel(t, 2, ""), at(9)
	s := signed(t, f, v, 1)
	if _, err := Signers(f, s); err != api.OK {
		t.Fatalf("the state itself: %d", err)
	}
	for i, change := range []func(*api.Fixed, *api.Var){
		func(f *api.Fixed, _ *api.Var) { f.Nonce++ }, func(f *api.Fixed, _ *api.Var) { f.Time++ }, func(f *api.Fixed, _ *api.Var) { f.App = "\x00" },
		func(f *api.Fixed, _ *api.Var) { slices.Reverse(f.Parts) }, func(_ *api.Fixed, v *api.Var) { v.Turn-- }, func(_ *api.Fixed, v *api.Var) { v.Final = true },
		func(_ *api.Fixed, v *api.Var) { v.Data = "e" }, func(_ *api.Fixed, v *api.Var) { v.Exits = nil }, func(_ *api.Fixed, v *api.Var) { v.Exits = exits(6, 5) },
	} {
		g, w := channel(t, 2, ""), at(9)
		change(&g, &w)
		if got, err := Signers(g, api.Signed{Var: w, Seals: s.Seals}); err != api.ErrSeal || got != nil {
			t.Errorf("change %d: %v, %d", i, got, err)
		}
	}
}

// P15.1, P15.2, 0.2: what is not fit is told ahead of seals, keys and counts.
func TestForm(t *testing.T) {
	f := channel(t, 2, "")
	three := signed(t, f, at(9), 0, 1, 0)
	try := func(what string, f api.Fixed, s api.Signed) {
		t.Helper()
		if got, err := Signers(f, s); err != api.ErrForm || got != nil {
			t.Errorf("Signers of %s: %v, %d", what, got, err)
		}
		for _, k := range []api.U{{}, keyOf(0), keyOf(stranger)} {
			if got, err := Sign(f, s, k); err != api.ErrForm || show(got) != show(api.Signed{}) {
				t.Errorf("Sign of %s: %s, %d", what, show(got), err)
			}
		}
	}
	try("three seals of two", f, three)
	try("three bad seals of two", f, api.Signed{Var: at(9), Seals: make([]api.Seal, 3)})
	try("a thousand seals", f, api.Signed{Var: at(9), Seals: make([]api.Seal, 1000)})
	try("five seals of four", channel(t, 4, ""), api.Signed{Var: at(9), Seals: make([]api.Seal, 5)})
	for _, bad := range unfitVars() {
		try(showVar(bad), f, api.Signed{Var: bad})
		try(showVar(bad), f, api.Signed{Var: bad, Seals: make([]api.Seal, 2)})
	}
	for _, bad := range unfitChannels(t) {
		try("an unfit channel", bad, api.Signed{Var: at(9)})
		try("an unfit channel, and a seal", bad, api.Signed{Var: at(9), Seals: three.Seals[:1]})
	}
}

// P15.1: rows that differ in one field, or in their length or order, are not the same; lists that are empty are none.
func TestSame(t *testing.T) {
	f := channel(t, 2, "")
	row := func() []api.Signed { return []api.Signed{signed(t, f, at(8), 0), signed(t, f, at(9), 1, 0)} }
	a := row()
	if !Same(a, row()) || !Same(nil, nil) || !Same(nil, []api.Signed{}) {
		t.Error("the same rows are not")
	}
	if Same(a, nil) || Same(nil, a) || Same(a, a[:1]) || Same(a[:1], a) || Same(a, []api.Signed{a[1], a[0]}) || Same(nil, make([]api.Signed, 1)) {
		t.Error("rows of other lengths, or in another order, are the same")
	}
	empty := []api.Signed{{Var: api.Var{Exits: []api.Exit{}}, Seals: []api.Seal{}}}
	if !Same(empty, make([]api.Signed, 1)) {
		t.Error("empty lists are not none")
	}
	for i, change := range []func(*api.Signed){
		func(s *api.Signed) { s.Var.Turn++ }, func(s *api.Signed) { s.Var.Turn = top }, func(s *api.Signed) { s.Var.Final = true }, func(s *api.Signed) { s.Var.Data = "" },
		func(s *api.Signed) { s.Var.Exits = nil }, func(s *api.Signed) { s.Var.Exits[0].Asset = rep(8, 20) }, func(s *api.Signed) { s.Var.Exits[0].Allocs = nil },
		func(s *api.Signed) { s.Var.Exits[0].Allocs[1].Dest = "" }, func(s *api.Signed) { s.Var.Exits[0].Allocs[1].Amount[3]++ }, func(s *api.Signed) { s.Var.Exits[0].Allocs[1].Kind-- },
		func(s *api.Signed) { s.Var.Exits[0].Allocs[0].Left = "x" }, func(s *api.Signed) { s.Var.Exits[0].Allocs[0].Right = "x" },
		func(s *api.Signed) { s.Seals = nil }, func(s *api.Signed) { s.Seals = append(s.Seals, api.Seal{}) }, func(s *api.Signed) { s.Seals[0], s.Seals[1] = s.Seals[1], s.Seals[0] },
		func(s *api.Signed) { s.Seals[1].R[3]++ }, func(s *api.Signed) { s.Seals[1].S[3]++ }, func(s *api.Signed) { s.Seals[1].Odd = !s.Seals[1].Odd },
	} {
		b := row()
		change(&b[1])
		if Same(a, b) || Same(b, a) {
			t.Errorf("change %d: the same", i)
		}
		if !Same(b, twins(b)) {
			t.Errorf("change %d: not the same as itself", i)
		}
	}
}

// P15.2: the key's seal comes behind those that are there, whatever they are.
func TestSign(t *testing.T) {
	for n := 2; n <= 4; n++ {
		f, v := channel(t, n, ""), at(9)
		s := api.Signed{Var: v}
		for i := range n {
			part := n - 1 - i
			next, err := Sign(f, s, keyOf(part))
			want, _ := seal.Make(state.Digest(f, v), keyOf(part))
			if err != api.OK || show(next) != show(api.Signed{Var: v, Seals: append(slices.Clone(s.Seals), want)}) {
				t.Fatalf("%d participants, key %d: %s, %d", n, part, show(next), err)
			}
			if got, err := Signers(f, next); err != api.OK || !got[part] || slices.Contains(got[:part], true) {
				t.Errorf("%d participants, key %d: signed by %v, %d", n, part, got, err)
			}
			s = next
		}
		if got, err := Sign(f, s, keyOf(0)); err != api.ErrMany || show(got) != show(api.Signed{}) {
			t.Errorf("%d participants, a seal more: %s, %d", n, show(got), err)
		}
	}
	f, bad := channel(t, 3, ""), api.Signed{Var: at(9), Seals: make([]api.Seal, 1)}
	once, err := Sign(f, bad, keyOf(1))
	again, other := Sign(f, once, keyOf(1))
	if err != api.OK || other != api.OK || show(again) != show(api.Signed{Var: at(9), Seals: []api.Seal{{}, once.Seals[1], once.Seals[1]}}) {
		t.Errorf("behind a bad seal, twice by one key: %s, %d, %d", show(again), err, other)
	}
}

// P15.2, 0.2: a key that is none, or a stranger's, ahead of a seal too many.
func TestSignKey(t *testing.T) {
	f := channel(t, 2, "")
	order := api.U{0xbfd25e8cd0364141, 0xbaaedce6af48a03b, 0xfffffffffffffffe, top}
	for _, k := range []api.U{{}, order, {top, top, top, top}, keyOf(stranger), keyOf(2), key.Small(0)} {
		for _, s := range []api.Signed{{Var: at(9)}, signed(t, f, at(9), 0), signed(t, f, at(9), 0, 1)} {
			if got, err := Sign(f, s, k); err != api.ErrKey || show(got) != show(api.Signed{}) {
				t.Errorf("the key %x, %d seals: %s, %d", k, len(s.Seals), show(got), err)
			}
		}
	}
}

// P15.4, and the chapter's example: of one state alone each one's seal is asked for, and no rule.
func TestSupportAlone(t *testing.T) {
	for n := 2; n <= 4; n++ {
		for i, app := range []string{"", code(t, no), code(t, yes)} {
			f := channel(t, n, app)
			for _, v := range []api.Var{{}, at(7), {Turn: 3, Final: true, Data: "x"}, {Turn: api.MaxTurn, Exits: exits()}} {
				made := signsOf(t, f, v)
				full := 1<<n - 1
				for bits := range full + 1 {
					// All subsets but once: the rule is not asked.
					if i > 0 && bits != full && bits != full>>1 {
						continue
					}
					want, wantErr := api.Var{}, api.ErrProof
					if bits == full {
						want, wantErr = v, api.OK
					}
					if got, err := Support(f, made.row(bits)); err != wantErr || showVar(got) != showVar(want) {
						t.Errorf("%d participants, signed by %v: %s, %d", n, set(bits), showVar(got), err)
					}
				}
			}
		}
	}
}

// P15.3: who must have signed what, written out. Bits of participants, the first one's the lowest.
func TestSupportRows(t *testing.T) {
	for i, c := range []struct {
		n    int
		turn uint64
		bits []int
		want api.Errno
	}{
		// Turn 4 is the first one's, 5 the second one's.
		{2, 4, []int{0b01, 0b10}, api.OK}, {2, 4, []int{0b00, 0b11}, api.OK}, {2, 4, []int{0b11, 0b10}, api.OK}, {2, 4, []int{0b11, 0b11}, api.OK},
		{2, 4, []int{0b11, 0b00}, api.ErrProof}, {2, 4, []int{0b11, 0b01}, api.ErrProof}, {2, 4, []int{0b10, 0b01}, api.ErrProof}, {2, 4, []int{0b00, 0b10}, api.ErrProof},
		{2, 4, []int{0b01, 0b00}, api.ErrProof}, {2, 4, []int{0b00, 0b00}, api.ErrProof},
		// Turn 5 is the second one's, 6 the first one's.
		{2, 5, []int{0b10, 0b01}, api.OK}, {2, 5, []int{0b00, 0b11}, api.OK}, {2, 5, []int{0b01, 0b10}, api.ErrProof}, {2, 5, []int{0b11, 0b10}, api.ErrProof},
		// Turns 7 and 8 are the second and the third one's: any seal of the first one will do.
		{3, 7, []int{0b011, 0b100}, api.OK}, {3, 7, []int{0b010, 0b101}, api.OK}, {3, 7, []int{0b001, 0b110}, api.OK}, {3, 7, []int{0b000, 0b111}, api.OK},
		{3, 7, []int{0b111, 0b000}, api.ErrProof}, {3, 7, []int{0b010, 0b100}, api.ErrProof}, {3, 7, []int{0b111, 0b011}, api.ErrProof}, {3, 7, []int{0b001, 0b100}, api.ErrProof},
		// Turns 8, 9 and 10 are the third, the first and the second one's.
		{3, 8, []int{0b100, 0b001, 0b010}, api.OK}, {3, 8, []int{0b000, 0b100, 0b011}, api.OK}, {3, 8, []int{0b111, 0b111, 0b010}, api.OK}, {3, 8, []int{0b000, 0b000, 0b111}, api.OK},
		{3, 8, []int{0b101, 0b000, 0b010}, api.ErrProof}, {3, 8, []int{0b100, 0b011, 0b000}, api.ErrProof}, {3, 8, []int{0b111, 0b111, 0b101}, api.ErrProof}, {3, 8, []int{0b000, 0b001, 0b010}, api.ErrProof},
		// Turns 10 and 11 are the third and the fourth one's.
		{4, 10, []int{0b0111, 0b1000}, api.OK}, {4, 10, []int{0b0101, 0b1010}, api.OK}, {4, 10, []int{0b0000, 0b1111}, api.OK},
		{4, 10, []int{0b0110, 0b1000}, api.ErrProof}, {4, 10, []int{0b1111, 0b0111}, api.ErrProof}, {4, 10, []int{0b0011, 0b1000}, api.ErrProof},
		// Turns 9 to 11: the first one has none.
		{4, 9, []int{0b0011, 0b0100, 0b1000}, api.OK}, {4, 9, []int{0b0010, 0b0101, 0b1000}, api.OK}, {4, 9, []int{0b0010, 0b0100, 0b1001}, api.OK}, {4, 9, []int{0b0010, 0b0100, 0b1000}, api.ErrProof},
		// All four: 11, 12, 13, 14.
		{4, 11, []int{0b1000, 0b0001, 0b0010, 0b0100}, api.OK}, {4, 11, []int{0, 0, 0, 0b1111}, api.OK}, {4, 11, []int{0b1111, 0b1111, 0b1111, 0b1011}, api.ErrProof}, {4, 11, []int{0b1001, 0b0000, 0b0010, 0b0100}, api.ErrProof},
		// The first turns need no rule, but whose turn it is counts as ever.
		{4, 0, []int{0b0001, 0b0010, 0b0100, 0b1000}, api.OK}, {4, 0, []int{0b0001, 0b0010, 0b0100, 0b0000}, api.ErrProof}, {2, api.MaxTurn - 1, []int{0b10, 0b01}, api.OK},
	} {
		made := signsOf(t, channel(t, c.n, code(t, yes)), rowOf(c.turn, len(c.bits))...)
		want := api.Var{}
		if c.want == api.OK {
			want = made.vars[len(c.bits)-1]
		}
		if got, err := Support(made.f, made.row(c.bits...)); err != c.want || showVar(got) != showVar(want) {
			t.Errorf("%d: turn %d, signed by %b: %s, %d", i, c.turn, c.bits, showVar(got), err)
		}
	}
}

// P15.3, P15.5: all ways of two and three participants to sign all rows, against the plain way.
func TestSupportAll(t *testing.T) {
	t.Parallel()
	for _, c := range []struct {
		n, states int
		turn      uint64
	}{{2, 2, 6}, {2, 2, 7}, {3, 2, 6}, {3, 2, 7}, {3, 2, 8}, {3, 3, 7}} {
		made := signsOf(t, channel(t, c.n, code(t, yes)), rowOf(c.turn, c.states)...)
		for all := range 1 << (c.n * c.states) {
			bits := make([]int, c.states)
			for i := range bits {
				bits[i] = all >> (c.n * i) & (1<<c.n - 1)
			}
			want := api.ErrProof
			if plainProven(c.n, made.vars, bits) {
				want = api.OK
			}
			if _, err := Support(made.f, made.row(bits...)); err != want {
				t.Fatalf("%d participants, turn %d, signed by %b: %d, want %d", c.n, c.turn, bits, err, want)
			}
		}
	}
}

// P15.3: no states, too many of them, and one that is not fit, ahead of all else.
func TestSupportForm(t *testing.T) {
	f := channel(t, 3, code(t, yes))
	try := func(what string, f api.Fixed, l []api.Signed) {
		t.Helper()
		if got, err := Support(f, l); err != api.ErrForm || showVar(got) != showVar(api.Var{}) {
			t.Errorf("%s: %s, %d", what, showVar(got), err)
		}
	}
	try("none", f, nil)
	try("an empty row", f, []api.Signed{})
	full := signsOf(t, f, rowOf(9, 4)...).row(7, 7, 7, 7)
	try("four states of three", f, full)
	try("two hundred states", f, make([]api.Signed, 200))
	if _, err := Support(f, full[:3]); err != api.OK {
		t.Errorf("three states of three: %d", err)
	}
	// What is wrong with the others is of a later kind: a turn that does not follow, a bad seal, a seal that is missing.
	for place := range 3 {
		for _, bad := range unfitVars() {
			l := []api.Signed{{Var: at(9)}, {Var: at(12), Seals: make([]api.Seal, 1)}, {Var: at(11)}}
			l[place].Var = bad
			try(showVar(bad), f, l)
		}
		l := twins(full[:3])
		l[place].Seals = append(l[place].Seals, l[place].Seals[0])
		try("four seals of three", f, l)
	}
	for _, bad := range unfitChannels(t) {
		try("an unfit channel", bad, full[:1])
		try("an unfit channel, two states", bad, full[:2])
		try("an unfit channel, none", bad, nil)
	}
}

// P15.3: what may not follow, the first pair of it first, ahead of seals.
func TestSupportFollows(t *testing.T) {
	f, bare, strict := channel(t, 3, code(t, yes)), channel(t, 3, ""), channel(t, 3, code(t, no))
	final := func(turn uint64) api.Var {
		v := at(turn)
		v.Final = true
		return v
	}
	richer := at(10)
	richer.Exits = exits(5, 7)
	for i, c := range []struct {
		f    api.Fixed
		vars []api.Var
		want api.Errno
	}{
		{f, []api.Var{at(9), at(11)}, api.ErrTurn}, {f, []api.Var{at(9), at(9)}, api.ErrTurn}, {f, []api.Var{at(10), at(9)}, api.ErrTurn},
		{f, []api.Var{final(9), at(10)}, api.ErrFinal}, {f, []api.Var{at(9), richer}, api.ErrRule}, {bare, []api.Var{at(9), at(10)}, api.ErrRule}, {strict, []api.Var{at(9), at(10)}, api.ErrRule},
		// The first pair's error is told, the second's being another.
		{f, []api.Var{at(9), richer, at(12)}, api.ErrRule}, {f, []api.Var{final(9), at(10), at(12)}, api.ErrFinal}, {f, []api.Var{at(8), at(10), final(10)}, api.ErrTurn},
		{f, []api.Var{at(9), at(10), at(12)}, api.ErrTurn}, {f, []api.Var{at(8), final(9), at(10)}, api.ErrFinal}, {f, []api.Var{at(8), at(9), richer}, api.ErrRule},
		{f, []api.Var{at(9), at(10), at(11)}, api.OK}, {bare, []api.Var{final(9), final(10), final(11)}, api.OK}, {strict, []api.Var{at(9), final(10)}, api.OK},
		{bare, []api.Var{at(3), at(4), at(5)}, api.OK}, {bare, []api.Var{at(4), at(5), at(6)}, api.ErrRule}, {strict, []api.Var{at(0), at(1), at(2)}, api.OK}, {strict, []api.Var{at(4), final(5)}, api.ErrRule},
	} {
		bits := []int{7, 7, 7}[:len(c.vars)]
		full := signsOf(t, c.f, c.vars...).row(bits...)
		if _, err := Support(c.f, full); err != c.want {
			t.Errorf("%d: %d", i, err)
		}
		if c.want == api.OK {
			continue
		}
		full[0].Seals[0] = api.Seal{}
		full[1].Seals = nil
		if got, err := Support(c.f, full); err != c.want || showVar(got) != showVar(api.Var{}) {
			t.Errorf("%d, with bad seals: %s, %d", i, showVar(got), err)
		}
		// P15.4: by itself the last state is supported all the same.
		if _, err := Support(c.f, signsOf(t, c.f, c.vars[len(c.vars)-1]).row(7)); err != api.OK {
			t.Errorf("%d, the last one alone: %d", i, err)
		}
	}
}

// P15.3: a bad seal of any state is ErrSeal, whether all that is asked for is there without it, or is not.
func TestSupportSeal(t *testing.T) {
	made := signsOf(t, channel(t, 3, code(t, yes)), rowOf(7, 3)...)
	for place, v := range made.vars {
		for i, bad := range badSeals(t, made.f, v) {
			for _, l := range [][]api.Signed{made.row(0b010, 0b100, 0b001), made.row(0, 0, 0), made.row(0b011, 0b011, 0b011)} {
				l[place].Seals = append(l[place].Seals, bad)
				if got, err := Support(made.f, l); err != api.ErrSeal || showVar(got) != showVar(api.Var{}) {
					t.Errorf("bad seal %d of state %d: %s, %d", i, place, showVar(got), err)
				}
			}
		}
	}
	// A seal is of its own state alone.
	l := made.row(0b010, 0b100, 0b001)
	l[1].Seals, l[2].Seals = l[2].Seals, l[1].Seals
	if _, err := Support(made.f, l); err != api.ErrSeal {
		t.Errorf("seals of one another's states: %d", err)
	}
}

// P15.3, P15.5: mixed rows against the plain way; of each that is supported everyone has signed something, and without the seals of one of them nothing is.
func TestSupportMixed(t *testing.T) {
	t.Parallel()
	seed := uint64(153)
	apps := []string{code(t, yes), code(t, yes), code(t, yes), "", code(t, no)}
	met := map[api.Errno]int{}
	for range 600 {
		n := 2 + below(&seed, 3)
		f := channel(t, n, apps[below(&seed, len(apps))])
		l, bits, bad := mixedRow(t, &seed, f)
		kept := twins(l)
		v, err := Support(f, l)
		if want := plainSupport(f, l, bits, bad); err != want {
			t.Fatalf("%d participants, %s, signed by %b: %d, want %d", n, show(l...), bits, err, want)
		}
		if show(l...) != show(kept...) {
			t.Fatal("Support changes what it is given")
		}
		met[err]++
		if err != api.OK {
			continue
		}
		if !state.Same(v, l[len(l)-1].Var) {
			t.Fatalf("%s: %s", show(l...), showVar(v))
		}
		p := below(&seed, n)
		for i := range l {
			l[i] = signed(t, f, l[i].Var, set(bits[i]&^(1<<p))...)
		}
		if v, err := Support(f, l); err != api.ErrProof || showVar(v) != showVar(api.Var{}) {
			t.Fatalf("P15.5: %s, signed by %b, less %d: %d", show(l...), bits, p, err)
		}
	}
	for _, err := range []api.Errno{api.OK, api.ErrForm, api.ErrTurn, api.ErrFinal, api.ErrRule, api.ErrSeal, api.ErrProof} {
		if met[err] < 10 {
			t.Errorf("the rows are poor: %v", met)
		}
	}
}

// mixedRow is a row that may be a proof, who signed each of its states, and whether a seal of it is none.
func mixedRow(t *testing.T, seed *uint64, f api.Fixed) ([]api.Signed, []int, bool) {
	n := len(f.Parts)
	var l []api.Signed
	var bits []int
	bad := false
	v := at(uint64(below(seed, 24)))
	v.Final = below(seed, 5) == 0
	for range 1 + below(seed, n) {
		who := below(seed, 1<<n) | below(seed, 1<<n)
		// What is not fit has no digest, and so no seals.
		if !state.FitVar(v) {
			who = 0
		}
		s := signed(t, f, v, set(who)...)
		if below(seed, 16) == 0 && len(s.Seals) < n && state.FitVar(v) {
			bad = true
			s.Seals = slices.Insert(s.Seals, below(seed, len(s.Seals)+1), badSeals(t, f, v)[below(seed, 13)])
		}
		l, bits = append(l, s), append(bits, who)
		v.Turn++
		switch below(seed, 24) {
		case 0:
			v.Turn++
		case 1, 2, 3:
			v.Final = !v.Final
		case 4:
			v.Exits = exits(uint64(below(seed, 9)))
		case 5:
			v.Data += rep('x', 1+api.MaxData)
		case 8:
			v.Data += "x"
		case 6, 7:
			v.Exits = exits(uint64(5+below(seed, 2)), 6)
		}
	}
	return l, bits, bad
}

// 0.5: what is told shares no memory with what was given, and that is not changed.
func TestMemory(t *testing.T) {
	f := channel(t, 3, code(t, yes))
	roomy := func() api.Signed {
		s := signed(t, f, at(9), 0, 1)
		s.Seals = slices.Grow(s.Seals, 4)
		return s
	}
	s, before := roomy(), show(roomy())
	first, _ := Sign(f, s, keyOf(2))
	want := show(first)
	second, _ := Sign(f, s, keyOf(0))
	if show(s) != before || show(first) != want || s.Seals[:3][2] != (api.Seal{}) {
		t.Error("Sign changes what it was given, or told")
	}
	wipe(second.Var)
	clear(second.Seals)
	if show(s) != before || show(first) != want {
		t.Error("what Sign tells shares memory with what it was given")
	}
	wipe(s.Var)
	clear(s.Seals)
	if show(first) != want {
		t.Error("what Sign is given shares memory with what it told")
	}
	row := []api.Signed{first}
	v, err := Support(f, row)
	wipe(row[0].Var)
	if err != api.OK || showVar(v) != showVar(at(9)) {
		t.Errorf("what Support tells shares memory with what it was given: %s, %d", showVar(v), err)
	}
}

// The greatest row: states as long as can be, all sealed by all, and a rule that uses all of its gas.
func TestLongest(t *testing.T) {
	begun := time.Now()
	great := api.Var{Turn: api.MaxTurn - 3, Data: rep('d', api.MaxData)}
	for i := range api.MaxExits {
		e := api.Exit{Asset: rep(byte(i), 20)}
		for range api.MaxAllocs {
			e.Allocs = append(e.Allocs, api.Alloc{Dest: rep(1, 32), Amount: api.U{top, top, top, top >> 3}, Kind: api.PayBound, Left: rep(2, 32), Right: rep(3, 32)})
		}
		great.Exits = append(great.Exits, e)
	}
	var vars []api.Var
	for i := range api.MaxParts {
		v := great
		v.Turn += uint64(i)
		vars = append(vars, v)
	}
	made := signsOf(t, channel(t, api.MaxParts, code(t, yes)+rep(0xfe, api.MaxApp-len(code(t, yes)))), vars...)
	got, err := Support(made.f, made.row(15, 15, 15, 15))
	if err != api.OK || showVar(got) != showVar(vars[3]) {
		t.Errorf("the greatest row: %d", err)
	}
	loop := code(t, "JUMPDEST PUSH2 1000 PUSH0 PUSH0 CALLDATACOPY PUSH2 1000 PUSH0 KECCAK256 POP PUSH0 JUMP")
	if _, err := Support(channel(t, api.MaxParts, loop), made.row(15, 15, 15, 15)); err != api.ErrRule {
		t.Errorf("a loop: %d", err)
	}
	if took := time.Since(begun); took > 10*time.Second {
		t.Errorf("that took %v", took)
	}
}
