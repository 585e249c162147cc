package judge

import (
	"fmt"
	"math"
	"reflect"
	"slices"
	"testing"

	"truce/api"
	"truce/state"
)

// P19.1: a judge at each of its bounds can be, one beyond it can't.
func TestFit(t *testing.T) {
	high := api.U{0, 0, 0, 1 << 63}
	low := api.U{top, top, top, 1<<63 - 1}
	of := func(change func(*api.Case)) api.Judge {
		c := known(2, 7, exit(1, plain(to(1), 5)))
		change(&c)
		return api.Judge{Cases: []api.Case{known(1, 1), c, known(3, 1)}}
	}
	held := func(l ...api.Hold) api.Judge { return api.Judge{Holds: l} }
	for _, c := range []struct {
		what string
		j    api.Judge
		want bool
	}{
		{"none", api.Judge{}, true},
		{"empty lists", api.Judge{Holds: []api.Hold{}, Cases: []api.Case{}}, true},
		{"by channel, then asset", held(hold(1, 1, 1), hold(1, 2, 1), hold(2, 1, 1), hold(2, 3, 1), hold(3, 1, 1)), true},
		{"a channel that begins with noughts", held(api.Hold{Channel: to(1), Asset: asset(0), Amount: api.U{1}}), true},
		{"one twice", held(hold(1, 1, 1), hold(1, 1, 2)), false},
		{"channels fall", held(hold(2, 1, 1), hold(1, 2, 1)), false},
		{"assets fall", held(hold(1, 2, 1), hold(1, 1, 1)), false},
		{"the last one falls", held(hold(1, 2, 1), hold(2, 2, 1), hold(2, 1, 1)), false},
		{"one of 0", held(hold(1, 1, 1), hold(1, 2, 0)), false},
		{"one of a high part alone", held(api.Hold{Channel: ch(1), Asset: asset(1), Amount: high}), true},
		{"a channel of 31 bytes", held(api.Hold{Channel: rep(1, 31), Asset: asset(1), Amount: api.U{1}}), false},
		{"a channel of 33 bytes", held(api.Hold{Channel: rep(1, 33), Asset: asset(1), Amount: api.U{1}}), false},
		{"an asset of 19 bytes", held(api.Hold{Channel: ch(1), Asset: rep(1, 19), Amount: api.U{1}}), false},
		{"an asset of 21 bytes", held(api.Hold{Channel: ch(1), Asset: rep(1, 21), Amount: api.U{1}}), false},
		{"no names", held(api.Hold{Amount: api.U{1}}), false},
		{"all there can be", held(api.Hold{Channel: ch(1), Asset: asset(1), Amount: high}, api.Hold{Channel: ch(2), Asset: asset(1), Amount: low}), true},
		{"1 more", held(api.Hold{Channel: ch(1), Asset: asset(1), Amount: high}, api.Hold{Channel: ch(2), Asset: asset(1), Amount: high}), false},
		{"1 more by the last one", held(api.Hold{Channel: ch(1), Asset: asset(1), Amount: high}, api.Hold{Channel: ch(2), Asset: asset(1), Amount: low}, hold(3, 1, 1)), false},
		{"as much of each of two", held(api.Hold{Channel: ch(1), Asset: asset(1), Amount: most()}, api.Hold{Channel: ch(1), Asset: asset(2), Amount: most()}), true},
		{"200 holds", held(manyHolds(200, 1)...), true},
		{"201 holds", held(manyHolds(201, 1)...), false},
		{"cases", of(func(*api.Case) {}), true},
		{"200 cases", api.Judge{Cases: manyCases(200)}, true},
		{"201 cases", api.Judge{Cases: manyCases(201)}, false},
		{"200 of both", api.Judge{Holds: manyHolds(200, 1), Cases: manyCases(200)}, true},
		{"a case twice", of(func(c *api.Case) { c.Channel = ch(1) }), false},
		{"cases fall", of(func(c *api.Case) { c.Channel = ch(4) }), false},
		{"a case's channel of 31 bytes", of(func(c *api.Case) { c.Channel = rep(2, 31) }), false},
		{"a case's channel of 33 bytes", of(func(c *api.Case) { c.Channel = rep(2, 33) }), false},
		{"a case's channel of none", api.Judge{Cases: []api.Case{{Digest: rep(1, 32)}}}, false},
		{"the turn 0", of(func(c *api.Case) { c.Turn = 0 }), true},
		{"the last turn", of(func(c *api.Case) { c.Turn = 1 << 40 }), true},
		{"one turn more", of(func(c *api.Case) { c.Turn = 1<<40 + 1 }), false},
		{"far more", of(func(c *api.Case) { c.Turn = top }), false},
		{"not challenged", of(func(c *api.Case) { c.Ends = 0 }), true},
		{"ends at 1", of(func(c *api.Case) { c.Ends = 1 }), true},
		{"ends below 0", of(func(c *api.Case) { c.Ends = -1 }), false},
		{"ends far below", of(func(c *api.Case) { c.Ends = math.MinInt }), false},
		{"ends at last", of(func(c *api.Case) { c.Ends = 1 << 41 }), true},
		{"ends 1 later", of(func(c *api.Case) { c.Ends = 1<<41 + 1 }), false},
		{"ends far later", of(func(c *api.Case) { c.Ends = math.MaxInt }), false},
		{"a digest of 31 bytes", of(func(c *api.Case) { c.Digest = rep(1, 31) }), false},
		{"a digest of 33 bytes", of(func(c *api.Case) { c.Digest = rep(1, 33) }), false},
		{"no digest", of(func(c *api.Case) { c.Digest = "" }), false},
		{"digests alike", of(func(c *api.Case) { c.Digest = known(1, 1).Digest }), true},
		{"no exits", of(func(c *api.Case) { c.Exits = nil }), true},
		{"three exits", of(func(c *api.Case) { c.Exits = []api.Exit{exit(1), exit(2), exit(3)} }), true},
		{"four exits", of(func(c *api.Case) { c.Exits = []api.Exit{exit(1), exit(2), exit(3), exit(4)} }), false},
		{"exits fall", of(func(c *api.Case) { c.Exits = []api.Exit{exit(2), exit(1)} }), false},
		{"an exit twice", of(func(c *api.Case) { c.Exits = []api.Exit{exit(2), exit(2)} }), false},
		{"eight allocations", of(func(c *api.Case) { c.Exits = []api.Exit{exit(1, slices.Repeat([]api.Alloc{plain(to(1), 5)}, 8)...)} }), true},
		{"nine allocations", of(func(c *api.Case) { c.Exits = []api.Exit{exit(1, slices.Repeat([]api.Alloc{plain(to(1), 5)}, 9)...)} }), false},
		{"a bound allocation", of(func(c *api.Case) { c.Exits = []api.Exit{exit(1, bound(3, 5, to(1), to(2)))} }), true},
		{"bound to no sides", of(func(c *api.Case) { c.Exits = []api.Exit{exit(1, bound(3, 5, "", ""))} }), false},
		{"of no destination", of(func(c *api.Case) { c.Exits = []api.Exit{exit(1, plain("", 5))} }), false},
		{"of a kind that is none", of(func(c *api.Case) { c.Exits = []api.Exit{exit(1, api.Alloc{Dest: to(1), Kind: 2})} }), false},
		{"amounts that go over", of(func(c *api.Case) {
			c.Exits = []api.Exit{exit(1, api.Alloc{Dest: to(1), Amount: most()}, plain(to(1), 1))}
		}), false},
	} {
		if got := Fit(c.j); got != c.want {
			t.Errorf("%s: %v", c.what, got)
		}
		// What the test holds all else against must tell the same.
		if got := plainFit(c.j); got != c.want {
			t.Errorf("%s: by the test's words %v", c.what, got)
		}
	}
}

// P19.1: what is held, by channel and asset.
func TestHeld(t *testing.T) {
	j := api.Judge{Holds: []api.Hold{hold(1, 2, 5), hold(3, 1, 6), hold(3, 2, 7), hold(5, 2, 8)}}
	for channel := range byte(8) {
		for of := range byte(4) {
			want := api.U{}
			for _, h := range j.Holds {
				if h.Channel == ch(channel) && h.Asset == asset(of) {
					want = h.Amount
				}
			}
			if got := Held(j, ch(channel), asset(of)); got != want {
				t.Errorf("of %d for %d: %v, want %v", of, channel, got, want)
			}
		}
	}
	for _, name := range []string{"", rep(3, 31), rep(3, 33), rep(255, 32)} {
		if got := Held(j, name, asset(2)); got != (api.U{}) {
			t.Errorf("for %x: %v", name, got)
		}
	}
	for _, name := range []string{"", rep(2, 19), rep(2, 21), rep(255, 20)} {
		if got := Held(j, ch(3), name); got != (api.U{}) {
			t.Errorf("of %x: %v", name, got)
		}
	}
	if Held(api.Judge{}, ch(1), asset(1)) != (api.U{}) {
		t.Error("nothing is held by a fresh judge")
	}
	for i, h := range manyHolds(200, 1) {
		if Held(api.Judge{Holds: manyHolds(200, 1)}, h.Channel, h.Asset) != (api.U{1}) {
			t.Errorf("hold %d of 200 is not found", i)
		}
	}
}

// P19.1: what is known, all fields of it.
func TestFind(t *testing.T) {
	j := api.Judge{Cases: []api.Case{known(1, 4), known(3, 5, exit(1, plain(to(1), 5), bound(9, 6, to(1), to(2))), exit(2)), known(5, 6, exit(3))}}
	for channel := range byte(8) {
		want, wantThere := plainCase(j, ch(channel))
		got, there := Find(j, ch(channel))
		if there != wantThere || !reflect.DeepEqual(got, want) {
			t.Errorf("channel %d: %v, %v", channel, got, there)
		}
	}
	for _, name := range []string{"", rep(3, 31), rep(3, 33), rep(255, 32)} {
		if got, there := Find(j, name); there || !reflect.DeepEqual(got, api.Case{}) {
			t.Errorf("channel %x: %v, %v", name, got, there)
		}
	}
	if got, there := Find(api.Judge{}, ch(1)); there || !reflect.DeepEqual(got, api.Case{}) {
		t.Errorf("of a fresh judge: %v, %v", got, there)
	}
	for i, c := range manyCases(200) {
		if got, there := Find(api.Judge{Cases: manyCases(200)}, c.Channel); !there || got.Channel != c.Channel {
			t.Errorf("case %d of 200 is not found", i)
		}
	}
}

// P19.1: a channel has ended from its Ends on; at what is no moment none has.
func TestFinal(t *testing.T) {
	ending := func(ends int) api.Case { return api.Case{Ends: ends, Digest: rep(1, 32)} }
	for _, c := range []struct {
		what      string
		ends, now int
		want      bool
	}{
		{"not challenged", 0, 1, false},
		{"not challenged, at last", 0, 1 << 40, false},
		{"1 ahead", 5, 4, false},
		{"just then", 5, 5, true},
		{"1 behind", 5, 6, true},
		{"far behind", 5, 1 << 40, true},
		{"at the first moment", 1, 1, true},
		{"1 ahead, at the first", 2, 1, false},
		{"at the last moment", 1 << 40, 1 << 40, true},
		{"behind all moments", 1<<40 + 1, 1 << 40, false},
		{"behind all moments, then", 1<<40 + 1, 1<<40 + 1, false},
		{"at 0", 5, 0, false},
		{"below 0", 5, -1, false},
		{"far below 0", 5, math.MinInt, false},
		{"beyond the last one", 5, 1<<40 + 1, false},
		{"far beyond", 5, math.MaxInt, false},
	} {
		j := api.Judge{Cases: []api.Case{known(1, 1), ending(c.ends), known(3, 1)}}
		j.Cases[1].Channel = ch(2)
		if got := Final(j, c.now, ch(2)); got != c.want {
			t.Errorf("%s: %v", c.what, got)
		}
		for _, name := range []string{"", ch(0), ch(4), rep(2, 31), rep(2, 33)} {
			if Final(j, c.now, name) {
				t.Errorf("%s: %x has ended", c.what, name)
			}
		}
	}
}

// P19.2: more is held, wherever it stands; all else stays.
func TestDeposit(t *testing.T) {
	cases := []api.Case{known(2, 4, exit(1, plain(to(1), 5)))}
	j := api.Judge{Holds: []api.Hold{hold(2, 1, 5), hold(2, 3, 6), hold(4, 2, 7)}, Cases: cases}
	at := func(l ...api.Hold) api.Judge { return api.Judge{Holds: l, Cases: cases} }
	for _, c := range []struct {
		what        string
		channel, of byte
		expect, n   uint64
		want        api.Judge
	}{
		{"to the first", 2, 1, 5, 3, at(hold(2, 1, 8), hold(2, 3, 6), hold(4, 2, 7))},
		{"to one between", 2, 3, 6, 3, at(hold(2, 1, 5), hold(2, 3, 9), hold(4, 2, 7))},
		{"to the last", 4, 2, 7, 3, at(hold(2, 1, 5), hold(2, 3, 6), hold(4, 2, 10))},
		{"anew ahead of all", 1, 9, 0, 3, at(hold(1, 9, 3), hold(2, 1, 5), hold(2, 3, 6), hold(4, 2, 7))},
		{"anew between two of a channel", 2, 2, 0, 3, at(hold(2, 1, 5), hold(2, 2, 3), hold(2, 3, 6), hold(4, 2, 7))},
		{"anew between two channels", 3, 2, 0, 3, at(hold(2, 1, 5), hold(2, 3, 6), hold(3, 2, 3), hold(4, 2, 7))},
		{"anew behind all", 4, 3, 0, 3, at(hold(2, 1, 5), hold(2, 3, 6), hold(4, 2, 7), hold(4, 3, 3))},
		{"anew of a channel that begins with noughts", 0, 0, 0, 3, at(hold(0, 0, 3), hold(2, 1, 5), hold(2, 3, 6), hold(4, 2, 7))},
		{"nothing to one that is there", 2, 1, 5, 0, j},
		{"nothing to one that is not", 3, 2, 0, 0, j},
	} {
		got, err := Deposit(j, ch(c.channel), asset(c.of), api.U{c.expect}, api.U{c.n})
		want(t, c.what, got, err, c.want, api.OK)
	}
	got, err := Deposit(api.Judge{}, ch(1), asset(1), api.U{}, api.U{5})
	want(t, "to a fresh judge", got, err, at5(), api.OK)
	got, err = Deposit(got, ch(1), asset(1), api.U{5}, api.U{top})
	want(t, "with a carry", got, err, api.Judge{Holds: []api.Hold{{Channel: ch(1), Asset: asset(1), Amount: api.U{4, 1}}}}, api.OK)
	got, err = Deposit(api.Judge{}, ch(1), asset(1), api.U{}, api.U{})
	want(t, "nothing to a fresh judge", got, err, api.Judge{}, api.OK)
}

// at5 holds 5 of the asset 1 for the channel 1.
func at5() api.Judge { return api.Judge{Holds: []api.Hold{hold(1, 1, 5)}} }

// P19.2: what is wrong, in the order of the chapter; beside the error the judge is as it was.
func TestDepositErrors(t *testing.T) {
	high := api.U{0, 0, 0, 1 << 63}
	j := api.Judge{Holds: []api.Hold{{Channel: ch(1), Asset: asset(1), Amount: high}, hold(2, 1, 5), hold(2, 2, 6)}, Cases: []api.Case{known(2, 1)}}
	low := api.U{top - 5, top, top, 1<<63 - 1}
	full := api.Judge{Holds: manyHolds(200, 1)}
	fuller := api.Judge{Holds: manyHolds(200, 1)}
	fuller.Holds[0].Amount = high
	for _, c := range []struct {
		what           string
		j              api.Judge
		channel, asset string
		expect, n      api.U
		want           api.Errno
	}{
		{"no channel", j, "", asset(1), api.U{}, api.U{1}, api.ErrForm},
		{"a channel of 31 bytes", j, rep(1, 31), asset(1), api.U{}, api.U{1}, api.ErrForm},
		{"a channel of 33 bytes", j, rep(1, 33), asset(1), api.U{}, api.U{1}, api.ErrForm},
		{"no asset", j, ch(1), "", api.U{}, api.U{1}, api.ErrForm},
		{"an asset of 19 bytes", j, ch(1), rep(1, 19), api.U{}, api.U{1}, api.ErrForm},
		{"an asset of 21 bytes", j, ch(1), rep(1, 21), api.U{}, api.U{1}, api.ErrForm},
		{"no channel, and another state", j, "", asset(1), api.U{1}, api.U{1}, api.ErrForm},
		{"no asset, of nothing", j, ch(1), "", api.U{}, api.U{}, api.ErrForm},
		{"1 less expected", j, ch(2), asset(1), api.U{4}, api.U{1}, api.ErrState},
		{"1 more expected", j, ch(2), asset(1), api.U{6}, api.U{1}, api.ErrState},
		{"none expected", j, ch(2), asset(1), api.U{}, api.U{1}, api.ErrState},
		{"another part expected", j, ch(2), asset(1), api.U{5, 1}, api.U{1}, api.ErrState},
		{"some expected", j, ch(3), asset(1), api.U{1}, api.U{1}, api.ErrState},
		{"another asset's expected", j, ch(2), asset(2), api.U{5}, api.U{1}, api.ErrState},
		{"another state, of nothing", j, ch(2), asset(1), api.U{4}, api.U{}, api.ErrState},
		{"another state, and over", j, ch(1), asset(1), api.U{}, most(), api.ErrState},
		{"over with its own", j, ch(1), asset(1), high, high, api.ErrOver},
		{"over with the other channels'", j, ch(3), asset(1), api.U{}, high, api.ErrOver},
		{"over by 1", j, ch(2), asset(1), api.U{5}, api.U{top - 4, top, top, 1<<63 - 1}, api.ErrOver},
		{"just not over", j, ch(2), asset(1), api.U{5}, low, api.OK},
		{"as much of another asset", j, ch(3), asset(3), api.U{}, most(), api.OK},
		{"another asset's, over by 1", j, ch(3), asset(2), api.U{}, api.U{top - 5, top, top, top}, api.ErrOver},
		{"another asset's, just not over", j, ch(3), asset(2), api.U{}, api.U{top - 6, top, top, top}, api.OK},
		{"the 201st", full, ch(1), asset(1), api.U{}, api.U{1}, api.ErrMany},
		{"the 201st, behind all", full, ch(255), asset(1), api.U{}, api.U{1}, api.ErrMany},
		{"the 201st, of a channel that is there", full, full.Holds[7].Channel, asset(2), api.U{}, api.U{1}, api.ErrMany},
		{"the 201st, and over", fuller, ch(1), asset(1), api.U{}, high, api.ErrOver},
		{"the 201st, and another state", full, ch(1), asset(1), api.U{1}, api.U{1}, api.ErrState},
		{"one of the 200", full, full.Holds[199].Channel, asset(1), api.U{1}, api.U{1}, api.OK},
		{"nothing beside the 200", full, ch(1), asset(1), api.U{}, api.U{}, api.OK},
	} {
		got, err := Deposit(c.j, c.channel, c.asset, c.expect, c.n)
		if err != c.want || err != api.OK && !reflect.DeepEqual(got, c.j) {
			t.Errorf("%s: error %d, want %d; beside it %v", c.what, err, c.want, got)
		}
		if !Fit(got) {
			t.Errorf("%s: not fit", c.what)
		}
	}
	got, err := Deposit(api.Judge{Holds: manyHolds(199, 1)}, manyHolds(200, 1)[199].Channel, asset(1), api.U{}, api.U{1})
	want(t, "the 200th", got, err, full, api.OK)
}

// P19.2: money may be laid down for a channel that has ended: no sentence is against it.
func TestDepositBehindTheEnd(t *testing.T) {
	j := api.Judge{Cases: []api.Case{known(1, 1, exit(1, plain(to(1), 5)))}}
	got, err := Deposit(j, ch(1), asset(1), api.U{}, api.U{5})
	want(t, "laid down", got, err, api.Judge{Holds: at5().Holds, Cases: j.Cases}, api.OK)
}

// stood is a state of a turn, with some money in all fields.
func stood(turn uint64, final bool) api.Var {
	return api.Var{Turn: turn, Final: final, Data: "d", Exits: []api.Exit{exit(1, plain(to(1), 5), bound(9, 6, to(1), to(2))), exit(2, plain(to(2), turn))}}
}

// P19.3, P19.4: what each call says of each case that there may be, one ahead, at and behind each edge of turns and moments.
func TestTurnsAndEnds(t *testing.T) {
	f := channel(t, 2, 7, 3)
	id := state.Id(f)
	proofs := map[[2]int][]api.Signed{}
	for turn := 8; turn <= 10; turn++ {
		proofs[[2]int{turn, 0}] = byAll(t, f, stood(uint64(turn), false))
		proofs[[2]int{turn, 1}] = byAll(t, f, stood(uint64(turn), true))
	}
	type rule struct {
		name string
		do   func(api.Judge, int, api.Fixed, []api.Signed) (api.Judge, api.Errno)
		// old tells whether a turn can't be laid down beside a case of turn 9.
		old  func(turn, ends int) bool
		ends int
	}
	const now = 20
	for _, r := range []rule{
		{"challenge", Challenge, func(turn, ends int) bool { return turn < 9 || turn == 9 && ends > 0 }, now + 7},
		{"checkpoint", Checkpoint, func(turn, ends int) bool { return turn <= 9 }, 0},
		{"conclude", Conclude, func(turn, ends int) bool { return false }, now},
	} {
		for at, l := range proofs {
			turn, final := at[0], at[1] == 1
			check := func(what string, j api.Judge, e api.Errno) {
				t.Helper()
				got, err := r.do(j, now, f, l)
				expect := j
				if e == api.OK {
					expect, _ = plainLay(j, laid(f, stood(uint64(turn), final), r.ends))
				}
				want(t, fmt.Sprintf("%s: turn %d, final %v, %s", r.name, turn, final, what), got, err, expect, e)
			}
			unless := func(e api.Errno) api.Errno {
				if r.name == "conclude" && !final {
					return api.ErrOpen
				}
				return e
			}
			check("a fresh judge", api.Judge{}, unless(api.OK))
			check("a judge of other channels", api.Judge{Holds: at5().Holds, Cases: []api.Case{known(0, 99), known(255, 99)}}, unless(api.OK))
			for _, ends := range []int{0, 1, 19, 20, 21, 1 << 41} {
				j := api.Judge{Holds: at5().Holds, Cases: []api.Case{known(0, 99), {Channel: id, Turn: 9, Ends: ends, Digest: rep(7, 32), Exits: []api.Exit{exit(4)}}, known(255, 99)}}
				e := api.OK
				switch {
				case ends > 0 && ends <= now:
					e = api.ErrFinal
				case r.old(turn, ends):
					e = api.ErrTurn
				}
				check(fmt.Sprintf("one of turn 9 that ends at %d", ends), j, unless(e))
			}
		}
	}
}

// P19.3, P19.4: a moment that is none goes ahead of all; the last one is one, and a challenge then ends behind all.
func TestMoments(t *testing.T) {
	f := channel(t, 2, api.MaxTime, 3)
	v := stood(9, true)
	l := byAll(t, f, v)
	j := api.Judge{Holds: at5().Holds, Cases: []api.Case{known(1, 4, exit(1, plain(to(1), 5), bound(1, 5, to(1), to(2))))}}
	for _, now := range []int{0, -1, 1<<40 + 1, math.MinInt, math.MaxInt} {
		for _, proof := range [][]api.Signed{l, nil} {
			got, err := Challenge(j, now, f, proof)
			want(t, "challenge", got, err, j, api.ErrTime)
			got, err = Checkpoint(j, now, f, proof)
			want(t, "checkpoint", got, err, j, api.ErrTime)
			got, err = Conclude(j, now, f, proof)
			want(t, "conclude", got, err, j, api.ErrTime)
		}
		for _, of := range []byte{1, 2} {
			got, coins, err := Transfer(j, now, ch(of), asset(1), nil)
			want(t, "transfer", got, err, j, api.ErrTime)
			if coins != nil {
				t.Errorf("coins at %d: %v", now, coins)
			}
			got, err = Claim(j, now, ch(of), asset(1), 9)
			want(t, "claim", got, err, j, api.ErrTime)
		}
	}
	for _, now := range []int{1, 1 << 40} {
		got, err := Challenge(api.Judge{}, now, f, l)
		want(t, "challenge", got, err, api.Judge{Cases: []api.Case{laid(f, v, now+1<<20)}}, api.OK)
		if !Fit(got) || Final(got, now, state.Id(f)) {
			t.Errorf("challenged at %d: %v", now, got)
		}
		got, err = Checkpoint(api.Judge{}, now, f, l)
		want(t, "checkpoint", got, err, api.Judge{Cases: []api.Case{laid(f, v, 0)}}, api.OK)
		got, err = Conclude(api.Judge{}, now, f, l)
		want(t, "conclude", got, err, api.Judge{Cases: []api.Case{laid(f, v, now)}}, api.OK)
		if !Fit(got) || !Final(got, now, state.Id(f)) {
			t.Errorf("concluded at %d: %v", now, got)
		}
	}
}

// P19.3, P19.4: proof.Support's error goes ahead of what the case tells.
func TestProofErrors(t *testing.T) {
	f := channel(t, 2, 7, 3)
	v := stood(9, true)
	one := signed(t, f, v, 0)
	bad := byAll(t, f, v)
	bad[0].Seals[1].R = api.U{5}
	later, unfit := v, v
	later.Turn = 11
	unfit.Turn = api.MaxTurn + 1
	skipped := slices.Concat(byAll(t, f, v), byAll(t, f, later))
	elsewhere := f
	elsewhere.Nonce++
	ended := laid(f, stood(50, false), 1)
	j := api.Judge{Cases: []api.Case{ended}}
	for _, c := range []struct {
		what string
		f    api.Fixed
		l    []api.Signed
		want api.Errno
	}{
		{"none", f, nil, api.ErrForm},
		{"an empty list", f, []api.Signed{}, api.ErrForm},
		{"three of two", f, slices.Repeat(byAll(t, f, v), 3), api.ErrForm},
		{"a state that is not fit", f, []api.Signed{{Var: unfit}}, api.ErrForm},
		{"no channel", api.Fixed{}, byAll(t, f, v), api.ErrForm},
		{"a turn that is not to come", f, skipped, api.ErrTurn},
		{"a seal that is none", f, bad, api.ErrSeal},
		{"another channel's seals", elsewhere, byAll(t, f, v), api.ErrSeal},
		{"one alone", f, []api.Signed{one}, api.ErrProof},
		{"no seals", f, []api.Signed{{Var: v}}, api.ErrProof},
		{"all, but the channel has ended", f, byAll(t, f, v), api.ErrFinal},
	} {
		got, err := Challenge(j, 20, c.f, c.l)
		want(t, "challenge of "+c.what, got, err, j, c.want)
		got, err = Checkpoint(j, 20, c.f, c.l)
		want(t, "checkpoint of "+c.what, got, err, j, c.want)
		got, err = Conclude(j, 20, c.f, c.l)
		want(t, "conclude of "+c.what, got, err, j, c.want)
	}
}

// P19.3, P19.4: of a row the last state is laid down; to conclude takes one alone.
func TestRows(t *testing.T) {
	f := channel(t, 3, 7, 3)
	v, w := stood(7, false), stood(7, false)
	w.Turn, w.Final = 8, true
	// Turn 7 is the participant 1's, turn 8 the participant 2's; 0, whose turn neither is, has agreed to one of them.
	row := []api.Signed{signed(t, f, v, 0, 1), signed(t, f, w, 2)}
	got, err := Challenge(api.Judge{}, 20, f, row)
	want(t, "challenge", got, err, api.Judge{Cases: []api.Case{laid(f, w, 27)}}, api.OK)
	got, err = Checkpoint(api.Judge{}, 20, f, row)
	want(t, "checkpoint", got, err, api.Judge{Cases: []api.Case{laid(f, w, 0)}}, api.OK)
	for _, j := range []api.Judge{{}, {Cases: []api.Case{laid(f, v, 5)}}} {
		got, err = Conclude(j, 20, f, row)
		want(t, "conclude of a row", got, err, j, api.ErrOpen)
		got, err = Conclude(j, 20, f, byAll(t, f, v))
		want(t, "conclude of what is not final", got, err, j, api.ErrOpen)
	}
	twice := []api.Signed{byAll(t, f, v)[0], byAll(t, f, w)[0]}
	got, err = Conclude(api.Judge{}, 20, f, twice)
	want(t, "conclude of a row that all signed", got, err, api.Judge{}, api.ErrOpen)
}

// P19.3, P19.4: there are 200 cases; one of them can still be laid down anew.
func TestManyCases(t *testing.T) {
	f := channel(t, 2, 7, 3)
	l, full := byAll(t, f, stood(9, true)), api.Judge{Holds: manyHolds(200, 1), Cases: manyCases(200)}
	one, _ := plainLay(api.Judge{Holds: full.Holds, Cases: manyCases(199)}, laid(f, stood(1, false), 0))
	for _, c := range []struct {
		what string
		do   func(api.Judge, int, api.Fixed, []api.Signed) (api.Judge, api.Errno)
		ends int
	}{
		{"challenge", Challenge, 27}, {"checkpoint", Checkpoint, 0}, {"conclude", Conclude, 20},
	} {
		got, err := c.do(full, 20, f, l)
		want(t, c.what+" beside 200", got, err, full, api.ErrMany)
		got, err = c.do(full, 20, f, nil)
		want(t, c.what+" beside 200 of no proof", got, err, full, api.ErrForm)
		same, _ := plainLay(one, laid(f, stood(9, true), c.ends))
		got, err = c.do(one, 20, f, l)
		want(t, c.what+" of one of 200", got, err, same, api.OK)
		got, err = c.do(api.Judge{Holds: full.Holds, Cases: manyCases(199)}, 20, f, l)
		want(t, c.what+" of the 200th", got, err, same, api.OK)
	}
}

// P19.3: a state without exits, or with such as are empty, is laid down with none of these.
func TestEmptyExits(t *testing.T) {
	f := channel(t, 2, 7, 3)
	for _, exits := range [][]api.Exit{nil, {}} {
		v := api.Var{Turn: 9, Exits: exits}
		got, err := Checkpoint(api.Judge{}, 20, f, byAll(t, f, v))
		want(t, "no exits", got, err, api.Judge{Cases: []api.Case{{Channel: state.Id(f), Turn: 9, Digest: state.Digest(f, v)}}}, api.OK)
	}
	v := api.Var{Turn: 9, Exits: []api.Exit{{Asset: asset(1), Allocs: []api.Alloc{}}}}
	got, err := Checkpoint(api.Judge{}, 20, f, byAll(t, f, v))
	want(t, "no allocations", got, err, api.Judge{Cases: []api.Case{{Channel: state.Id(f), Turn: 9, Digest: state.Digest(f, v), Exits: []api.Exit{exit(1)}}}}, api.OK)
}

// The chapter's examples.
func TestExample(t *testing.T) {
	f := channel(t, 2, 5, 0)
	id, v := state.Id(f), api.Var{Turn: 9, Final: true, Exits: []api.Exit{{Asset: asset(0), Allocs: []api.Alloc{{Dest: state.Dest(who(1)), Amount: api.U{5}}}}}}
	j, err := Deposit(api.Judge{}, id, asset(0), api.U{}, api.U{5})
	if err != api.OK {
		t.Fatalf("deposit: error %d", err)
	}
	if _, err = Deposit(j, id, asset(0), api.U{}, api.U{1}); err != api.ErrState {
		t.Errorf("deposit once more: error %d", err)
	}
	if j, err = Conclude(j, 3, f, byAll(t, f, v)); err != api.OK || !Final(j, 3, id) {
		t.Fatalf("conclude: error %d", err)
	}
	j, coins, err := Transfer(j, 3, id, asset(0), nil)
	if err != api.OK || !slices.Equal(coins, []api.Coin{coin(1, 0, 5)}) || j.Holds != nil {
		t.Errorf("transfer: %v, %v, error %d", j, coins, err)
	}
}
