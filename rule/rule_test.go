package rule

import (
	"encoding/hex"
	"fmt"
	"math"
	"slices"
	"strings"
	"testing"
	"time"

	"truce/api"
	"truce/hash"
	"truce/state"
	"truce/vm"
)

// P14.1: whose turn it is, of any channel.
func TestMover(t *testing.T) {
	for _, c := range []struct {
		n    int
		turn uint64
		want int
	}{
		{0, 0, 0}, {0, 5, 0}, {0, top, 0}, {1, 0, 0}, {1, 7, 0}, {1, top, 0},
		{2, 0, 0}, {2, 1, 1}, {2, 2, 0}, {2, 5, 1}, {2, top, 1}, {2, top - 1, 0},
		{3, 0, 0}, {3, 2, 2}, {3, 3, 0}, {3, 5, 2}, {3, top, 0}, {3, top - 1, 2}, {3, 1 << 63, 2},
		{4, 3, 3}, {4, 4, 0}, {4, 7, 3}, {4, api.MaxTurn, 0}, {4, api.MaxTurn + 1, 1}, {4, top, 3},
		{5, 4, 4}, {5, 9, 4}, {7, 20, 6}, {1000, 999, 999}, {1000, 1000, 0},
	} {
		f := api.Fixed{Parts: make([]string, c.n)}
		if got := Mover(f, c.turn); got != c.want {
			t.Errorf("Mover of %d participants, turn %d: %d", c.n, c.turn, got)
		}
	}
}

// word is a number's 64 digits.
func word(n uint64) string { return fmt.Sprintf("%064x", n) }

// P14.1: words written out: of a state with nothing, of one with data and an allocation.
func TestInputWords(t *testing.T) {
	a := api.Var{Turn: 3}
	b := api.Var{Turn: 4, Final: true, Data: "d", Exits: []api.Exit{exit(0, api.Alloc{Dest: dest(0), Amount: api.U{5}})}}
	first := []string{word(3), word(0), word(0x80), word(0xa0), word(0), word(0)}
	second := []string{
		word(4), word(1), word(0x80), word(0xc0), word(1), "64" + rep('0', 62),
		word(1), word(0x20), word(2), word(0), word(0x40),
		word(1), word(0x20), word(5), word(0), word(5), word(0), word(0), word(0),
	}
	for _, c := range []struct {
		a, b api.Var
		who  int
		want []string
	}{
		{a, b, 1, slices.Concat([]string{word(192)}, first, second, []string{word(1)})},
		{b, a, 0, slices.Concat([]string{word(608)}, second, first, []string{word(0)})},
		{a, a, 3, slices.Concat([]string{word(192)}, first, first, []string{word(3)})},
		{b, b, math.MaxInt, slices.Concat([]string{word(608)}, second, second, []string{word(math.MaxInt)})},
	} {
		if got := hex.EncodeToString([]byte(Input(channel(2, ""), c.a, c.b, c.who))); got != strings.Join(c.want, "") {
			t.Errorf("Input of %s and %s, %d: %s", show(c.a), show(c.b), c.who, got)
		}
	}
}

// unfitVars are beyond each bound of a state.
func unfitVars() []api.Var {
	one := plain(1)
	odd := func(change func(*api.Alloc)) api.Var {
		bad := one
		change(&bad)
		return api.Var{Turn: 9, Exits: []api.Exit{exit(1, one, bad)}}
	}
	return []api.Var{
		{Turn: api.MaxTurn + 1}, {Turn: top}, {Turn: 9, Data: rep(0, 257)},
		{Turn: 9, Exits: []api.Exit{exit(1), exit(2), exit(3), exit(4)}}, {Turn: 9, Exits: []api.Exit{exit(2), exit(1)}}, {Turn: 9, Exits: []api.Exit{exit(1), exit(1)}},
		{Turn: 9, Exits: []api.Exit{{Asset: rep(1, 19)}}}, {Turn: 9, Exits: []api.Exit{{Asset: rep(1, 21)}}}, {Turn: 9, Exits: []api.Exit{{}}},
		{Turn: 9, Exits: []api.Exit{exit(1, one, one, one, one, one, one, one, one, one)}},
		odd(func(a *api.Alloc) { a.Dest = rep(1, 31) }), odd(func(a *api.Alloc) { a.Dest = "" }), odd(func(a *api.Alloc) { a.Kind = 2 }), odd(func(a *api.Alloc) { a.Kind = -1 }),
		odd(func(a *api.Alloc) { a.Left = dest(1) }), odd(func(a *api.Alloc) { a.Kind = api.PayBound }), odd(func(a *api.Alloc) { a.Amount = all }),
	}
}

// unfitChannels are beyond each bound of a channel.
func unfitChannels(app string) []api.Fixed {
	out := []api.Fixed{channel(0, app), channel(1, app), channel(5, app), channel(2, rep(0x5b, api.MaxApp+1-len(app))+app)}
	for _, time := range []int{math.MinInt, -1, 0, api.MaxTime + 1, math.MaxInt} {
		f := channel(2, app)
		f.Time = time
		out = append(out, f)
	}
	for _, second := range []string{"", who(0), rep(1, 19), rep(1, 21)} {
		f := channel(2, app)
		f.Parts[1] = second
		out = append(out, f)
	}
	return out
}

// P14.1: "" where a state is not fit, or who is below 0; the channel plays no part, nor does how many there are.
func TestInputUnfit(t *testing.T) {
	f, v := channel(2, ""), api.Var{Turn: 8, Data: "x"}
	for _, bad := range unfitVars() {
		if Input(f, bad, v, 0) != "" || Input(f, v, bad, 0) != "" || Input(f, bad, bad, 0) != "" {
			t.Errorf("Input of %s", show(bad))
		}
	}
	for _, n := range []int{math.MinInt, -2, -1} {
		if got := Input(f, v, v, n); got != "" {
			t.Errorf("Input of %d: %x", n, got)
		}
	}
	for _, n := range []int{0, 1, 2, 3, 4, 255, 256, math.MaxInt} {
		want := Input(f, v, v, n)
		if !strings.HasSuffix(hex.EncodeToString([]byte(want)), word(uint64(n))) {
			t.Errorf("Input of %d: %x", n, want)
		}
		for _, other := range append(unfitChannels(""), api.Fixed{}, channel(4, "\x00")) {
			if Input(other, v, v, n) != want {
				t.Errorf("Input of another channel, %d", n)
			}
		}
	}
}

// P14.1: mixed states: the lengths lead to the parts.
func TestInputMixed(t *testing.T) {
	seed := uint64(141)
	for range 3000 {
		a, b, n := mixedVar(&seed), mixedVar(&seed), below(&seed, 5)
		got := Input(api.Fixed{}, a, b, n)
		first, second := state.Write(a), state.Write(b)
		if len(got) != 64+len(first)+len(second) || got[32:32+len(first)] != first || got[32+len(first):len(got)-32] != second {
			t.Fatalf("Input of %s and %s: %x", show(a), show(b), got)
		}
		ends := hex.EncodeToString([]byte(got[:32] + got[len(got)-32:]))
		if ends != word(uint64(len(first)))+word(uint64(n)) {
			t.Fatalf("Input of %s and %s: its ends are %s", show(a), show(b), ends)
		}
	}
}

// P14.2: a channel, a state that is not fit, one that is no participant: ahead of what the rule says.
func TestAllowsForm(t *testing.T) {
	one, v := code(t, "PUSH1 01"+tells), api.Var{Turn: 8}
	for _, app := range []string{one, "", "\xfe"} {
		for i, bad := range unfitChannels(app) {
			// A code that is too long for a channel tells 1, too.
			if got := Allows(bad, v, v, 0); got != api.ErrForm {
				t.Errorf("channel %d: %d", i, got)
			}
		}
		for _, bad := range unfitVars() {
			for _, got := range []api.Errno{Allows(channel(2, app), bad, v, 0), Allows(channel(2, app), v, bad, 0), Allows(channel(2, app), bad, bad, 5)} {
				if got != api.ErrForm {
					t.Errorf("Allows of %s: %d", show(bad), got)
				}
			}
		}
		want := api.ErrRule
		if app == one {
			want = api.OK
		}
		for n := 2; n <= 4; n++ {
			for _, k := range []int{math.MinInt, -1, n, n + 1, 4, 5, math.MaxInt} {
				if got := Allows(channel(n, app), v, v, k); (k < 0 || k >= n) && got != api.ErrForm {
					t.Errorf("Allows of %d, %d participants: %d", k, n, got)
				}
			}
			for k := range n {
				if got := Allows(channel(n, app), v, v, k); got != want {
					t.Errorf("Allows of %d, %d participants: %d", k, n, got)
				}
			}
		}
	}
}

// P14.2: what a code must tell: done, 32 bytes, the number 1.
func TestAllowsOut(t *testing.T) {
	v := api.Var{Turn: 8}
	for _, c := range []struct {
		text string
		want api.Errno
	}{
		{"", api.ErrRule}, {"STOP", api.ErrRule}, {"PUSH1 01", api.ErrRule}, {"PUSH1 01 PUSH0 MSTORE STOP", api.ErrRule},
		{"PUSH1 01" + tells, api.OK}, {"PUSH1 01" + tells + " INVALID", api.OK}, {"PUSH1 01 PUSH1 1f MSTORE8 PUSH1 20 PUSH0 RETURN", api.OK},
		{"PUSH0" + tells, api.ErrRule}, {"PUSH1 02" + tells, api.ErrRule}, {"PUSH1 03" + tells, api.ErrRule}, {"PUSH0 NOT" + tells, api.ErrRule}, {"PUSH2 0101" + tells, api.ErrRule},
		{"PUSH1 01 PUSH1 ff SHL PUSH1 01 OR" + tells, api.ErrRule}, {"PUSH1 01 PUSH1 40 SHL PUSH1 01 OR" + tells, api.ErrRule}, {"PUSH1 01 PUSH1 f8 SHL" + tells, api.ErrRule},
		{"PUSH1 01 PUSH0 MSTORE PUSH1 21 PUSH0 RETURN", api.ErrRule}, {"PUSH1 01 PUSH0 MSTORE PUSH1 1f PUSH1 01 RETURN", api.ErrRule}, {"PUSH1 01 PUSH0 MSTORE PUSH1 01 PUSH1 1f RETURN", api.ErrRule},
		{"PUSH1 01 PUSH1 20 MSTORE PUSH1 40 PUSH0 RETURN", api.ErrRule}, {"PUSH1 01 PUSH0 MSTORE PUSH1 40 PUSH0 RETURN", api.ErrRule}, {"PUSH1 01 PUSH0 MSTORE PUSH0 PUSH0 RETURN", api.ErrRule},
		{"PUSH1 01 PUSH0 MSTORE PUSH1 20 PUSH0 REVERT", api.ErrRule}, {"PUSH1 01 PUSH0 MSTORE INVALID", api.ErrRule}, {"RETURN", api.ErrRule}, {"ADD", api.ErrRule}, {"PUSH1 09 JUMP", api.ErrRule},
		{"JUMPDEST PUSH0 JUMP", api.ErrRule}, {"PUSH1 01 PUSH2 1000 MSTORE", api.ErrRule},
	} {
		f := channel(2, code(t, c.text))
		if got := Allows(f, v, v, 0); got != c.want {
			t.Errorf("%q: %d", c.text, got)
		}
		if got := Follows(f, api.Var{Turn: 8}, api.Var{Turn: 9}); got != c.want {
			t.Errorf("%q, Follows: %d", c.text, got)
		}
	}
}

// P14.2: a code has 20000 gas: no more, no less.
func TestAllowsGas(t *testing.T) {
	v := api.Var{Turn: 8}
	// GAS tells what is left behind it.
	for left, want := range map[string]api.Errno{"4e1d": api.ErrRule, "4e1e": api.OK, "4e1f": api.ErrRule} {
		if got := Allows(channel(2, code(t, "GAS PUSH2 "+left+" EQ"+tells)), v, v, 1); got != want {
			t.Errorf("gas %s: %d", left, got)
		}
	}
	// Powers take the most of it, JUMPDEST 1 each.
	most, some := code(t, "PUSH0 NOT DUP1 EXP POP"), code(t, "PUSH1 ff DUP1 EXP POP")
	heavy := strings.Repeat(most, 12) + strings.Repeat(some, 4) + code(t, "PUSH1 01"+tells)
	run := vm.Run(heavy, "", 20000)
	if run.Stand != api.RnDone || run.Gas < 1 || run.Gas > 400 {
		t.Fatalf("the code is poor: %d, gas %d", run.Stand, run.Gas)
	}
	for more, want := range map[int]api.Errno{-1: api.OK, 0: api.OK, 1: api.ErrRule, 2: api.ErrRule} {
		app := rep(0x5b, run.Gas+more) + heavy
		if got := Allows(channel(2, app), v, v, 0); got != want {
			t.Errorf("a code that takes %d: %d", 20000+more, got)
		}
	}
}

// P14.2: the code is given just Input: its digest is asked for.
func TestAllowsInput(t *testing.T) {
	seed := uint64(142)
	app := func(input string) string {
		sum := hex.EncodeToString([]byte(hash.Sum(input)))
		return code(t, "CALLDATASIZE PUSH0 PUSH0 CALLDATACOPY CALLDATASIZE PUSH0 KECCAK256 PUSH32 "+sum+" EQ"+tells)
	}
	for range 300 {
		a, b := mixedVar(&seed), mixedVar(&seed)
		// What is copied must have room in a run's memory.
		a.Exits, b.Exits = a.Exits[:min(len(a.Exits), 2)], b.Exits[:min(len(b.Exits), 2)]
		k := below(&seed, 3)
		f := channel(3, app(Input(api.Fixed{}, a, b, k)))
		if got := Allows(f, a, b, k); got != api.OK {
			t.Fatalf("Allows of its own input: %d", got)
		}
		if got := Allows(f, a, b, (k+1)%3); got != api.ErrRule {
			t.Fatalf("Allows of another participant: %d", got)
		}
		other := copied(b)
		other.Data += "y"
		if Allows(f, a, other, k) != api.ErrRule || Allows(f, other, b, k) != api.ErrRule {
			t.Fatal("Allows of another state")
		}
		if !state.Same(a, b) && Allows(f, b, a, k) != api.ErrRule {
			t.Fatal("Allows of both the other way round")
		}
	}
}

// P14.3: the chapter's example, and each question at both sides of its edge.
func TestFollows(t *testing.T) {
	one := code(t, "PUSH1 01"+tells)
	two, bare := channel(2, one), channel(2, "")
	five, six := []api.Exit{exit(1, plain(5))}, []api.Exit{exit(1, plain(6))}
	split := []api.Exit{exit(1, plain(2), bound(3))}
	none := []api.Exit{exit(1)}
	for i, c := range []struct {
		f    api.Fixed
		a, b api.Var
		want api.Errno
	}{
		{two, api.Var{Turn: 4}, api.Var{Turn: 5, Data: "x"}, api.OK}, {two, api.Var{Turn: 4}, api.Var{Turn: 6}, api.ErrTurn}, {bare, api.Var{Turn: 4}, api.Var{Turn: 5, Data: "x"}, api.ErrRule},
		// Turns.
		{two, api.Var{Turn: 4}, api.Var{Turn: 4}, api.ErrTurn}, {two, api.Var{Turn: 4}, api.Var{Turn: 3}, api.ErrTurn}, {two, api.Var{Turn: 1}, api.Var{}, api.ErrTurn}, {two, api.Var{}, api.Var{}, api.ErrTurn},
		{two, api.Var{Turn: api.MaxTurn - 1}, api.Var{Turn: api.MaxTurn}, api.OK}, {two, api.Var{Turn: api.MaxTurn}, api.Var{Turn: api.MaxTurn}, api.ErrTurn}, {two, api.Var{Turn: api.MaxTurn}, api.Var{Turn: api.MaxTurn + 1}, api.ErrForm},
		{two, api.Var{Turn: top}, api.Var{}, api.ErrForm}, {two, api.Var{Turn: api.MaxTurn}, api.Var{}, api.ErrTurn},
		// The first turns: nothing changes, and no rule is asked.
		{bare, api.Var{}, api.Var{Turn: 1}, api.OK}, {bare, api.Var{Turn: 2, Data: "d", Exits: five}, api.Var{Turn: 3, Data: "d", Exits: five}, api.OK},
		{two, api.Var{Turn: 2}, api.Var{Turn: 3, Data: "x"}, api.ErrRule}, {two, api.Var{Turn: 3}, api.Var{Turn: 4, Data: "x"}, api.OK}, {bare, api.Var{Turn: 3}, api.Var{Turn: 4}, api.ErrRule},
		{two, api.Var{Turn: 2, Exits: five}, api.Var{Turn: 3, Exits: split}, api.ErrRule}, {two, api.Var{Turn: 3, Exits: five}, api.Var{Turn: 4, Exits: split}, api.OK},
		{two, api.Var{Turn: 2, Exits: none}, api.Var{Turn: 3}, api.ErrRule}, {two, api.Var{Turn: 3, Exits: none}, api.Var{Turn: 4}, api.OK}, {two, api.Var{Turn: 3}, api.Var{Turn: 4, Exits: none}, api.OK},
		{two, api.Var{Turn: 2}, api.Var{Turn: 3, Final: true}, api.ErrRule}, {two, api.Var{Turn: 3}, api.Var{Turn: 4, Final: true}, api.OK}, {two, api.Var{Turn: 2, Final: true}, api.Var{Turn: 3, Final: true}, api.ErrRule},
		{two, api.Var{Exits: []api.Exit{}}, api.Var{Turn: 1}, api.OK}, {two, api.Var{Exits: []api.Exit{{Asset: who(1), Allocs: []api.Alloc{}}}}, api.Var{Turn: 1, Exits: none}, api.OK},
		// Final states: the outcome stays, the data may change, and no rule is asked.
		{two, api.Var{Turn: 8, Final: true}, api.Var{Turn: 9}, api.ErrFinal}, {two, api.Var{Turn: 1, Final: true}, api.Var{Turn: 2, Data: "x"}, api.ErrFinal}, {two, api.Var{Turn: 8, Final: true}, api.Var{Turn: 10}, api.ErrTurn},
		{bare, api.Var{Turn: 8, Final: true}, api.Var{Turn: 9, Final: true}, api.OK}, {bare, api.Var{Turn: 8, Exits: five}, api.Var{Turn: 9, Final: true, Data: "x", Exits: five}, api.OK},
		{two, api.Var{Turn: 8, Exits: five}, api.Var{Turn: 9, Final: true, Exits: split}, api.ErrRule}, {two, api.Var{Turn: 8, Final: true, Exits: five}, api.Var{Turn: 9, Final: true, Exits: six}, api.ErrRule},
		{two, api.Var{Turn: 8, Exits: none}, api.Var{Turn: 9, Final: true}, api.ErrRule}, {channel(2, "\xfe"), api.Var{Turn: 8}, api.Var{Turn: 9, Final: true}, api.OK},
		// Totals.
		{two, api.Var{Turn: 8, Exits: five}, api.Var{Turn: 9, Exits: split}, api.OK}, {two, api.Var{Turn: 8, Exits: five}, api.Var{Turn: 9, Exits: six}, api.ErrRule}, {two, api.Var{Turn: 8, Exits: six}, api.Var{Turn: 9, Exits: five}, api.ErrRule},
		{two, api.Var{Turn: 8, Exits: five}, api.Var{Turn: 9}, api.ErrRule}, {two, api.Var{Turn: 8}, api.Var{Turn: 9, Exits: five}, api.ErrRule}, {two, api.Var{Turn: 8, Exits: five}, api.Var{Turn: 9, Exits: none}, api.ErrRule},
		{two, api.Var{Turn: 8, Exits: five}, api.Var{Turn: 9, Exits: []api.Exit{exit(2, plain(5))}}, api.ErrRule}, {two, api.Var{Turn: 8, Exits: five}, api.Var{Turn: 9, Exits: []api.Exit{exit(1, plain(5)), exit(2)}}, api.OK},
		{two, api.Var{Turn: 8, Exits: []api.Exit{exit(1, plain(5)), exit(2, plain(6))}}, api.Var{Turn: 9, Exits: []api.Exit{exit(1, plain(6)), exit(2, plain(5))}}, api.ErrRule},
		{two, api.Var{Turn: 8, Exits: []api.Exit{exit(0, plain(0)), exit(1, plain(5))}}, api.Var{Turn: 9, Exits: []api.Exit{exit(1, plain(5)), exit(2, plain(0))}}, api.OK},
		{two, api.Var{Turn: 8, Exits: five}, api.Var{Turn: 9, Exits: []api.Exit{exit(1, api.Alloc{Dest: dest(1), Amount: api.U{5, 0, 0, 1}})}}, api.ErrRule},
		{bare, api.Var{Turn: 8, Exits: five}, api.Var{Turn: 9, Exits: five}, api.ErrRule},
	} {
		if got := Follows(c.f, c.a, c.b); got != c.want {
			t.Errorf("%d: %s, then %s: %d", i, show(c.a), show(c.b), got)
		}
	}
}

// P14.3: the first turns are twice as many as there are participants.
func TestFirstTurns(t *testing.T) {
	one := code(t, "PUSH1 01"+tells)
	for n := 2; n <= 4; n++ {
		for turn := range uint64(12) {
			a, b := api.Var{Turn: turn}, api.Var{Turn: turn + 1}
			changed, final := b, b
			changed.Data, final.Final = "x", true
			first := turn+1 < uint64(2*n)
			want := map[bool]api.Errno{true: api.OK, false: api.ErrRule}
			if got := Follows(channel(n, ""), a, b); got != want[first] {
				t.Errorf("%d participants, turn %d, no code: %d", n, turn+1, got)
			}
			if got := Follows(channel(n, one), a, b); got != api.OK {
				t.Errorf("%d participants, turn %d: %d", n, turn+1, got)
			}
			if got := Follows(channel(n, one), a, changed); got != want[!first] {
				t.Errorf("%d participants, turn %d, other data: %d", n, turn+1, got)
			}
			if got := Follows(channel(n, ""), a, final); got != want[!first] {
				t.Errorf("%d participants, turn %d, final: %d", n, turn+1, got)
			}
		}
	}
}

// P14.3: the rule is asked by whose turn the second state is.
func TestFollowsMover(t *testing.T) {
	for n := 2; n <= 4; n++ {
		for k := range 4 {
			app := code(t, fmt.Sprintf("PUSH1 20 CALLDATASIZE SUB CALLDATALOAD PUSH1 %02x EQ", k)+tells)
			for turn := uint64(7); turn < 20; turn++ {
				want := api.ErrRule
				if int(turn+1)%n == k {
					want = api.OK
				}
				if got := Follows(channel(n, app), api.Var{Turn: turn}, api.Var{Turn: turn + 1}); got != want {
					t.Errorf("%d participants, %d wanted, turn %d: %d", n, k, turn+1, got)
				}
			}
		}
	}
}

// P14.3, 0.2: what is not fit is told ahead of all else.
func TestFollowsForm(t *testing.T) {
	one := code(t, "PUSH1 01"+tells)
	v := api.Var{Turn: 8, Final: true, Exits: []api.Exit{exit(1, plain(5))}}
	for i, f := range unfitChannels(one) {
		for _, next := range []api.Var{{Turn: 9}, {Turn: 9, Final: true, Exits: v.Exits}, {Turn: 3}} {
			if got := Follows(f, v, next); got != api.ErrForm {
				t.Errorf("channel %d: %d", i, got)
			}
		}
	}
	for _, bad := range unfitVars() {
		for _, got := range []api.Errno{Follows(channel(2, one), bad, v), Follows(channel(2, one), v, bad), Follows(channel(2, one), bad, bad), Follows(channel(2, one), bad, api.Var{Turn: bad.Turn + 1})} {
			if got != api.ErrForm {
				t.Errorf("Follows of %s: %d", show(bad), got)
			}
		}
	}
	if got := Follows(api.Fixed{}, api.Var{}, api.Var{}); got != api.ErrForm {
		t.Errorf("Follows of nothing: %d", got)
	}
}

// P14.3 to P14.5, 0.5: mixed pairs against the plain way, what follows of each that is OK, and nothing changed.
func TestFollowsMixed(t *testing.T) {
	seed := uint64(143)
	rules := plainRules()
	apps := make([]string, len(rules))
	for i, r := range rules {
		apps[i] = code(t, r.text)
	}
	met, ruled := map[api.Errno]int{}, 0
	for range 40000 {
		k := below(&seed, len(rules))
		if below(&seed, 3) == 0 {
			k = 1
		}
		f := channel(2+below(&seed, 3), apps[k])
		a := mixedVar(&seed)
		b := mixedNext(&seed, a)
		keptA, keptB := copied(a), copied(b)
		got := Follows(f, a, b)
		if want := plainFollows(f, rules[k], a, b); got != want {
			t.Fatalf("%d participants, %q, %s, then %s: %d, want %d", len(f.Parts), rules[k].text, show(a), show(b), got, want)
		}
		if show(a) != show(keptA) || show(b) != show(keptB) {
			t.Fatal("Follows changes what it is given")
		}
		met[got]++
		if got != api.OK {
			continue
		}
		if b.Turn != a.Turn+1 || !sameTotals(a, b) || a.Final && (!b.Final || exitsText(a.Exits) != exitsText(b.Exits)) {
			t.Fatalf("P14.4: %s, then %s", show(a), show(b))
		}
		if !b.Final && b.Turn >= uint64(2*len(f.Parts)) {
			ruled++
			if f.App == "" || Allows(f, a, b, Mover(f, b.Turn)) != api.OK {
				t.Fatalf("P14.5: %s, then %s", show(a), show(b))
			}
		}
	}
	for _, err := range []api.Errno{api.OK, api.ErrForm, api.ErrTurn, api.ErrFinal, api.ErrRule} {
		if met[err] < 200 {
			t.Errorf("the pairs are poor: %v", met)
		}
	}
	if ruled < 1000 {
		t.Errorf("the pairs are poor: the rule was asked %d times", ruled)
	}
}

// The greatest states and the heaviest code: all of it is read, and it ends soon.
func TestLongest(t *testing.T) {
	begun := time.Now()
	great := api.Var{Turn: api.MaxTurn - 1, Data: rep('d', api.MaxData)}
	for i := range api.MaxExits {
		e := exit(byte(i))
		for range api.MaxAllocs {
			one := bound(1)
			one.Amount = api.U{top, top, top, top >> 3}
			e.Allocs = append(e.Allocs, one)
		}
		great.Exits = append(great.Exits, e)
	}
	next := copied(great)
	next.Turn++
	size := len(state.Write(great))
	app := code(t, fmt.Sprintf("CALLDATASIZE PUSH4 %08x EQ", 64+2*size)+tells)
	full := app + rep(0xfe, api.MaxApp-len(app))
	if got := Follows(channel(4, full), great, next); got != api.OK {
		t.Errorf("the greatest states: %d", got)
	}
	next.Exits[2].Allocs[7].Amount[0]--
	if got := Follows(channel(4, full), great, next); got != api.ErrRule {
		t.Errorf("one less of the last allocation: %d", got)
	}
	loop := code(t, "JUMPDEST PUSH2 1000 PUSH0 PUSH0 CALLDATACOPY PUSH2 1000 PUSH0 KECCAK256 POP PUSH0 JUMP")
	if got := Allows(channel(4, loop), great, great, 3); got != api.ErrRule {
		t.Errorf("a loop: %d", got)
	}
	if took := time.Since(begun); took > 10*time.Second {
		t.Errorf("that took %v", took)
	}
}
