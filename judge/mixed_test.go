package judge

import (
	"math/big"
	"reflect"
	"slices"
	"strings"
	"testing"

	"truce/api"
	"truce/key"
	"truce/proof"
	"truce/state"
)

// mixedDest is an address's destination, or one of a few channels.
func mixedDest(seed *uint64) string {
	if below(seed, 3) > 0 {
		return to(byte(below(seed, 3)))
	}
	return ch(byte(1 + below(seed, 6)))
}

func mixedAlloc(seed *uint64) api.Alloc {
	if below(seed, 4) > 0 {
		return plain(mixedDest(seed), uint64(below(seed, 4)))
	}
	return bound(byte(1+below(seed, 6)), uint64(below(seed, 5)), mixedDest(seed), mixedDest(seed))
}

// mixedExits are exits of a few assets, often of two plain allocations, as an inner channel has.
func mixedExits(seed *uint64) []api.Exit {
	var out []api.Exit
	for of := range byte(3) {
		if below(seed, 3) == 0 {
			continue
		}
		e := api.Exit{Asset: asset(of)}
		if below(seed, 3) == 0 {
			e.Allocs = []api.Alloc{plain(mixedDest(seed), uint64(below(seed, 3))), plain(mixedDest(seed), uint64(below(seed, 3)))}
		} else {
			for range below(seed, 9) {
				e.Allocs = append(e.Allocs, mixedAlloc(seed))
			}
		}
		out = append(out, e)
	}
	return out
}

// mixedJudge is a fit one of few channels, small amounts, and moments of which about a half have come at 5.
func mixedJudge(seed *uint64) api.Judge {
	var out api.Judge
	for channel := range byte(7) {
		for of := range byte(3) {
			if below(seed, 2) == 0 {
				out.Holds = append(out.Holds, hold(channel, of, uint64(1+below(seed, 12))))
			}
		}
		if below(seed, 5) > 0 {
			c := known(channel, uint64(below(seed, 5)), mixedExits(seed)...)
			c.Ends = below(seed, 9)
			out.Cases = append(out.Cases, c)
		}
	}
	for _, c := range out.Cases {
		for _, e := range c.Exits {
			settle(seed, out, e)
		}
	}
	if below(seed, 8) == 0 {
		out.Holds = append(out.Holds, manyHolds(200-len(out.Holds), 1)...)
	}
	return out
}

// settle binds allocations of an exit, as often as not, to a channel whose shares come to their amount, between sides that are there.
func settle(seed *uint64, j api.Judge, e api.Exit) {
	for k, a := range e.Allocs {
		if a.Kind != api.PayBound || below(seed, 2) == 0 {
			continue
		}
		for _, c := range j.Cases {
			if l, _ := plainExit(j, c.Channel, e.Asset); len(l) == 2 && l[0].Kind+l[1].Kind == 0 && below(seed, 2) == 0 {
				e.Allocs[k].Dest, e.Allocs[k].Amount = c.Channel, api.U{l[0].Amount[0] + l[1].Amount[0]}
			}
		}
		for _, b := range e.Allocs {
			if b.Kind == api.PayPlain && below(seed, 2) == 0 {
				e.Allocs[k].Left, e.Allocs[k].Right = b.Dest, e.Allocs[k].Left
			}
		}
	}
}

// mixedNow is a moment, seldom none.
func mixedNow(seed *uint64) int {
	if below(seed, 20) == 0 {
		return []int{0, -1, 1<<40 + 1}[below(seed, 3)]
	}
	return 4 + below(seed, 5)
}

// mixedName is a channel, seldom none.
func mixedName(seed *uint64) string {
	if below(seed, 30) == 0 {
		return rep(1, 31+2*below(seed, 2))
	}
	return ch(byte(below(seed, 8)))
}

func mixedAsset(seed *uint64) string {
	if below(seed, 30) == 0 {
		return rep(1, 19+2*below(seed, 2))
	}
	return asset(byte(below(seed, 3)))
}

// mixedPlaces are places that rise, most often.
func mixedPlaces(seed *uint64) []int {
	var out []int
	if below(seed, 3) == 0 {
		return nil
	}
	for at := range 9 {
		if below(seed, 2+2*at) == 0 {
			out = append(out, at)
		}
	}
	if below(seed, 9) == 0 {
		out = append(out, below(seed, 9)-1)
	}
	return out
}

// flow is one step of a mixed row: what a call told, and what the chapter's words tell.
type flow struct {
	name         string
	got, want    api.Judge
	coins, plain []api.Coin
	err, wantErr api.Errno
}

// mixedFlow does what moves money, without proofs.
func mixedFlow(t *testing.T, seed *uint64, j api.Judge, now int) flow {
	t.Helper()
	channel, of := mixedName(seed), mixedAsset(seed)
	if at := below(seed, 12); at < len(j.Cases) && len(j.Cases[at].Exits) > 0 {
		channel, of = j.Cases[at].Channel, j.Cases[at].Exits[0].Asset
	}
	var out flow
	switch below(seed, 4) {
	case 0:
		out.name = "deposit"
		expect, n := Held(j, channel, of), api.U{uint64(below(seed, 9))}
		if below(seed, 6) == 0 {
			expect[below(seed, 4)]++
		}
		if below(seed, 6) == 0 {
			n = most()
		}
		out.got, out.err = Deposit(j, channel, of, expect, n)
		out.want, out.wantErr = plainDeposit(t, j, channel, of, expect, n)
	case 1:
		out.name = "claim"
		k := below(seed, 10) - 1
		l, _ := plainExit(j, channel, of)
		if at := slices.IndexFunc(l, func(a api.Alloc) bool { return a.Kind == api.PayBound }); at >= 0 && below(seed, 5) > 0 {
			k = at
		}
		out.got, out.err = Claim(j, now, channel, of, k)
		out.want, out.wantErr = plainClaim(j, now, channel, of, k)
	default:
		out.name = "transfer"
		which := mixedPlaces(seed)
		out.got, out.coins, out.err = Transfer(j, now, channel, of, which)
		out.want, out.plain, out.wantErr = plainTransfer(t, j, now, channel, of, which)
	}
	return out
}

// wantStays fails the test unless what is held, and the coins, are as much of each asset as was held, and what has ended stays so. P19.7, P19.8.
func wantStays(t *testing.T, a api.Judge, now int, f flow) {
	t.Helper()
	for of := range byte(3) {
		sum := potsOf(f.got.Holds).sum(asset(of))
		for _, c := range f.coins {
			if c.Asset == asset(of) {
				sum.Add(sum, large(c.Amount))
			}
		}
		was := potsOf(a.Holds).sum(asset(of))
		if more := sum.Cmp(was); more < 0 || more > 0 && f.name != "deposit" {
			t.Errorf("%s: there were %v of %d, there are %v", f.name, was, of, sum)
		}
	}
	for _, c := range a.Cases {
		d, there := Find(f.got, c.Channel)
		if !there || d.Turn < c.Turn && f.name != "conclude" {
			t.Errorf("%s: %v became %v", f.name, c, d)
		}
		if Final(a, now, c.Channel) && (!Final(f.got, now, c.Channel) || d.Turn != c.Turn || d.Digest != c.Digest || d.Ends != c.Ends) {
			t.Errorf("%s: %v had ended, and became %v", f.name, c, d)
		}
	}
}

// check holds a step to the chapter's words, and to what follows from them.
func (f flow) check(t *testing.T, a api.Judge, now int) {
	t.Helper()
	want(t, f.name, f.got, f.err, f.want, f.wantErr)
	if !slices.Equal(f.coins, f.plain) {
		t.Errorf("%s: coins %v, want %v", f.name, f.coins, f.plain)
	}
	if !Fit(f.got) || !plainFit(f.got) {
		t.Errorf("%s: %v is not fit", f.name, f.got)
	}
	wantStays(t, a, now, f)
	if t.Failed() {
		t.Fatalf("at %d, of %v", now, a)
	}
}

// P19.2, P19.5 to P19.9: rows of deposits, transfers and claims, of mixed judges, come out as the chapter's words have it, each error met.
func TestMixedMoney(t *testing.T) {
	met := map[string]map[api.Errno]int{"deposit": {}, "transfer": {}, "claim": {}}
	coins, again := 0, 0
	for seed := range uint64(1000) {
		j := mixedJudge(&seed)
		if !Fit(j) {
			t.Fatalf("not fit: %v", j)
		}
		for range 12 {
			now := mixedNow(&seed)
			f := mixedFlow(t, &seed, j, now)
			f.check(t, j, now)
			met[f.name][f.err]++
			coins += len(f.coins)
			if f.name == "transfer" && f.err == api.OK && len(f.got.Holds) > len(j.Holds) {
				again++
			}
			j = f.got
		}
	}
	for name, errs := range map[string][]api.Errno{
		"deposit":  {api.OK, api.ErrForm, api.ErrState, api.ErrOver, api.ErrMany},
		"transfer": {api.OK, api.ErrTime, api.ErrOpen, api.ErrNone, api.ErrRange, api.ErrForm, api.ErrMany},
		"claim":    {api.OK, api.ErrTime, api.ErrOpen, api.ErrNone, api.ErrRange, api.ErrForm, api.ErrFunds},
	} {
		for _, err := range errs {
			if met[name][err] < 5 {
				t.Errorf("%s: error %d met but %d times", name, err, met[name][err])
			}
		}
	}
	if n := met["claim"][api.OK]; coins < 500 || again < 20 || n < 20 {
		t.Errorf("%d coins, %d channels paid anew, %d claims", coins, again, n)
	}
}

// proofs are signed states of channels, and what proof.Support tells of each row, so that a test of many steps asks it but once.
type proofs struct {
	f   api.Fixed
	l   []api.Signed
	v   api.Var
	err api.Errno
}

// someProofs are rows of two channels: signed by all, some of them final, one too few, two in a row.
func someProofs(t *testing.T, seed *uint64) []proofs {
	t.Helper()
	var out []proofs
	for nonce := range uint64(2) {
		f := channel(t, 2, 2+int(nonce), nonce)
		add := func(l ...api.Signed) {
			v, err := proof.Support(f, l)
			out = append(out, proofs{f, l, v, err})
		}
		for turn := uint64(2); turn < 7; turn++ {
			v := api.Var{Turn: turn, Final: below(seed, 3) == 0, Exits: mixedExits(seed)}
			add(byAll(t, f, v)...)
			add(signed(t, f, v, 0))
			w := v
			w.Turn, w.Final = turn+1, true
			add(signed(t, f, v, 0, 1), signed(t, f, w))
			if turn == 6 {
				add(byAll(t, f, w)...)
			}
		}
	}
	return out
}

// mixedProof does what lays states down.
func mixedProof(seed *uint64, j api.Judge, now int, p proofs) flow {
	var out flow
	switch below(seed, 5) {
	case 0:
		out.name = "conclude"
		out.got, out.err = Conclude(j, now, p.f, p.l)
		out.want, out.wantErr = plainConclude(j, now, p.f, len(p.l), p.v, p.err)
	case 1, 2:
		out.name = "checkpoint"
		out.got, out.err = Checkpoint(j, now, p.f, p.l)
		out.want, out.wantErr = plainCheckpoint(j, now, p.f, p.v, p.err)
	default:
		out.name = "challenge"
		out.got, out.err = Challenge(j, now, p.f, p.l)
		out.want, out.wantErr = plainChallenge(j, now, p.f, p.v, p.err)
	}
	return out
}

// P19.3, P19.4, P19.7 to P19.9: rows of all that a judge does, as time goes by, come out as the chapter's words have it.
func TestMixedRows(t *testing.T) {
	met := map[string]map[api.Errno]int{"challenge": {}, "checkpoint": {}, "conclude": {}, "deposit": {}, "transfer": {}, "claim": {}}
	some := uint64(1)
	rows := someProofs(t, &some)
	for seed := range uint64(50) {
		j, now := mixedJudge(&seed), 1
		for range 24 {
			now += below(&seed, 2)
			var f flow
			if p := rows[below(&seed, len(rows))]; below(&seed, 3) > 0 {
				f = mixedProof(&seed, j, now, p)
			} else {
				f = mixedFlow(t, &seed, j, now)
			}
			f.check(t, j, now)
			met[f.name][f.err]++
			j = f.got
		}
	}
	for _, name := range []string{"challenge", "checkpoint", "conclude"} {
		for _, err := range []api.Errno{api.OK, api.ErrFinal, api.ErrTurn, api.ErrOpen, api.ErrProof} {
			// To conclude asks for no turn, the others for no final state.
			none := err == api.ErrTurn && name == "conclude" || err == api.ErrOpen && name != "conclude"
			if n := met[name][err]; n < 3 && !none || n > 0 && none {
				t.Errorf("%s: error %d met %d times", name, err, n)
			}
		}
	}
}

// P19.7: all that a channel's payments come to, whatever is asked for, is what was held for it, and never more than its outcome has.
func TestNeverMoreThanHeld(t *testing.T) {
	some := 0
	for seed := range uint64(600) {
		j := mixedJudge(&seed)
		channel, of := ch(byte(below(&seed, 7))), asset(byte(below(&seed, 3)))
		l, there := plainExit(j, channel, of)
		if !there || !plainFinal(j, 8, channel) || slices.ContainsFunc(l, func(a api.Alloc) bool { return a.Dest == channel }) {
			continue
		}
		some++
		held := large(Held(j, channel, of))
		paid, before := new(big.Int), j
		for range 6 {
			got, coins, err := Transfer(j, 8, channel, of, mixedPlaces(&seed))
			if err != api.OK {
				continue
			}
			for _, c := range coins {
				paid.Add(paid, large(c.Amount))
			}
			j = got
		}
		for _, h := range j.Holds {
			if h.Channel != channel && h.Asset == of {
				paid.Add(paid, large(h.Amount))
				paid.Sub(paid, large(Held(before, h.Channel, of)))
			}
		}
		all, _ := state.Total([]api.Exit{{Asset: of, Allocs: l}}, of)
		if paid.Cmp(held) > 0 || paid.Cmp(large(all)) > 0 {
			t.Errorf("%v paid of %v held, and %v there", paid, held, all)
		}
		if left := new(big.Int).Sub(held, paid); left.Cmp(large(Held(j, channel, of))) != 0 {
			t.Errorf("%v held, %v paid, %v left", held, paid, Held(j, channel, of))
		}
	}
	if some < 100 {
		t.Errorf("but %d channels", some)
	}
}

// P19.8: a challenge is answered by what is newer, up to its end; behind that nothing changes but by payments.
func TestNeverBack(t *testing.T) {
	f := channel(t, 2, 5, 1)
	id := state.Id(f)
	old, newer, last := byAll(t, f, stood(7, false)), byAll(t, f, stood(8, false)), byAll(t, f, stood(9, true))
	j, err := Challenge(api.Judge{}, 10, f, old)
	if c, _ := Find(j, id); err != api.OK || c.Ends != 15 {
		t.Fatalf("challenge: %v, error %d", j, err)
	}
	if _, err = Challenge(j, 11, f, old); err != api.ErrTurn {
		t.Errorf("the same challenge once more: error %d", err)
	}
	j, err = Checkpoint(j, 14, f, newer)
	if c, _ := Find(j, id); err != api.OK || c.Ends != 0 || c.Turn != 8 {
		t.Fatalf("checkpoint: %v, error %d", j, err)
	}
	if _, err = Challenge(j, 15, f, old); err != api.ErrTurn {
		t.Errorf("the older state once more: error %d", err)
	}
	j, err = Challenge(j, 20, f, newer)
	if err != api.OK || Final(j, 24, id) || !Final(j, 25, id) {
		t.Fatalf("the newer state's challenge: %v, error %d", j, err)
	}
	for _, now := range []int{25, 26, 1 << 40} {
		for _, l := range [][]api.Signed{old, newer, last} {
			got, err := Challenge(j, now, f, l)
			want(t, "challenge behind the end", got, err, j, api.ErrFinal)
			got, err = Checkpoint(j, now, f, l)
			want(t, "checkpoint behind the end", got, err, j, api.ErrFinal)
		}
		got, err := Conclude(j, now, f, last)
		want(t, "conclude behind the end", got, err, j, api.ErrFinal)
	}
	// A final state of a lower turn ends a channel all the same: all have signed it.
	j, _ = Checkpoint(api.Judge{}, 1, f, byAll(t, f, stood(12, false)))
	j, err = Conclude(j, 2, f, last)
	if c, _ := Find(j, id); err != api.OK || c.Turn != 9 || c.Ends != 2 {
		t.Errorf("conclude of a lower turn: %v, error %d", j, err)
	}
}

// calls are all that change a judge, each once so that it goes well and once so that it does not.
func calls(t *testing.T) map[string]func(api.Judge) (api.Judge, api.Errno) {
	t.Helper()
	f := channel(t, 2, 7, 3)
	l := byAll(t, f, stood(9, true))
	paid := func(j api.Judge, now int) (api.Judge, api.Errno) {
		out, _, err := Transfer(j, now, ch(2), asset(2), nil)
		return out, err
	}
	return map[string]func(api.Judge) (api.Judge, api.Errno){
		"deposit":              func(j api.Judge) (api.Judge, api.Errno) { return Deposit(j, ch(3), asset(1), api.U{}, api.U{1}) },
		"deposit of nothing":   func(j api.Judge) (api.Judge, api.Errno) { return Deposit(j, ch(3), asset(1), api.U{}, api.U{}) },
		"deposit, error":       func(j api.Judge) (api.Judge, api.Errno) { return Deposit(j, ch(3), asset(1), api.U{1}, api.U{1}) },
		"challenge":            func(j api.Judge) (api.Judge, api.Errno) { return Challenge(j, 9, f, l) },
		"challenge, error":     func(j api.Judge) (api.Judge, api.Errno) { return Challenge(j, 0, f, l) },
		"checkpoint":           func(j api.Judge) (api.Judge, api.Errno) { return Checkpoint(j, 9, f, l) },
		"checkpoint, error":    func(j api.Judge) (api.Judge, api.Errno) { return Checkpoint(j, 9, f, nil) },
		"conclude":             func(j api.Judge) (api.Judge, api.Errno) { return Conclude(j, 9, f, l) },
		"conclude, error":      func(j api.Judge) (api.Judge, api.Errno) { return Conclude(j, 9, f, nil) },
		"transfer":             func(j api.Judge) (api.Judge, api.Errno) { return paid(j, 9) },
		"transfer, error":      func(j api.Judge) (api.Judge, api.Errno) { return paid(j, 1) },
		"claim":                func(j api.Judge) (api.Judge, api.Errno) { return Claim(j, 9, ch(2), asset(2), 2) },
		"claim, error":         func(j api.Judge) (api.Judge, api.Errno) { return Claim(j, 9, ch(2), asset(2), 1) },
		"claim, error at last": func(j api.Judge) (api.Judge, api.Errno) { return Claim(j, 9, ch(2), asset(2), 3) },
	}
}

// given is a judge of which each of calls changes something, or nothing with an error.
func given() api.Judge {
	return api.Judge{
		Holds: []api.Hold{hold(1, 1, 5), hold(2, 2, 9), hold(7, 2, 3)},
		Cases: []api.Case{
			known(1, 4, exit(1, plain(to(1), 5)), exit(2, plain(to(1), 3), plain(to(2), 2))),
			known(2, 5, exit(2, plain(to(1), 4), plain(ch(7), 3), bound(1, 5, to(1), ch(7)), bound(1, 6, to(1), ch(7)))),
			known(255, 6, exit(3)),
		},
	}
}

// 0.5: no call changes what it is given, and no answer shares memory with it, beside errors neither, nor a list of it with another one.
func TestOwnMemory(t *testing.T) {
	for what, do := range calls(t) {
		j := twin(given())
		before := twin(j)
		got, err := do(j)
		if !reflect.DeepEqual(j, before) || !reflect.DeepEqual(behind(j), behind(before)) {
			t.Errorf("%s: changed what it was given", what)
		}
		told := twin(got)
		wipe(j)
		if !reflect.DeepEqual(got, told) {
			t.Errorf("%s (error %d): the answer changed with what was given", what, err)
		}
		if failed := strings.Contains(what, "error"); failed != (err != api.OK) {
			t.Errorf("%s: error %d", what, err)
		}
		again, _ := do(before)
		wipe(got)
		if !reflect.DeepEqual(again, told) {
			t.Errorf("%s: an answer changed with one ahead of it", what)
		}
	}
	j := twin(given())
	c, _ := Find(j, ch(1))
	c.Exits[0].Allocs[0].Dest, c.Exits[1].Asset = "", ""
	if !reflect.DeepEqual(j, given()) {
		t.Error("Find tells the judge's own memory")
	}
	Fit(j)
	Held(j, ch(1), asset(1))
	Final(j, 9, ch(1))
	if !reflect.DeepEqual(j, given()) {
		t.Error("a look changed what it was given")
	}
}

// behind is what stands in the memory behind a judge's lists.
func behind(j api.Judge) api.Judge {
	out := api.Judge{Holds: j.Holds[:cap(j.Holds)], Cases: j.Cases[:cap(j.Cases)]}
	for _, c := range j.Cases {
		out.Cases = append(out.Cases, api.Case{Exits: c.Exits[:cap(c.Exits)]})
		for _, e := range c.Exits {
			out.Cases = append(out.Cases, api.Case{Exits: []api.Exit{{Allocs: e.Allocs[:cap(e.Allocs)]}}})
		}
	}
	return out
}

// 0.5: a proof, and which places are paid, stay as they were, and an answer does not change with them.
func TestOwnProof(t *testing.T) {
	f := channel(t, 2, 7, 3)
	for what, do := range map[string]func(api.Judge, int, api.Fixed, []api.Signed) (api.Judge, api.Errno){"challenge": Challenge, "checkpoint": Checkpoint, "conclude": Conclude} {
		l, same := byAll(t, f, stood(9, true)), byAll(t, f, stood(9, true))
		got, err := do(api.Judge{}, 9, f, l)
		told := twin(got)
		if err != api.OK || !reflect.DeepEqual(l, same) {
			t.Errorf("%s: changed the proof, or error %d", what, err)
		}
		clear(l[0].Var.Exits[0].Allocs)
		clear(l[0].Var.Exits)
		clear(l[0].Seals)
		clear(l)
		if !reflect.DeepEqual(got, told) {
			t.Errorf("%s: the answer changed with the proof", what)
		}
	}
	which := append(make([]int, 0, 4), 0, 1)
	_, _, err := Transfer(given(), 9, ch(2), asset(2), which)
	if err != api.OK || !slices.Equal(which[:4], []int{0, 1, 0, 0}) {
		t.Errorf("places %v, error %d", which[:4], err)
	}
}

// 0.7: lists that are empty are none, wherever they stand.
func TestEmptyLists(t *testing.T) {
	j := api.Judge{Holds: []api.Hold{}, Cases: []api.Case{}}
	got, err := Deposit(j, ch(1), asset(1), api.U{1}, api.U{})
	want(t, "beside an error", got, err, api.Judge{}, api.ErrState)
	got, err = Deposit(j, ch(1), asset(1), api.U{}, api.U{})
	want(t, "of nothing", got, err, api.Judge{}, api.OK)
	j = api.Judge{Cases: []api.Case{{Channel: ch(1), Digest: rep(1, 32), Exits: []api.Exit{}}, {Channel: ch(2), Digest: rep(1, 32), Exits: []api.Exit{{Asset: asset(1), Allocs: []api.Alloc{}}}}}}
	none := api.Judge{Cases: []api.Case{{Channel: ch(1), Digest: rep(1, 32)}, {Channel: ch(2), Digest: rep(1, 32), Exits: []api.Exit{exit(1)}}}}
	got, err = Deposit(j, ch(1), asset(1), api.U{}, api.U{})
	want(t, "cases", got, err, none, api.OK)
	c, _ := Find(j, ch(1))
	if !reflect.DeepEqual(c, none.Cases[0]) {
		t.Errorf("found: %#v", c)
	}
}

// 0.1: judges that are not fit make nothing panic, whatever else is asked.
func TestUnfitJudgesEnd(t *testing.T) {
	f := channel(t, 2, 7, 3)
	l := byAll(t, f, stood(9, true))
	ended := func(exits ...api.Exit) api.Judge {
		return api.Judge{Cases: []api.Case{{Ends: 1, Exits: exits}, known(2, 1, exits...)}}
	}
	short := []api.Alloc{{Amount: most()}, {Dest: "x", Amount: most()}, {Dest: rep(0, 12), Amount: api.U{1}}, {Dest: rep(0, 11), Kind: 1}, {Dest: rep(0, 99), Kind: -1}}
	full := api.Hold{Channel: ch(2), Asset: asset(2), Amount: most()}
	for _, j := range []api.Judge{
		{Holds: make([]api.Hold, 3), Cases: make([]api.Case, 3)},
		{Holds: make([]api.Hold, 900), Cases: make([]api.Case, 900)},
		{Holds: []api.Hold{full, full, full}, Cases: []api.Case{known(3, 1), known(2, 1), known(1, 1)}},
		{Holds: []api.Hold{{Amount: most()}, full}, Cases: ended(exit(2, short...), exit(2, short...)).Cases},
		{Holds: []api.Hold{full}, Cases: ended(api.Exit{Allocs: slices.Repeat(short, 300)}, exit(2, slices.Repeat(short, 300)...)).Cases},
		ended(slices.Repeat([]api.Exit{{}}, 900)...),
	} {
		Fit(j)
		for _, channel := range []string{"", ch(0), ch(2), ch(255), state.Id(f)} {
			for _, of := range []string{"", asset(2), rep(255, 20)} {
				Held(j, channel, of)
				Find(j, channel)
				Deposit(j, channel, of, Held(j, channel, of), most())
				Transfer(j, 9, channel, of, nil)
				for _, n := range []int{-1, 0, 1, 2, 9, 1 << 40, 1<<63 - 1, -1 << 63} {
					Final(j, n, channel)
					Transfer(j, n, channel, of, []int{n})
					Claim(j, 9, channel, of, n)
				}
			}
		}
		Challenge(j, 9, f, l)
		Checkpoint(j, 9, f, l)
		Conclude(j, 9, f, l)
	}
	Challenge(given(), 1<<40, api.Fixed{Time: 1<<63 - 1}, nil)
	Challenge(given(), 1<<40, api.Fixed{Time: -1 << 63}, make([]api.Signed, 9))
}

// P19.5: an address's destination is what state.Dest makes of it.
func TestAddresses(t *testing.T) {
	address, err := key.Who(keyOf(0))
	if err != api.OK {
		t.Fatal(err)
	}
	j := api.Judge{Holds: at5().Holds, Cases: []api.Case{known(1, 1, exit(1, plain(state.Dest(address), 5)))}}
	_, coins, err := Transfer(j, 5, ch(1), asset(1), nil)
	if err != api.OK || !slices.Equal(coins, []api.Coin{{Who: address, Asset: asset(1), Amount: api.U{5}}}) {
		t.Errorf("%v, error %d", coins, err)
	}
}
