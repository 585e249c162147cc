package chain

import (
	"math/big"
	"reflect"
	"testing"

	"truce/api"
	"truce/state"
)

// stage is what mixed transactions are made of: channels, proofs of each, and what the last transactions were.
type stage struct {
	seed   uint64
	fixed  []api.Fixed
	proofs [][][]api.Signed
	sent   []string
}

// stageOf has few channels, and of each proofs of some turns, by both, by one, and of two states.
func stageOf(t testing.TB, seed uint64) *stage {
	t.Helper()
	s := &stage{seed: seed}
	for n := range uint64(3) {
		s.fixed = append(s.fixed, channel(t, []int{1, 3, 9}[n], n))
	}
	for n, f := range s.fixed {
		var l [][]api.Signed
		for turn := range uint64(4) {
			v := api.Var{Turn: 4 + turn, Exits: s.exits(t, n)}
			l = append(l, byAll(t, f, v), []api.Signed{by(t, f, v, int(turn)%2)})
			v.Final = true
			l = append(l, byAll(t, f, v))
		}
		first := api.Var{Turn: 2, Data: "d", Exits: s.exits(t, n)}
		second := first
		second.Turn = 3
		l = append(l, []api.Signed{by(t, f, first, 0, 1), by(t, f, second, 1)})
		s.proofs = append(s.proofs, l)
	}
	return s
}

// dest is mostly an address's destination, sometimes a channel.
func (s *stage) dest(t testing.TB) string {
	t.Helper()
	switch below(&s.seed, 4) {
	case 0:
		return state.Id(s.fixed[below(&s.seed, len(s.fixed))])
	case 1:
		return state.Dest(who(byte(7 + below(&s.seed, 3))))
	}
	return state.Dest(mine(t, below(&s.seed, 3)))
}

// exits are of the fee's asset and of another one: of the first channel two shares of 7, of the others also what is bound to the first one between both.
func (s *stage) exits(t testing.TB, n int) []api.Exit {
	t.Helper()
	var out []api.Exit
	for of := range byte(2) {
		share := uint64(below(&s.seed, 8))
		e := exit(of, plain(s.dest(t), share), plain(s.dest(t), 7-share))
		if n > 0 && below(&s.seed, 4) > 0 {
			e.Allocs = append(e.Allocs, api.Alloc{Dest: state.Id(s.fixed[0]), Amount: api.U{7}, Kind: api.PayBound, Left: e.Allocs[0].Dest, Right: e.Allocs[1].Dest})
		}
		out = append(out, e)
	}
	return out
}

// tx is a fit transaction of any kind that may go well on a chain, or not.
func (s *stage) tx(c api.Chain) api.Tx {
	n := below(&s.seed, len(s.fixed))
	x := api.Tx{Kind: below(&s.seed, 7), Asset: asset(byte(below(&s.seed, 2)))}
	x.Channel = state.Id(s.fixed[n])
	x.Amount = api.U{uint64(below(&s.seed, 9))}
	if below(&s.seed, 30) == 0 {
		x.Amount = most()
	}
	switch x.Kind {
	case api.TxSend:
		x.Channel, x.To = "", who(byte(6+below(&s.seed, 4)))
	case api.TxDeposit:
		for _, h := range c.Judge.Holds {
			if h.Channel == x.Channel && h.Asset == x.Asset && below(&s.seed, 8) > 0 {
				x.Expect = h.Amount
			}
		}
	case api.TxTransfer:
		x.Amount = api.U{}
		for k := range 3 {
			if below(&s.seed, 3) == 0 {
				x.Which = append(x.Which, k)
			}
		}
	case api.TxClaim:
		x.Amount, x.Index = api.U{}, 1+below(&s.seed, 2)
	default:
		x = api.Tx{Kind: x.Kind, Fixed: s.fixed[n], Proof: s.proofs[n][below(&s.seed, len(s.proofs[n]))]}
	}
	return x
}

// raw is a transaction's bytes: mostly of the next number, seldom of another one, seldom one that was sent already, seldom with a byte changed.
func (s *stage) raw(t testing.TB, c api.Chain) string {
	t.Helper()
	if len(s.sent) > 0 && below(&s.seed, 20) == 0 {
		return s.sent[below(&s.seed, len(s.sent))]
	}
	i := below(&s.seed, 3)
	if below(&s.seed, 25) == 0 {
		i = 3 // who has no money
	}
	x := s.tx(c)
	x.Nonce = Next(c, mine(t, i))
	if below(&s.seed, 20) == 0 {
		x.Nonce += uint64(below(&s.seed, 3))
	}
	out := wrap(t, i, x)
	if below(&s.seed, 25) == 0 {
		at := below(&s.seed, len(out))
		out = out[:at] + string([]byte{byte(mix(&s.seed))}) + out[at+1:]
	}
	s.sent = append(s.sent, out)
	return out
}

// P21.3 to P21.6: over rows of mixed transactions each is taken and done as the chapter says; nothing is lost, nothing is taken twice, chains stay fit.
func TestMixed(t *testing.T) {
	well, ill, left := map[int]int{}, map[api.Errno]int{}, map[api.Errno]int{}
	for row := range uint64(6) {
		s := stageOf(t, row)
		c := rich(t, 1, 90, 60)
		for range 150 {
			c = s.goOn(t, c)
			raw := s.raw(t, c)
			next, r := Apply(c, raw)
			plain, q := plainApply(c, raw)
			wantApplied(t, "mixed", next, r, plain, q)
			checkStep(t, c, next, r)
			switch {
			case r.Err == api.OK:
				well[kindOf(raw)]++
			case r.Taken:
				ill[r.Err]++
			default:
				left[r.Err]++
			}
			if again, q := Apply(next, raw); r.Taken && (q != api.Receipt{Who: r.Who, Err: api.ErrNonce} || !Same(again, next)) {
				t.Errorf("taken once more: %v", q)
			}
			c = next
		}
	}
	// The rows must have come everywhere.
	for kind := range api.NumTxs {
		if well[kind] < 5 {
			t.Errorf("of kind %d just %d went well", kind, well[kind])
		}
	}
	for _, err := range []api.Errno{api.ErrState, api.ErrFunds, api.ErrProof, api.ErrOpen, api.ErrFinal, api.ErrTurn} {
		if ill[err] == 0 {
			t.Errorf("none was taken with the error %d", err)
		}
	}
	for _, err := range []api.Errno{api.ErrForm, api.ErrNonce, api.ErrFunds} {
		if left[err] == 0 {
			t.Errorf("none was left with the error %d", err)
		}
	}
}

// kindOf is a transaction's kind, which stands in its first word.
func kindOf(raw string) int { return int(raw[31]) }

// goOn lets time go by, seldom far, and makes some money now and then.
func (s *stage) goOn(t testing.TB, c api.Chain) api.Chain {
	t.Helper()
	if below(&s.seed, 3) > 0 {
		return c
	}
	next, err := Tick(c, below(&s.seed, 4))
	if err != api.OK || next.Now < c.Now {
		t.Errorf("from %d to %d, error %d", c.Now, next.Now, err)
	}
	if below(&s.seed, 4) > 0 {
		return next
	}
	of := byte(below(&s.seed, 2))
	more := minted(t, next, mine(t, below(&s.seed, 3)), of, 8)
	if got, _ := All(more, asset(of)); large(got).Cmp(new(big.Int).Add(plainAll(next)[asset(of)], big.NewInt(8))) != 0 {
		t.Errorf("8 more are %v", got)
	}
	return more
}

// checkStep asks what the chapter says of any transaction.
func checkStep(t *testing.T, c, next api.Chain, r api.Receipt) {
	t.Helper()
	if !Fit(next) || !plainFit(next) {
		t.Errorf("not fit behind %v", r)
	}
	before := plainAll(c)
	for of, n := range plainAll(next) {
		all, ok := All(next, of)
		if n.Cmp(before[of]) != 0 || !ok || large(all).Cmp(n) != 0 {
			t.Errorf("of %x there were %v, now %v (by All %v), behind %v", of, before[of], n, all, r)
		}
		delete(before, of)
	}
	if len(before) > 0 {
		t.Errorf("there were %v, now nothing, behind %v", before, r)
	}
	if next.Now != c.Now {
		t.Errorf("the moment %d has become %d", c.Now, next.Now)
	}
	if !r.Taken && !Same(c, next) {
		t.Errorf("not taken, but changed: %v", r)
	}
	if r.Taken && r.Err != api.OK && !reflect.DeepEqual(c.Judge, next.Judge) {
		t.Errorf("an error, but the judge has changed: %v", r)
	}
	n, _ := plainCounts(c, r.Who)
	m, _ := plainCounts(next, r.Who)
	if r.Taken != (m == n+1) || !r.Taken && m != n {
		t.Errorf("of %d transactions there are %d, behind %v", n, m, r)
	}
}
