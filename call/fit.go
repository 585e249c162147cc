package call

import (
	"slices"

	"truce/api"
	"truce/state"
)

// Bounds of a transaction's fields.
const (
	maxNonce   = 1 << 40
	maxPlace   = 255 // of an allocation
	lenChannel = 32
	lenAddress = 20 // of an asset, too
)

// fields are some of a transaction's, a flag each.
type fields int

const (
	proven fields = 1 << iota // Fixed and Proof, which go together
	channel
	asset
	to
	expect
	amount
	which
	index
)

// needs has the fields of each kind; all others are zero there.
var needs = [api.NumTxs]fields{
	api.TxSend:       to | asset | amount,
	api.TxDeposit:    channel | asset | expect | amount,
	api.TxChallenge:  proven,
	api.TxCheckpoint: proven,
	api.TxConclude:   proven,
	api.TxTransfer:   channel | asset | which,
	api.TxClaim:      channel | asset | index,
}

// needsOf is the fields of a kind, and whether it is one.
func needsOf(kind int) (fields, bool) {
	if kind < 0 || kind >= len(needs) {
		return 0, false
	}
	return needs[kind], true
}

func (f fields) has(one fields) bool { return f&one != 0 }

// bytes is how many bytes a text has: so many where its field is needed, else none.
func (f fields) bytes(one fields, n int) int {
	if f.has(one) {
		return n
	}
	return 0
}

func fitTexts(t api.Tx, need fields) bool {
	return len(t.Channel) == need.bytes(channel, lenChannel) &&
		len(t.Asset) == need.bytes(asset, lenAddress) &&
		len(t.To) == need.bytes(to, lenAddress)
}

func fitNumbers(t api.Tx, need fields) bool {
	none := api.U{}
	return (need.has(expect) || t.Expect == none) &&
		(need.has(amount) || t.Amount == none) &&
		(need.has(index) || t.Index == 0) && isPlace(t.Index) &&
		(need.has(which) || len(t.Which) == 0) && fitWhich(t.Which)
}

func fitProven(t api.Tx, need fields) bool {
	if need.has(proven) {
		return state.FitFixed(t.Fixed) && fitProof(t.Proof)
	}
	return sameFixed(t.Fixed, api.Fixed{}) && len(t.Proof) == 0
}

// fitProof tells whether these can be a proof of some channel; whether of this one, the judge tells.
func fitProof(l []api.Signed) bool {
	return 1 <= len(l) && len(l) <= api.MaxParts && !slices.ContainsFunc(l, unfitSigned)
}

func unfitSigned(s api.Signed) bool {
	return !state.FitVar(s.Var) || len(s.Seals) > api.MaxParts
}

func fitWhich(l []int) bool {
	return len(l) <= api.MaxAllocs && !slices.ContainsFunc(l, noPlace)
}

func isPlace(i int) bool { return 0 <= i && i <= maxPlace }

func noPlace(i int) bool { return !isPlace(i) }
