package state

import (
	"encoding/hex"
	"strings"
	"testing"

	"truce/api"
)

// madeFixed are channels whose ids were worked out by another program, of other means.
func madeFixed() []api.Fixed {
	return []api.Fixed{
		{Parts: []string{who(1), who(2)}, Time: 1},
		{Parts: []string{who(0), who(255), "abcdefghijklmnopqrst"}, Nonce: top, App: "\x60\x01\x5f\x52\x60\x20\x5f\xf3", Time: 1 << 20},
		{Parts: []string{who(4), who(3), who(2), who(1)}, Nonce: 7, App: rep(0x5b, 512), Time: 60},
	}
}

// madeVars are states whose digests were worked out so.
func madeVars() []api.Var {
	return []api.Var{
		{},
		{Turn: 3, Data: "d", Exits: []api.Exit{{Asset: who(0), Allocs: []api.Alloc{{Dest: dest(0), Amount: api.U{5}}}}}},
		{Turn: 1 << 40, Final: true, Data: rep(9, 256), Exits: []api.Exit{
			{Asset: who(116), Allocs: []api.Alloc{{Dest: rep(0, 12) + who(1), Amount: api.U{0, 0, 0, 1 << 63}}, {Dest: dest(255), Amount: api.U{7}, Kind: api.PayBound, Left: dest(0), Right: dest(8)}}},
			{Asset: who(254)},
			{Asset: who(255), Allocs: []api.Alloc{{Dest: dest(6), Amount: all, Kind: api.PayBound, Left: dest(5), Right: dest(0)}}},
		}},
	}
}

var madeIds = []string{
	"f4a10a29d77833bbbd832a280d0ff69b5b3cb3f1784fee9b2e10638a3ef91bcb",
	"28b6990b18842f5fe145caf4737e8e1763776bf2452a7a28b64e21a0c83df545",
	"dcd721fb6e37ab917d0955d289e5fa8eda213b9a7edd346a8e71a590d6eba793",
}

// madeDigests has for each channel those of the states.
var madeDigests = [][]string{
	{"2148cf612822a3b194b6c7bdddf549bb37521cdb5dab81977a162f78e208c885", "d13b557cb6acda8e329e9302aa6cecc022cbf7bcc5859cd406a8ec3d41aaa8ab", "e4ac9095a9d4e487143c1e03dc7b93ee831add02782711c0b11bdfd420859437"},
	{"2c897e41e72a5ca15ad5f2a58eda105604a7bdce8fe85d799c04bbc1403acb53", "003eee99d27dd06ecb97eea42253191892699c6c30381ce90e2915e8a944132a", "5e71f1d4c347a09d86ed5472e14d74d0bb2f1ae808c89e44c6d5dab0c69269dc"},
	{"e45a44ce25a2db1cb4e7250ac8c837ad74feb16c3d0b7e59b3c4b81eb3a67c2e", "433cf1f0e45717a3eb2513252cfa3f5764ecf976c191fe15e6e04d73d20e2b3a", "36aee60368f2b920e4e0db956021e85ecf884a4901c723b7d33ccca4ca51a52a"},
}

// The first channel's words, and the second state's, one by one, in hex; noughts ahead are left out.
var (
	madeFixedWords = []string{
		"80", "0", "e0", "1",
		"2", rep('0', 24) + strings.Repeat("01", 20), rep('0', 24) + strings.Repeat("02", 20),
		"0",
	}
	madeVarWords = []string{
		"3", "0", "80", "c0",
		"1", "64" + rep('0', 62),
		"1", "20",
		"2", "0", "40",
		"1", "20",
		"5", "0", "5", "0", "0", "0",
	}
)

// inBytes puts words of hex together.
func inBytes(words []string) string {
	out := ""
	for _, w := range words {
		raw, err := hex.DecodeString(rep('0', 64-len(w)) + w)
		if err != nil {
			panic(err)
		}
		out += string(raw)
	}
	return out
}

// P10.2: words written out, ids and digests of another program.
func TestMade(tc *testing.T) {
	if got := WriteFixed(madeFixed()[0]); got != inBytes(madeFixedWords) {
		tc.Errorf("WriteFixed is %x", got)
	}
	if got := Write(madeVars()[1]); got != inBytes(madeVarWords) {
		tc.Errorf("Write is %x", got)
	}
	for i, f := range madeFixed() {
		if got := hex.EncodeToString([]byte(Id(f))); got != madeIds[i] {
			tc.Errorf("Id of the channel %d is %s", i, got)
		}
		for k, v := range madeVars() {
			if got := hex.EncodeToString([]byte(Digest(f, v))); got != madeDigests[i][k] {
				tc.Errorf("Digest of the channel %d and the state %d is %s", i, k, got)
			}
		}
	}
}
