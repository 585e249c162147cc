package desk

import (
	"fmt"
	"math/big"
	"strings"
	"testing"

	"truce/api"
)

// P32.1: sums of words, in small hex.
func TestHash(t *testing.T) {
	for word, want := range map[string]string{
		"abc":         "4e03657aea45a94fc7d47ba826c8d667c0d1e6e33a64a036ec44f58fa12d6c45",
		"a":           "3ac225168df54212a25c1c01fd35bebfea408fdac2e31ddd6f80a4bbf9a5f1cb",
		"0":           "044852b2a670ade5407e78fb2863c51de9fcb96542a07186fe3aeda6bb8a116d",
		"#":           "ace738c68088218d015fbdce138f062893d86818ac98932f7ce2907c5976fbde",
		"hash":        "33027547537d35728a741470df1ccf65de10b454ca0def7c5c20b257b7b8d161",
		"\xff":        "8b1a944cf13a9a1c08facb2c9e98623ef3254d2ddb48113885c3e8e97fec8db9",
		rep('a', 135): "34367dc248bbd832f4e3e69dfaac2f92638bd0bbd18f2912ba4ef454919cf446",
		rep('a', 136): "a6c4d403279fe3e0af03729caada8374b5ca54d8065329a3ebcaeb4b60aa386e",
		// As long as a word of a line can be.
		rep('a', 65530): "5076bbb8a829c70b2427d79ef90b0d0de5db568d6beb0b903ebe5110dc6df912",
	} {
		wantOut(t, "hash "+word+"\n", want+"\n")
	}
}

// P32.1: runs: done, given back, wrong; with something told, and without.
func TestRun(t *testing.T) {
	word := rep('0', 64)
	for code, want := range map[string]string{
		"00": "done", "5f": "done", "60": "done", "615a": "done", "5b": "done", "5f5ff3": "done", "5f5ffd": "back",
		"60205ff3":                           "done " + word,
		"60205ffd":                           "back " + word,
		"60016000fd":                         "back 00",
		"60016000f3":                         "done 00",
		"6101005ff3":                         "done " + rep('0', 512),
		"60ab5f5360015ff3":                   "done ab",
		"610abc5f5260025ff3fe":               "done 0000",
		"610abc5f526002601ef3":               "done 0abc",
		"610abc5f526002601efd":               "back 0abc",
		"7f" + rep('f', 64) + "5f5260205ff3": "done " + rep('f', 64),
		// It is given nothing, and 1000 gas, of which 998 are left behind GAS.
		"365f5260205ff3":   "done " + word,
		"5f355f5260205ff3": "done " + word,
		"5a5f5260205ff3":   "done " + rep('0', 61) + "3e6",
		// 998 gas more are to be had, 999 are not.
		"5f" + times("5b", 998):   "done",
		"5f" + times("5b", 999):   "error 18",
		"5b5f56":                  "error 18",
		"01":                      "error 19",
		"f3":                      "error 19",
		"5f5f01":                  "done",
		"50":                      "error 19",
		times("5f", 256):          "done",
		times("5f", 257):          "error 19",
		"5f56":                    "error 20",
		"600556":                  "error 20",
		"fe":                      "error 21",
		"0c":                      "error 21",
		"ff":                      "error 21",
		"620fffff5ff3":            "error 3",
		"6110015ff3":              "error 3",
		"00" + times("fe", 32000): "done",
	} {
		wantOut(t, "run "+code, want+"\n")
	}
}

func times(s string, n int) string { return strings.Repeat(s, n) }

// P32.1: codes as text, each line marked.
func TestList(t *testing.T) {
	for code, want := range map[string]string{
		"00": "| STOP\n", "5b": "| JUMPDEST\n", "6005": "| PUSH1 05\n", "60": "| 0x60\n", "0c": "| 0x0c\n", "5f": "| PUSH0\n",
		"60055b":            "| PUSH1 05\n| JUMPDEST\n",
		"7f01":              "| 0x7f\n| 0x01\n",
		"610abc00":          "| PUSH2 0abc\n| STOP\n",
		"5b6101":            "| JUMPDEST\n| 0x61\n| 0x01\n",
		"8f9ff3fd":          "| DUP16\n| SWAP16\n| RETURN\n| REVERT\n",
		"7f" + rep('a', 64): "| PUSH32 " + rep('a', 64) + "\n",
		times("01", 32000):  times("| ADD\n", 32000),
		times("ef", 32765):  times("| 0xef\n", 32765),
		"600a600a" + "0a":   "| PUSH1 0a\n| PUSH1 0a\n| EXP\n",
	} {
		wantOut(t, "list "+code, want)
	}
	wantOut(t, "list 6005\nlist 5b5b\nrun 60\n", "| PUSH1 05\n| JUMPDEST\n| JUMPDEST\ndone\n")
}

// P32.1: amounts are told as numbers up to 2^62. No text of 65536 bytes makes so much that this is seen from outside.
func TestAmount(t *testing.T) {
	edge := new(big.Int).Lsh(big.NewInt(1), 62)
	for n, want := range map[api.U]string{
		{}: "0", {1}: "1", {9}: "9", {10}: "10", {1000000}: "1000000", {1<<62 - 1}: new(big.Int).Sub(edge, big.NewInt(1)).String(), {1 << 62}: edge.String(),
		{1<<62 + 1}: "many", {1 << 63}: "many", {1<<64 - 1}: "many", {0, 1}: "many", {5, 1}: "many", {0, 0, 1}: "many", {0, 0, 0, 1}: "many", {0, 0, 0, 1 << 63}: "many",
	} {
		if got := amount(n); got != want {
			t.Errorf("%v: %s, want %s", n, got, want)
		}
		who := rep(7, 20)
		if n != (api.U{}) {
			l := []api.Coin{{Who: who, Asset: rep(0, 20), Amount: n}, {Who: who, Asset: rep('t', 20), Amount: api.U{3}}}
			if got := coins(l, who); got != "3 "+want+"\n" {
				t.Errorf("%v: coins %q", n, got)
			}
			l[0].Asset, l[1].Asset, l[1].Amount = rep(0, 20), rep('t', 20), n
			if got := coins(l[1:], who); got != want+" 0\n" {
				t.Errorf("%v: coins %q", n, got)
			}
		}
	}
	if got := coins(nil, rep(7, 20)); got != "0 0\n" {
		t.Errorf("of nothing: %q", got)
	}
}

// P32.1: as much as a text can make: 3000 mints.
func TestMuch(t *testing.T) {
	s := "new 1\n" + times("mint 0 999999999999\n", 3000) + "coins 0"
	wantOut(t, s, times("ok\n", 3001)+fmt.Sprint(999999999999*3000)+" 0\n")
}
