package gen

import (
	"fmt"
	"math/big"
	"strings"
	"testing"

	"truce/api"
	"truce/key"
	"truce/state"
)

// mix is a fixed row of numbers that look mixed: the tests must go alike each time.
func mix(seed *uint64) uint64 {
	*seed += 0x9e3779b97f4a7c15
	z := *seed
	z = (z ^ z>>30) * 0xbf58476d1ce4e5b9
	z = (z ^ z>>27) * 0x94d049bb133111eb
	return z ^ z>>31
}

func below(seed *uint64, n int) int { return int(mix(seed) % uint64(n)) }

func rep(b byte, n int) string { return strings.Repeat(string([]byte{b}), n) }

func whoOf(t testing.TB, place int) string {
	t.Helper()
	who, err := key.Who(key.Small(uint64(place)))
	if err != api.OK {
		t.Fatalf("no key: %d", place)
	}
	return who
}

// Assets of the chapter: that of channels, and that of fees.
var gold, fee = rep(116, 20), rep(0, 20)

// Codes of the chapter, as bytes.
const (
	yes  = "\x60\x01\x5f\x52\x60\x20\x5f\xf3"
	even = "\x5f\x35\x60\x20\x01\x35\x60\x01\x16\x15\x5f\x52\x60\x20\x5f\xf3"
	gone = "\x5f\x5f\xfd"
)

// channel is one that the chapter can tell, with its outcome.
func channel(t testing.TB, nonce uint64, app string, time int, amounts ...uint64) (api.Fixed, []api.Exit) {
	t.Helper()
	f := api.Fixed{Nonce: nonce, App: app, Time: time}
	e := api.Exit{Asset: gold}
	for place, n := range amounts {
		who := whoOf(t, place)
		f.Parts = append(f.Parts, who)
		e.Allocs = append(e.Allocs, api.Alloc{Dest: state.Dest(who), Amount: api.U{n}})
	}
	return f, []api.Exit{e}
}

// spelled spells out what there is: unlike ones are unlike. An empty list is none.
func spelled(a any) string { return fmt.Sprintf("%+v", a) }

func toldChannel(f api.Fixed, l []api.Exit) string {
	out := fmt.Sprintf("nonce %d app %x time %d", f.Nonce, f.App, f.Time)
	for _, who := range f.Parts {
		out += fmt.Sprintf(" %.2x", who)
	}
	for _, e := range l {
		out += fmt.Sprintf(" of %.2x", e.Asset)
		for _, a := range e.Allocs {
			out += fmt.Sprintf(" %d to %.2x", a.Amount[0], strings.TrimLeft(a.Dest, "\x00"))
		}
	}
	return out
}

// plainNumbers are the first numbers of a seed, reckoned without wrapping round.
func plainNumbers(seed uint64, many int) []uint64 {
	all := new(big.Int).Lsh(big.NewInt(1), 64)
	times, _ := new(big.Int).SetString("6364136223846793005", 10)
	more, _ := new(big.Int).SetString("1442695040888963407", 10)
	x := new(big.Int).SetUint64(seed)
	var l []uint64
	for range many {
		x.Mul(x, times).Add(x, more).Mod(x, all)
		l = append(l, new(big.Int).Rsh(x, 33).Uint64())
	}
	return l
}

// plainChannel is the chapter's channel of a seed.
func plainChannel(t testing.TB, seed uint64) (api.Fixed, []api.Exit) {
	t.Helper()
	l := plainNumbers(seed, 5)
	app := ""
	if l[1]%2 == 0 {
		app = yes
	}
	return channel(t, l[0]%1000, app, int(l[2]%20)+1, l[3]%20, l[4]%20)
}

// plainScript is the chapter's script in words, between them a comma: what is moved by whom, which letter, which transaction.
func plainScript(answered bool, first, second uint64, turns int) string {
	turns = max(0, min(turns, 20))
	l := []string{"mint 0", "fee 0", "mint 1", "fee 1", "open 0", "open 1"}
	posts, takes := 0, 0
	post := func() {
		l = append(l, fmt.Sprint("post ", posts))
		posts++
	}
	take := func(if0 uint64) {
		if if0 != 0 {
			l = append(l, fmt.Sprint("take ", takes))
			takes++
		}
	}
	for n := range 4 + turns + 1 {
		if n == 2 {
			l = append(l, "look 0")
			take(first)
			l = append(l, "look 1")
			take(second)
		}
		name := "move"
		if n == 4+turns {
			name = "final"
		}
		l = append(l, fmt.Sprint(name, " ", n%2))
		post()
		if n == 4+turns || answered && n >= 4 {
			post()
		}
	}
	l = append(l, "exit 0", "look 0")
	take(1)
	l = append(l, "look 0")
	take(first + second)
	return strings.Join(l, ", ")
}

// moved is the move that a word and a number stand for.
func moved(t testing.TB, word string, n int, f api.Fixed, l []api.Exit) api.Move {
	t.Helper()
	id := state.Id(f)
	switch word {
	case "mint":
		return api.Move{Kind: api.MvMint, Who: n, Asset: gold, Amount: api.U{20}}
	case "fee":
		return api.Move{Kind: api.MvMint, Who: n, Asset: fee, Amount: api.U{50}}
	case "open":
		return api.Move{Kind: api.MvAct, Who: n, Act: api.Act{Kind: api.AcOpen, Fixed: f}}
	case "move", "final":
		return api.Move{Kind: api.MvAct, Who: n, Act: api.Act{Kind: api.AcMove, Channel: id, Data: "d", Exits: l, Final: word == "final"}}
	case "look":
		return api.Move{Kind: api.MvAct, Who: n, Act: api.Act{Kind: api.AcLook}}
	case "exit":
		return api.Move{Kind: api.MvAct, Who: n, Act: api.Act{Kind: api.AcExit, Channel: id}}
	case "post":
		return api.Move{Kind: api.MvPost, N: n}
	case "take":
		return api.Move{Kind: api.MvTake, N: n}
	}
	t.Fatalf("no word: %q", word)
	return api.Move{}
}

// script is the moves that such words stand for.
func script(t testing.TB, words string, f api.Fixed, l []api.Exit) []api.Move {
	t.Helper()
	var out []api.Move
	for _, s := range strings.Split(words, ", ") {
		var word string
		var n int
		if _, err := fmt.Sscan(s, &word, &n); err != nil {
			t.Fatalf("%q: %v", s, err)
		}
		out = append(out, moved(t, word, n, f, l))
	}
	return out
}

// told is a script in such words, as far as it has them; else what a move is.
func told(t testing.TB, l []api.Move, f api.Fixed, exits []api.Exit) string {
	t.Helper()
	var out []string
	for _, m := range l {
		s := fmt.Sprintf("a move %q", spelled(m))
		for _, word := range []string{"mint", "fee", "open", "move", "final", "look", "exit", "post", "take"} {
			if n := m.Who + m.N; spelled(moved(t, word, n, f, exits)) == spelled(m) {
				s = fmt.Sprint(word, " ", n)
			}
		}
		out = append(out, s)
	}
	return strings.Join(out, ", ")
}

// wantScript holds Honest of a seed to words.
func wantScript(t testing.TB, seed uint64, turns int, words string) []api.Move {
	t.Helper()
	f, l := plainChannel(t, seed)
	got := Honest(seed, turns)
	if spelled(got) != spelled(script(t, words, f, l)) {
		t.Errorf("Honest of %d, %d: %s\nwant %s", seed, turns, told(t, got, f, l), words)
	}
	return got
}
