package mem

import (
	"math/big"

	"truce/api"
	"truce/num"
)

// big256 is a number as one without bounds.
func big256(u api.U) *big.Int { return new(big.Int).SetBytes([]byte(num.Bytes(u))) }

// plainWords counts words till they hold all bytes.
func plainWords(n int) int {
	words := 0
	for held := 0; held < n; held += 32 {
		words++
	}
	return words
}

// plainCost is the chapter's sum, in numbers without bounds.
func plainCost(words int) int {
	w := big.NewInt(int64(words))
	if w.Sign() < 0 {
		return 0
	}
	if w.Cmp(big.NewInt(65536)) > 0 {
		w.SetInt64(65536)
	}
	square := new(big.Int).Mul(w, w)
	square.Div(square, big.NewInt(512))
	return int(square.Add(square, w.Mul(w, big.NewInt(3))).Int64())
}

// plainGrow lays byte behind byte till the memory has all that is needed.
func plainGrow(m string, at, n api.U) (string, int, api.Errno) {
	if big256(n).Sign() == 0 {
		return m, 0, api.OK
	}
	end := new(big.Int).Add(big256(at), big256(n))
	if end.Cmp(big.NewInt(4096)) > 0 {
		return m, 0, api.ErrRange
	}
	out := []byte(m)
	for need := plainWords(int(end.Int64())) * 32; len(out) < need; {
		out = append(out, 0)
	}
	return string(out), plainCost(plainWords(len(out))) - plainCost(plainWords(len(m))), api.OK
}

// plainPut goes through the bytes, one by one, and gives up at one that has no place.
func plainPut(m string, at int, s string) string {
	out := []byte(m)
	for i := range len(s) {
		place := new(big.Int).Add(big.NewInt(int64(at)), big.NewInt(int64(i)))
		if place.Sign() < 0 || place.Cmp(big.NewInt(int64(len(m)))) >= 0 {
			return m
		}
		out[place.Int64()] = s[i]
	}
	return string(out)
}

// plainSlice asks for each byte whether the text has it.
func plainSlice(s string, from api.U, n int) string {
	if n < 0 || n > 65536 {
		return ""
	}
	out := make([]byte, n)
	place := big256(from)
	for i := range n {
		if place.Cmp(big.NewInt(int64(len(s)))) < 0 {
			out[i] = s[place.Int64()]
		}
		place.Add(place, big.NewInt(1))
	}
	return string(out)
}

func mix(seed *uint64) uint64 {
	*seed += 0x9e3779b97f4a7c15
	z := *seed
	z = (z ^ z>>30) * 0xbf58476d1ce4e5b9
	z = (z ^ z>>27) * 0x94d049bb133111eb
	return z ^ z>>31
}

func below(seed *uint64, n int) int { return int(mix(seed) % uint64(n)) }

// mixedText is some text of so many bytes, none of them 0.
func mixedText(seed *uint64, n int) string {
	raw := make([]byte, n)
	for i := range raw {
		raw[i] = 1 + byte(below(seed, 255))
	}
	return string(raw)
}

// mixedU is some number: mostly about as great as n, now and then a great one.
func mixedU(seed *uint64, n int) api.U {
	switch below(seed, 12) {
	case 0:
		return api.U{mix(seed)}
	case 1:
		return api.U{uint64(below(seed, n+2)), 0, 0, 1 + mix(seed)%9}
	case 2:
		return num.Not(num.Of(uint64(below(seed, n+2))))
	}
	return num.Of(uint64(below(seed, n+2)))
}
