package codes

import (
	"iter"
	"strings"
)

const digits = "0123456789abcdef"

// mark stands ahead of the digits of a byte that is named by these alone.
const mark = "0x"

// pieces hands out a code's operations with their places: each one's byte, and behind it those of its own that are there.
func pieces(code string) iter.Seq2[int, string] {
	return func(yield func(int, string) bool) {
		for at := 0; at < len(code); {
			end := min(at+1+owned(code[at]), len(code))
			if !yield(at, code[at:end]) {
				return
			}
			at = end
		}
	}
}

// lines is a piece of a code as text.
func lines(piece string) string {
	op, own := piece[0], piece[1:]
	name := Name(op)
	switch {
	case name == "" || len(own) < owned(op):
		return bare(piece)
	case own == "":
		return name + "\n"
	}
	return name + " " + toHex(own) + "\n"
}

// bare is a line for each byte, whatever it means.
func bare(raw string) string {
	out := ""
	for at := range len(raw) {
		out += mark + toHex(raw[at:at+1]) + "\n"
	}
	return out
}

// words hands out a text's words with their places.
func words(text string) iter.Seq2[int, string] {
	return func(yield func(int, string) bool) {
		for at := 0; at < len(text); {
			end := at
			for end < len(text) && !isGap(text[end]) {
				end++
			}
			if end > at && !yield(at, text[at:end]) {
				return
			}
			at = end + 1
		}
	}
}

func isGap(b byte) bool { return b == ' ' || b == '\n' }

// read is the bytes that a word stands for, owed being how many it must have as the own ones of the PUSH ahead of it (0: there is none), and how many the next word owes; false: the word can't stand there.
func read(word string, owed int) (string, int, bool) {
	if owed > 0 {
		raw := fromHex(word)
		return raw, 0, len(raw) == owed
	}
	if op, ok := Op(word); ok {
		return string([]byte{op}), owned(op), true
	}
	// A byte that is told by its digits owes nothing, even if it is a PUSH's: so is one written whose own bytes are not all there.
	rest, marked := strings.CutPrefix(word, mark)
	raw := fromHex(rest)
	return raw, 0, marked && len(raw) == 1
}

// toHex is bytes as digits.
func toHex(raw string) string {
	out := make([]byte, 0, 2*len(raw))
	for at := range len(raw) {
		out = append(out, digits[raw[at]>>4], digits[raw[at]&15])
	}
	return string(out)
}

// fromHex is the bytes of digits; none of a text that is not made of these, by twos.
func fromHex(text string) string {
	if len(text)%2 != 0 {
		return ""
	}
	out := make([]byte, 0, len(text)/2)
	for at := 0; at < len(text); at += 2 {
		high := strings.IndexByte(digits, text[at])
		low := strings.IndexByte(digits, text[at+1])
		if high < 0 || low < 0 {
			return ""
		}
		out = append(out, byte(high<<4|low))
	}
	return string(out)
}
