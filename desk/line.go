package desk

import (
	"iter"
	"strconv"
	"strings"
)

// maxDigits is how many digits a number has at most.
const maxDigits = 12

// line is a line that can be done: its first word, and, of what stands behind that, the numbers, and the text: a word, or the bytes that it told as hex.
type line struct {
	verb string
	nums []int
	text string
}

// lines hands out a text's lines, each without the byte 10 that ends it.
func lines(s string) iter.Seq[string] {
	return func(yield func(string) bool) {
		for s != "" {
			text, rest, _ := strings.Cut(s, "\n")
			if !yield(text) {
				return
			}
			s = rest
		}
	}
}

// wordsOf is a line's words. Blanks alone part them: a tab is a part of a word.
func wordsOf(text string) []string {
	return strings.FieldsFunc(text, func(r rune) bool { return r == ' ' })
}

// form is what must stand behind a line's first word: n a number, t any word, x hex; empty: no line begins so.
func form(verb string) string {
	switch verb {
	case "new", "look", "post", "take", "tick", "coins", "held":
		return "n"
	case "honest", "mint", "fee", "open", "exit", "arm", "crash", "kept":
		return "nn"
	case "move", "final":
		return "nntnn"
	case "hash":
		return "t"
	case "run", "list":
		return "x"
	}
	return ""
}

// read is the line of some words, of which there is one at least; false: there is no such line.
func read(words []string) (line, bool) {
	l := line{verb: words[0]}
	want := form(l.verb)
	if want == "" || len(want) != len(words)-1 {
		return line{}, false
	}
	for at, word := range words[1:] {
		if !l.add(want[at], word) {
			return line{}, false
		}
	}
	return l, true
}

// add puts a word into the line as that which must stand there; false: it is no such thing.
func (l *line) add(kind byte, word string) (ok bool) {
	switch kind {
	case 'n':
		n, fits := number(word)
		l.nums = append(l.nums, n)
		return fits
	case 'x':
		l.text, ok = fromHex(word)
		return ok
	}
	l.text = word
	return true
}

func number(word string) (int, bool) {
	n, err := strconv.ParseUint(word, 10, 64)
	return int(n), err == nil && len(word) <= maxDigits
}
