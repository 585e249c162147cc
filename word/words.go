package word

import (
	"strings"

	"truce/api"
	"truce/num"
)

// writer has what is written so far.
type writer struct{ raw []byte }

// row writes terms: room for a word of each, then the tails, each of which fills its word as it comes.
func (w *writer) row(l []api.Term) {
	start := len(w.raw)
	w.zeros(len(l) * wordBytes)
	for i, t := range l {
		place := start + i*wordBytes
		ahead := len(w.raw) - start
		switch t.Kind {
		case api.TmNum:
			w.fill(place, t.Num)
		case api.TmText:
			w.fill(place, of(ahead))
			w.text(t.Text)
		case api.TmList:
			w.fill(place, of(ahead))
			w.count(len(t.List))
			w.row(t.List)
		}
	}
}

// text writes a text's tail.
func (w *writer) text(s string) {
	w.count(len(s))
	w.raw = append(w.raw, s...)
	w.zeros(padding(len(s)))
}

// count writes a word with how many there are.
func (w *writer) count(n int) {
	w.raw = append(w.raw, num.Bytes(of(n))...)
}

// zeros writes bytes 0.
func (w *writer) zeros(n int) {
	w.raw = append(w.raw, make([]byte, n)...)
}

// fill puts a number into a word that there is room for.
func (w *writer) fill(place int, u api.U) {
	copy(w.raw[place:], num.Bytes(u))
}

// wordReader goes through bytes by shapes, and throws what it can't read. It takes the tails one behind the other, as they are written: so there is one row of bytes for a row of terms.
type wordReader struct {
	text string
	at   int
}

// row reads terms of shapes.
func (r *wordReader) row(want []shape) []api.Term {
	start := r.at
	words := r.take(len(want) * wordBytes)
	var out []api.Term
	for i, s := range want {
		out = append(out, r.term(s, words[i*wordBytes:][:wordBytes], r.at-start))
	}
	return out
}

// term reads a term of a shape: its word, and its tail, which has so many bytes ahead of it.
func (r *wordReader) term(s shape, word string, ahead int) api.Term {
	if s.kind == api.TmNum {
		return api.Term{Num: number(word)}
	}
	ask(number(word) == of(ahead))
	if s.kind == api.TmText {
		return api.Term{Kind: api.TmText, Text: r.tail()}
	}
	return api.Term{Kind: api.TmList, List: r.row(s.inside(r.count(maxTerms)))}
}

// tail reads a text's tail.
func (r *wordReader) tail() string {
	n := r.count(maxText)
	out := r.take(n)
	ask(strings.Trim(r.take(padding(n)), "\x00") == "")
	return out
}

// count reads a word with how many there are, at most so many.
func (r *wordReader) count(most int) int {
	u := number(r.take(wordBytes))
	ask(num.Cmp(u, of(most)) <= 0)
	return int(u[0])
}

// take reads so many bytes.
func (r *wordReader) take(n int) string {
	ask(n <= len(r.text)-r.at)
	out := r.text[r.at:][:n]
	r.at += n
	return out
}

// number is a word's number: 32 bytes are always one.
func number(word string) api.U {
	u, _ := num.Read(word)
	return u
}

// of is a count as a number.
func of(n int) api.U { return num.Of(uint64(n)) }

// padding is how many bytes bring so many to a multiple of 32.
func padding(n int) int { return (wordBytes - n%wordBytes) % wordBytes }
