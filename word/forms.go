package word

import (
	"slices"

	"truce/api"
)

// shape is what a form says of one term.
type shape struct {
	kind int
	// many is whether a list has any number of terms, each of the one shape inner; else it has one of each.
	many  bool
	inner []shape
}

// inside is the shapes of a list of so many terms.
func (s shape) inside(n int) []shape {
	ask(n <= maxTerms)
	if s.many {
		return slices.Repeat(s.inner, n)
	}
	ask(n == len(s.inner))
	return s.inner
}

// shapes is what a form says of its terms, one by one. The form is read whole ahead of any term: it may be none where no term needs it.
func shapes(form string) []shape {
	r := formReader{text: form}
	out := r.row()
	// What is left would be a bracket that closes, though none is open.
	ask(r.at == len(form))
	return out
}

// formReader goes through a form, and throws what it can't read.
type formReader struct {
	text string
	at   int
	deep int
}

// row reads up to the end, or to a bracket that closes.
func (r *formReader) row() []shape {
	var out []shape
	for r.at < len(r.text) && !r.sees(')') && !r.sees(']') {
		out = append(out, r.one())
	}
	return out
}

// sees tells whether a mark stands next.
func (r *formReader) sees(mark byte) bool {
	return r.at < len(r.text) && r.text[r.at] == mark
}

// one reads one term's shape.
func (r *formReader) one() shape {
	mark := r.text[r.at]
	r.at++
	switch mark {
	case 'n':
		return shape{kind: api.TmNum}
	case 't':
		return shape{kind: api.TmText}
	case '(':
		return shape{kind: api.TmList, inner: r.upTo(')')}
	case '[':
		inner := r.upTo(']')
		ask(len(inner) == 1)
		return shape{kind: api.TmList, many: true, inner: inner}
	}
	panic(unread(api.ErrForm))
}

// upTo reads what stands within a bracket, and the one that closes it.
func (r *formReader) upTo(end byte) []shape {
	r.deep++
	ask(r.deep <= maxDeep)
	out := r.row()
	ask(r.sees(end))
	r.at++
	r.deep--
	return out
}

// unread is what a reader throws: why it can't go on.
type unread api.Errno

// ask throws, if something does not hold.
func ask(holds bool) {
	if !holds {
		panic(unread(api.ErrForm))
	}
}

// caught is what was thrown while work was done. What no reader threw is no answer, but a fault of the program: it goes on.
func caught(work func()) (err api.Errno) {
	defer func() {
		thrown := recover()
		if thrown == nil {
			return
		}
		why, ok := thrown.(unread)
		if !ok {
			panic(thrown)
		}
		err = api.Errno(why)
	}()
	work()
	return api.OK
}
