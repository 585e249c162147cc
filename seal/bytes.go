package seal

import (
	"truce/api"
	"truce/num"
)

// Where the parts of a written seal end.
const (
	endOfR   = 32
	endOfS   = 64
	allBytes = 65
)

// The last byte of a written seal.
const (
	evenMark = 0
	oddMark  = 1
)

// Write is a seal's 65 bytes.
func Write(s api.Seal) string {
	r := record{Seal: s}
	r.number(r.R)
	r.number(r.S)
	r.mark(r.Odd)
	return r.text()
}

// Read is the seal of 65 bytes.
func Read(b string) (api.Seal, api.Errno) {
	if len(b) != allBytes || b[endOfS] != evenMark && b[endOfS] != oddMark {
		return api.Seal{}, api.ErrForm
	}
	// 32 bytes are always a number.
	r, _ := num.Read(b[:endOfR])
	s, _ := num.Read(b[endOfR:endOfS])
	return api.Seal{R: r, S: s, Odd: b[endOfS] == oddMark}, api.OK
}

// record is a seal, and the page that it is written on.
type record struct {
	api.Seal
	page
}

// page has what is written, one thing behind the other.
type page struct{ raw []byte }

func (p *page) number(a api.U) { p.raw = append(p.raw, num.Bytes(a)...) }

func (p *page) mark(odd bool) {
	var last byte = evenMark
	if odd {
		last = oddMark
	}
	p.raw = append(p.raw, last)
}

func (p *page) text() string { return string(p.raw) }
