package disk

import (
	"fmt"
	"strings"
	"testing"

	"truce/api"
)

// most is how many bytes a device has, as the chapter writes it.
const most = 131072

// mix is a fixed row of numbers that look mixed: the tests must go alike each time.
func mix(seed *uint64) uint64 {
	*seed += 0x9e3779b97f4a7c15
	z := *seed
	z = (z ^ z>>30) * 0xbf58476d1ce4e5b9
	z = (z ^ z>>27) * 0x94d049bb133111eb
	return z ^ z>>31
}

func below(seed *uint64, n int) int { return int(mix(seed) % uint64(n)) }

// text is n bytes of all kinds.
func text(seed *uint64, n int) string {
	out := make([]byte, n)
	for i := range out {
		out[i] = byte(mix(seed))
	}
	return string(out)
}

func long(n int) string { return strings.Repeat("x", n) }

// plain is a device in the chapter's words: cells that are written one by one, of which the first ones last.
type plain struct {
	cells   []byte
	lasting int
	fuse    int
	off     bool
}

func plainOf(d api.Disk) plain {
	return plain{cells: []byte(d.Data + d.Tail), lasting: len(d.Data), fuse: d.Fuse, off: d.Off}
}

func (p plain) disk() api.Disk {
	return api.Disk{Data: string(p.cells[:p.lasting]), Tail: string(p.cells[p.lasting:]), Fuse: p.fuse, Off: p.off}
}

func (p *plain) write(s string) api.Errno {
	if p.off {
		return api.ErrPower
	}
	if len(p.cells)+len(s) > most {
		return api.ErrRange
	}
	for i := range len(s) {
		if p.fuse == 0 {
			p.off = true
			return api.ErrPower
		}
		if p.fuse > 0 {
			p.fuse--
		}
		p.cells = append(p.cells, s[i])
	}
	return api.OK
}

func (p *plain) sync() api.Errno {
	if p.off {
		return api.ErrPower
	}
	p.lasting = len(p.cells)
	return api.OK
}

func (p *plain) arm(n int) {
	switch {
	case p.off:
	case n < 0:
		p.fuse = -1
	case n > most:
		p.fuse = most
	default:
		p.fuse = n
	}
}

func (p *plain) crash(keep int) {
	for keep > 0 && p.lasting < len(p.cells) {
		p.lasting++
		keep--
	}
	p.cells = p.cells[:p.lasting]
	p.fuse = -1
	p.off = false
}

func (p *plain) trim(n int) {
	if p.off {
		return
	}
	var left []byte
	for i, b := range p.cells {
		if i < n || i >= p.lasting {
			left = append(left, b)
		}
	}
	p.lasting -= len(p.cells) - len(left)
	p.cells = left
}

// told is a device in words of a bearable length, whatever its bytes are.
func told(d api.Disk) string {
	return fmt.Sprintf("{Data %.40q of %d, Tail %.40q of %d, Fuse %d, Off %v}", d.Data, len(d.Data), d.Tail, len(d.Tail), d.Fuse, d.Off)
}

// wantFit fails the test unless this is fit.
func wantFit(t *testing.T, d api.Disk) {
	t.Helper()
	if !Fit(d) {
		t.Fatalf("not fit: %s", told(d))
	}
}
