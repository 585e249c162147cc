package disk

import (
	"strings"
	"testing"

	"truce/api"
)

// Kinds of steps of a mixed row.
const (
	stWrite = iota
	stSync
	stArm
	stCrash
	stTrim
	numSteps
)

// step does one of them on a device and on its plain telling; n is how many bytes.
func step(d api.Disk, kind, n int, s string) (got api.Disk, err api.Errno, want api.Disk, wantErr api.Errno) {
	p := plainOf(d)
	got = d
	switch kind {
	case stWrite:
		got, err = Write(d, s)
		wantErr = p.write(s)
	case stSync:
		got, err = Sync(d)
		wantErr = p.sync()
	case stArm:
		got = Arm(d, n)
		p.arm(n)
	case stCrash:
		got = Crash(d, n)
		p.crash(n)
	case stTrim:
		got = Trim(d, n)
		p.trim(n)
	}
	return got, err, p.disk(), wantErr
}

// wantLasting fails the test unless P22.4 holds of a step that is no Trim: what lasted lasts, and nothing is there that was not written, or stands elsewhere.
func wantLasting(t *testing.T, before, after api.Disk, written string) {
	t.Helper()
	if !strings.HasPrefix(after.Data, before.Data) {
		t.Fatalf("%s, then %s", told(before), told(after))
	}
	if all := before.Data + before.Tail + written; !strings.HasPrefix(all, after.Data+after.Tail) {
		t.Fatalf("%s and %d bytes more, then %s", told(before), len(written), told(after))
	}
}

// P22.2, P22.3, P22.4: rows of mixed steps come out as the chapter's words have it, each error met; all stays fit, and what lasts is lost by Trim alone.
func TestMixedRows(t *testing.T) {
	met := map[api.Errno]int{}
	for seed := range uint64(300) {
		d := New()
		for range 60 {
			kind, n := below(&seed, numSteps), below(&seed, 40)-5
			s := text(&seed, below(&seed, 12))
			if below(&seed, 30) == 0 {
				s = long(most - len(d.Data) - len(d.Tail) + below(&seed, 3) - 1)
			}
			got, err, want, wantErr := step(d, kind, n, s)
			if got != want || err != wantErr {
				t.Fatalf("step %d of %d on %s: %s, %d; want %s, %d", kind, n, told(d), told(got), err, told(want), wantErr)
			}
			wantFit(t, got)
			if kind != stWrite {
				s = ""
			}
			if kind != stTrim {
				wantLasting(t, d, got, s)
			}
			met[err]++
			d = got
		}
	}
	for _, err := range []api.Errno{api.OK, api.ErrPower, api.ErrRange} {
		if met[err] < 30 {
			t.Errorf("error %d met but %d times", err, met[err])
		}
	}
}

// P22.4: wherever the power fails while records are written and made to last one by one, and whatever is kept then, what lasts is all whole ones and a beginning of the next; what is written from there on goes behind it.
func TestEachPlace(t *testing.T) {
	records := []string{"first", "", "2", "the third", "four"}
	all := strings.Join(records, "")
	for fuse := range len(all) + 2 {
		for keep := range len("the third") + 2 {
			d := Arm(New(), fuse)
			done, err := "", api.OK
			for _, s := range records {
				if d, err = Write(d, s); err != api.OK {
					break
				}
				d, err = Sync(d)
				done += s
			}
			if want := fuse < len(all); d.Off != want || (err == api.ErrPower) != want {
				t.Fatalf("fuse %d: %s, %d", fuse, told(d), err)
			}
			want := all[:min(len(all), fuse, len(done)+keep)]
			d = Crash(d, keep)
			if d != (api.Disk{Data: want, Fuse: -1}) || !strings.HasPrefix(want, done) {
				t.Fatalf("fuse %d, keeping %d: %s, want %q", fuse, keep, told(d), want)
			}
			d, err = Write(d, "more")
			if d.Data != want || d.Tail != "more" || err != api.OK {
				t.Fatalf("fuse %d, keeping %d, and more: %s, %d", fuse, keep, told(d), err)
			}
		}
	}
}

// P22.2: a fuse counts the bytes of all writes together, however they are cut, and Sync costs it nothing.
func TestFuseInPieces(t *testing.T) {
	whole := "0123456789"
	for fuse := range len(whole) + 3 {
		for size := 1; size <= len(whole); size++ {
			d, err := Arm(New(), fuse), api.OK
			for at := 0; at < len(whole) && err == api.OK; at += size {
				if d, err = Write(d, whole[at:min(len(whole), at+size)]); err == api.OK && at%2 == 0 {
					d, err = Sync(d)
				}
			}
			want := min(fuse, len(whole))
			if d.Data+d.Tail != whole[:want] || d.Fuse != fuse-want || d.Off != (fuse < len(whole)) {
				t.Errorf("fuse %d, pieces of %d: %s, %d", fuse, size, told(d), err)
			}
		}
	}
}
