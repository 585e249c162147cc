package disk

import (
	"math"
	"testing"

	"truce/api"
)

// P22.1: devices that are fit, up to the edges of each bound.
func TestFit(t *testing.T) {
	for what, d := range map[string]api.Disk{
		"New":                      New(),
		"nothing, fuse 0":          {},
		"a fuse as long as can be": {Fuse: most},
		"all in Data":              {Data: long(most), Fuse: -1},
		"all in Tail":              {Tail: long(most), Fuse: -1},
		"all in both":              {Data: long(most / 2), Tail: long(most / 2), Fuse: 5},
		"full, a fuse and off":     {Data: long(most - 1), Tail: "x", Fuse: most, Off: true},
		"off with no fuse":         {Fuse: -1, Off: true},
		"off with fuse 0":          {Tail: "x", Off: true},
	} {
		if !Fit(d) {
			t.Errorf("%s: not fit", what)
		}
	}
}

// P22.1: devices that are not fit, each by one thing alone.
func TestUnfit(t *testing.T) {
	for what, d := range map[string]api.Disk{
		"1 above in Data":      {Data: long(most + 1), Fuse: -1},
		"1 above in Tail":      {Tail: long(most + 1), Fuse: -1},
		"1 above in both":      {Data: long(most), Tail: "x", Fuse: -1},
		"1 above, halves":      {Data: long(most / 2), Tail: long(most/2 + 1), Fuse: -1},
		"1 above and off":      {Data: "x", Tail: long(most), Off: true},
		"a fuse of -2":         {Fuse: -2},
		"the lowest fuse":      {Fuse: math.MinInt},
		"a fuse 1 above":       {Fuse: most + 1},
		"the greatest fuse":    {Fuse: math.MaxInt},
		"a fuse of -2 and off": {Fuse: -2, Off: true},
	} {
		if Fit(d) {
			t.Errorf("%s: fit", what)
		}
	}
}

// P22.1: nothing, Fuse -1.
func TestNew(t *testing.T) {
	if d := New(); d != (api.Disk{Fuse: -1}) {
		t.Errorf("got %s", told(d))
	}
}

// P22.2: what is written goes behind Tail, and off the fuse, if there is one.
func TestWrite(t *testing.T) {
	for _, c := range []struct {
		what string
		d    api.Disk
		s    string
		want api.Disk
		err  api.Errno
	}{
		{"the first", New(), "ab", api.Disk{Tail: "ab", Fuse: -1}, api.OK},
		{"behind Tail", api.Disk{Data: "ab", Tail: "cd", Fuse: -1}, "ef", api.Disk{Data: "ab", Tail: "cdef", Fuse: -1}, api.OK},
		{"nothing", api.Disk{Data: "ab", Tail: "cd", Fuse: -1}, "", api.Disk{Data: "ab", Tail: "cd", Fuse: -1}, api.OK},
		{"any bytes", New(), "\x00\xff\n", api.Disk{Tail: "\x00\xff\n", Fuse: -1}, api.OK},
		{"a longer fuse", api.Disk{Data: "ab", Fuse: 5}, "cde", api.Disk{Data: "ab", Tail: "cde", Fuse: 2}, api.OK},
		{"a fuse 1 longer", api.Disk{Tail: "ab", Fuse: 4}, "cde", api.Disk{Tail: "abcde", Fuse: 1}, api.OK},
		{"as long as the fuse", api.Disk{Tail: "ab", Fuse: 3}, "cde", api.Disk{Tail: "abcde", Fuse: 0}, api.OK},
		{"1 above the fuse", api.Disk{Tail: "ab", Fuse: 2}, "cde", api.Disk{Tail: "abcd", Off: true}, api.ErrPower},
		{"above a fuse of 1", api.Disk{Data: "z", Tail: "ab", Fuse: 1}, "cde", api.Disk{Data: "z", Tail: "abc", Off: true}, api.ErrPower},
		{"above a fuse of 0", api.Disk{Data: "z", Tail: "ab", Fuse: 0}, "c", api.Disk{Data: "z", Tail: "ab", Off: true}, api.ErrPower},
		{"nothing, fuse 0", api.Disk{Data: "ab", Tail: "c"}, "", api.Disk{Data: "ab", Tail: "c"}, api.OK},
		{"nothing, a fuse", api.Disk{Data: "ab", Tail: "c", Fuse: 7}, "", api.Disk{Data: "ab", Tail: "c", Fuse: 7}, api.OK},
		{"the longest fuse", api.Disk{Fuse: most}, "ab", api.Disk{Tail: "ab", Fuse: most - 2}, api.OK},
		{"the longest fuse, all of it", api.Disk{Fuse: most}, long(most), api.Disk{Tail: long(most)}, api.OK},
	} {
		if got, err := Write(c.d, c.s); got != c.want || err != c.err {
			t.Errorf("%s: %s, %d; want %s, %d", c.what, told(got), err, told(c.want), c.err)
		}
	}
}

// P22.2: a device has room for MaxDisk bytes and no more, and is as it was beside ErrRange, whatever its fuse.
func TestWriteRange(t *testing.T) {
	for _, c := range []struct {
		what string
		d    api.Disk
		s    string
		err  api.Errno
	}{
		{"all at once", New(), long(most), api.OK},
		{"1 above at once", New(), long(most + 1), api.ErrRange},
		{"the last byte, Data", api.Disk{Data: long(most - 1), Fuse: -1}, "a", api.OK},
		{"1 above, Data", api.Disk{Data: long(most - 1), Fuse: -1}, "ab", api.ErrRange},
		{"the last byte, Tail", api.Disk{Tail: long(most - 1), Fuse: -1}, "a", api.OK},
		{"1 above, Tail", api.Disk{Tail: long(most - 1), Fuse: -1}, "ab", api.ErrRange},
		{"the last byte, both", api.Disk{Data: long(most - 3), Tail: "xy", Fuse: -1}, "a", api.OK},
		{"1 above, both", api.Disk{Data: long(most - 3), Tail: "xy", Fuse: -1}, "ab", api.ErrRange},
		{"nothing on a full one", api.Disk{Data: long(most), Fuse: -1}, "", api.OK},
		{"1 on a full one", api.Disk{Data: long(most), Fuse: -1}, "a", api.ErrRange},
		{"far above", api.Disk{Data: "a", Tail: "b", Fuse: -1}, long(4 * most), api.ErrRange},
		{"ahead of the fuse", api.Disk{Data: long(most), Fuse: 0}, "a", api.ErrRange},
		{"ahead of a fuse for some", api.Disk{Tail: long(most - 1), Fuse: 1}, "ab", api.ErrRange},
		{"room, but a fuse", api.Disk{Tail: long(most - 2), Fuse: 1}, "ab", api.ErrPower},
		{"off ahead of it", api.Disk{Data: long(most), Fuse: 3, Off: true}, "a", api.ErrPower},
	} {
		got, err := Write(c.d, c.s)
		if err != c.err {
			t.Errorf("%s: error %d, want %d", c.what, err, c.err)
		}
		if err == api.ErrRange && got != c.d {
			t.Errorf("%s: %s", c.what, told(got))
		}
		if err == api.OK && got.Data+got.Tail != c.d.Data+c.d.Tail+c.s {
			t.Errorf("%s: not written: %s", c.what, told(got))
		}
		wantFit(t, got)
	}
}

// offs are devices without power, their fuses of each kind.
func offs() []api.Disk {
	return []api.Disk{
		{Off: true},
		{Data: "ab", Tail: "cd", Off: true},
		{Data: "ab", Tail: "cd", Fuse: -1, Off: true},
		{Data: "ab", Tail: "cd", Fuse: 1, Off: true},
		{Data: "ab", Fuse: most, Off: true},
		{Tail: "cd", Off: true},
		{Data: long(most), Off: true},
	}
}

// P22.2, P22.3: without power nothing but Crash changes a device, and Write and Sync are ErrPower.
func TestOff(t *testing.T) {
	for _, d := range offs() {
		for _, s := range []string{"", "a", "xyz", long(most + 1)} {
			if got, err := Write(d, s); got != d || err != api.ErrPower {
				t.Errorf("write of %d bytes: %s, %d", len(s), told(got), err)
			}
		}
		if got, err := Sync(d); got != d || err != api.ErrPower {
			t.Errorf("sync: %s, %d", told(got), err)
		}
		for _, n := range []int{math.MinInt, -1, 0, 1, 2, most, math.MaxInt} {
			if got := Arm(d, n); got != d {
				t.Errorf("arm of %d: %s", n, told(got))
			}
			if got := Trim(d, n); got != d {
				t.Errorf("trim to %d: %s", n, told(got))
			}
			if got := Crash(d, n); got.Off || got.Fuse != -1 || got.Tail != "" {
				t.Errorf("crash keeping %d: %s", n, told(got))
			}
		}
	}
}

// P22.2: Tail goes behind Data, and is empty; the fuse stays.
func TestSync(t *testing.T) {
	for _, c := range []struct {
		what    string
		d, want api.Disk
	}{
		{"both", api.Disk{Data: "ab", Tail: "cd", Fuse: -1}, api.Disk{Data: "abcd", Fuse: -1}},
		{"Tail alone", api.Disk{Tail: "cd", Fuse: -1}, api.Disk{Data: "cd", Fuse: -1}},
		{"Data alone", api.Disk{Data: "ab", Fuse: -1}, api.Disk{Data: "ab", Fuse: -1}},
		{"nothing", New(), New()},
		{"a fuse", api.Disk{Data: "ab", Tail: "cd", Fuse: 3}, api.Disk{Data: "abcd", Fuse: 3}},
		{"a fuse of 0", api.Disk{Data: "ab", Tail: "cd"}, api.Disk{Data: "abcd"}},
		{"a full one", api.Disk{Data: "a", Tail: long(most - 1), Fuse: -1}, api.Disk{Data: "a" + long(most-1), Fuse: -1}},
	} {
		if got, err := Sync(c.d); got != c.want || err != api.OK {
			t.Errorf("%s: %s, %d", c.what, told(got), err)
		}
	}
}

// P22.3: Fuse is n, at most MaxDisk; none, if n is below 0; all else stays.
func TestArm(t *testing.T) {
	for n, want := range map[int]int{
		math.MinInt: -1, -most: -1, -2: -1, -1: -1, 0: 0, 1: 1, 9: 9, most - 1: most - 1, most: most, most + 1: most, math.MaxInt: most,
	} {
		for _, was := range []int{-1, 0, 1, 9, most} {
			d := api.Disk{Data: "ab", Tail: "cd", Fuse: was}
			if got := Arm(d, n); got != (api.Disk{Data: "ab", Tail: "cd", Fuse: want}) {
				t.Errorf("%d with a fuse of %d: %s", n, was, told(got))
			}
		}
	}
}

// P22.3: a first part of Tail goes behind Data, the rest is lost, and there is power without end.
func TestCrash(t *testing.T) {
	for keep, want := range map[int]string{
		math.MinInt: "abc", -1: "abc", 0: "abc", 1: "abcd", 2: "abcde", 3: "abcdef", 4: "abcdef", most: "abcdef", math.MaxInt: "abcdef",
	} {
		for _, fuse := range []int{-1, 0, 2, most} {
			for _, off := range []bool{false, true} {
				d := api.Disk{Data: "abc", Tail: "def", Fuse: fuse, Off: off}
				if got := Crash(d, keep); got != (api.Disk{Data: want, Fuse: -1}) {
					t.Errorf("%s keeping %d: %s", told(d), keep, told(got))
				}
			}
		}
		if got := Crash(api.Disk{Data: "abc", Off: true}, keep); got != (api.Disk{Data: "abc", Fuse: -1}) {
			t.Errorf("no Tail, keeping %d: %s", keep, told(got))
		}
	}
	full := api.Disk{Data: "a", Tail: long(most - 1), Off: true}
	if got := Crash(full, most); got != (api.Disk{Data: "a" + long(most-1), Fuse: -1}) {
		t.Error("a full one is not kept whole")
	}
}

// P22.3: Data is its first n bytes; Tail and the fuse stay.
func TestTrim(t *testing.T) {
	for n, want := range map[int]string{
		math.MinInt: "", -1: "", 0: "", 1: "a", 2: "ab", 3: "abc", 4: "abc", most: "abc", math.MaxInt: "abc",
	} {
		for _, fuse := range []int{-1, 0, 2, most} {
			d := api.Disk{Data: "abc", Tail: "def", Fuse: fuse}
			if got := Trim(d, n); got != (api.Disk{Data: want, Tail: "def", Fuse: fuse}) {
				t.Errorf("to %d with a fuse of %d: %s", n, fuse, told(got))
			}
		}
	}
	if got := Trim(New(), 3); got != New() {
		t.Errorf("of nothing: %s", told(got))
	}
}

// The chapter's examples.
func TestExamples(t *testing.T) {
	d, one := Write(New(), "ab")
	d, two := Sync(d)
	d, three := Write(d, "cd")
	if d = Crash(d, 1); d.Data != "abc" || one != api.OK || two != api.OK || three != api.OK {
		t.Errorf("%s, %d, %d, %d", told(d), one, two, three)
	}
	d, err := Write(Arm(New(), 1), "xy")
	if d = Crash(d, 9); d.Data != "x" || err != api.ErrPower {
		t.Errorf("%s, %d", told(d), err)
	}
}

// 0.1: devices that are not fit make nothing panic.
func TestUnfitDevicesEnd(t *testing.T) {
	ends := []int{math.MinInt, math.MinInt + 1, -most, -2, -1, 0, 1, most, most + 1, math.MaxInt}
	for _, bytes := range [][2]string{{"", ""}, {"ab", "cd"}, {long(most + 1), "cd"}, {"ab", long(most + 1)}, {long(most), long(most)}} {
		for _, fuse := range ends {
			for _, off := range []bool{false, true} {
				d := api.Disk{Data: bytes[0], Tail: bytes[1], Fuse: fuse, Off: off}
				Fit(d)
				Sync(d)
				for _, s := range []string{"", "a", long(most), long(2 * most)} {
					Write(d, s)
				}
				for _, n := range ends {
					Arm(d, n)
					Crash(d, n)
					Trim(d, n)
				}
			}
		}
	}
}
