package claim

import (
	"slices"

	"truce/api"
)

// sides is how many a bound allocation is between: the left one is 0, the right one 1.
const sides = 2

// bothSides takes a row of steps, each for the left side, then for the right one, up to the first error. A step is taken for both ahead of the next one, since what is wrong comes first, not whose it is.
func bothSides(steps ...func(side int) api.Errno) api.Errno {
	err := api.OK
going:
	for _, step := range steps {
		for side := range sides {
			if err = step(side); err != api.OK {
				break going
			}
		}
	}
	return err
}

// plainOf is the first place of a plain allocation that goes to so and so, below 0 if there is none.
func plainOf(l []api.Alloc, dest string) int {
	return slices.IndexFunc(l, func(a api.Alloc) bool { return !notPlain(a) && a.Dest == dest })
}

func notPlain(a api.Alloc) bool { return a.Kind != api.PayPlain }

func isPlace(l []api.Alloc, at int) bool { return at >= 0 && at < len(l) }

// errIf is the error if something is wrong, else OK.
func errIf(wrong bool, err api.Errno) api.Errno {
	if wrong {
		return err
	}
	return api.OK
}
