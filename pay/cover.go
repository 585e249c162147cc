package pay

import (
	"iter"
	"slices"

	"truce/api"
	"truce/num"
)

// covers hands out allocations, the first one first, each with how much of it so much money covers.
func covers(held api.U, l []api.Alloc) iter.Seq2[api.Alloc, api.U] {
	return func(yield func(api.Alloc, api.U) bool) {
		left := held
		for _, a := range l {
			share := lesser(left, a.Amount)
			left, _ = num.Sub(left, share)
			if !yield(a, share) {
				return
			}
		}
	}
}

func lesser(a, b api.U) api.U {
	if num.Cmp(a, b) < 0 {
		return a
	}
	return b
}

// refused is why these can't be paid, or OK. All places are looked at ahead of the kinds there, since a place that is none comes first.
func refused(l []api.Alloc, which []int) api.Errno {
	next := 0
	for _, at := range which {
		if at < next || at >= len(l) {
			return api.ErrRange
		}
		next = at + 1
	}
	if slices.ContainsFunc(which, func(at int) bool { return l[at].Kind != api.PayPlain }) {
		return api.ErrForm
	}
	return api.OK
}

// named tells whether a place is one of those that rise; none at all name every place.
func named(which []int, at int) bool {
	_, there := slices.BinarySearch(which, at)
	return there || len(which) == 0
}
