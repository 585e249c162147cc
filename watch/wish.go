package watch

import (
	"cmp"
	"container/heap"

	"truce/api"
)

// wish is what a wallet may want: a transaction, if there is a need of it. Of the wishes of one place just one is granted.
type wish struct {
	place   int // of the exit that it is about
	urgency int // 0 goes first
	tell    func() (api.Tx, bool)
}

// wishes are a heap: by their places, and of each place the most urgent one first.
type wishes []wish

func (l wishes) Len() int { return len(l) }

func (l wishes) Less(i, k int) bool {
	return cmp.Or(cmp.Compare(l[i].place, l[k].place), cmp.Compare(l[i].urgency, l[k].urgency)) < 0
}

func (l wishes) Swap(i, k int) { l[i], l[k] = l[k], l[i] }

func (l *wishes) Push(x any) { *l = append(*l, x.(wish)) }

func (l *wishes) Pop() any {
	last := len(*l) - 1
	x := (*l)[last]
	*l = (*l)[:last]
	return x
}

// granted has of each place the most urgent transaction that there is a need of.
func granted(l *wishes) []api.Tx {
	var out []api.Tx
	done := -1
	for l.Len() > 0 {
		next := heap.Pop(l).(wish)
		if next.place == done {
			continue
		}
		if tx, ok := next.tell(); ok {
			out, done = append(out, tx), next.place
		}
	}
	return out
}
