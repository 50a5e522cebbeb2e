package lock

import (
	"iter"
	"slices"

	"gazetteer/api"
)

// turn is the place in Waits where a new wait is to stand.
func turn(l api.Locks, w api.Lock) int {
	if holding(l.Held, w.Txn, w.Row) < 0 {
		return len(l.Waits)
	}
	later := func(o api.Lock) bool {
		return o.Row == w.Row && holding(l.Held, o.Txn, o.Row) < 0
	}
	if at := slices.IndexFunc(l.Waits, later); at >= 0 {
		return at
	}
	return len(l.Waits)
}

// bars is the transactions that keep the wait at a place from being granted.
func bars(l api.Locks, at int) []uint64 {
	w := l.Waits[at]
	held := who(l.Held, func(h api.Lock) bool { return !together(h, w) })
	ahead := who(l.Waits[:at], func(o api.Lock) bool { return o.Row == w.Row })
	return append(held, ahead...)
}

// free tells whether the wait at a place can be granted.
func free(l api.Locks, at int) bool {
	return len(bars(l, at)) == 0
}

// grant lets the wait at a place be held, instead of what its transaction holds of its row.
func grant(l *api.Locks, at int) {
	w := l.Waits[at]
	l.Waits = slices.Delete(l.Waits, at, at+1)
	place, upgrade := slices.BinarySearchFunc(l.Held, w, inOrder)
	if upgrade {
		l.Held[place] = w
	} else {
		l.Held = slices.Insert(l.Held, place, w)
	}
}

// grants tells each wait as it is granted: of those that can be the first one, as long as there is one.
func grants(l *api.Locks) iter.Seq[api.Lock] {
	return func(yield func(api.Lock) bool) {
		for at := first(*l); at >= 0; at = first(*l) {
			w := l.Waits[at]
			grant(l, at)
			if !yield(w) {
				return
			}
		}
	}
}

// first is the place of the first wait that can be granted; -1, if none can.
func first(l api.Locks) int {
	for at := range l.Waits {
		if free(l, at) {
			return at
		}
	}
	return -1
}
