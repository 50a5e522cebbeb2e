package lock

import (
	"cmp"
	"slices"

	"gazetteer/api"
)

// full tells whether there are too many locks, or transactions. Locks are counted first, so that what is gone through is short.
func full(l api.Locks) bool {
	if len(l.Held)+len(l.Waits) > api.MaxLocks {
		return true
	}
	txns := append(who(l.Held, all), who(l.Waits, all)...)
	slices.Sort(txns)
	return len(slices.Compact(txns)) > api.MaxTxns
}

// heldRight tells whether what is held stands in order, and goes together. Of one row it is enough to look at neighbours: of two that go together each goes with any shared one.
func heldRight(held []api.Lock) bool {
	for i, h := range held {
		if !sound(h) {
			return false
		}
		if i > 0 && (inOrder(held[i-1], h) >= 0 || !together(held[i-1], h)) {
			return false
		}
	}
	return true
}

// waitsRight tells whether what is waited for may be, beside what is held.
func waitsRight(l api.Locks) bool {
	for at, w := range l.Waits {
		ahead := api.Locks{Held: l.Held, Waits: l.Waits[:at]}
		if !sound(w) || waiting(ahead.Waits, w.Txn) || suffices(l.Held, w) {
			return false
		}
		if turn(ahead, w) != at || free(l, at) {
			return false
		}
	}
	return true
}

// sound tells whether a lock has a transaction and a mode.
func sound(x api.Lock) bool {
	return x.Txn > 0 && (x.Mode == api.LockShared || x.Mode == api.LockExclusive)
}

// inOrder is the order of what is held.
func inOrder(a, b api.Lock) int {
	return cmp.Or(cmp.Compare(a.Row, b.Row), cmp.Compare(a.Txn, b.Txn))
}

// together tells whether two locks may be held at once: those of unlike rows, or of one transaction, do not stand in each other's way.
func together(a, b api.Lock) bool {
	switch {
	case a.Row != b.Row, a.Txn == b.Txn:
		return true
	case a.Mode == api.LockExclusive, b.Mode == api.LockExclusive:
		return false
	default:
		return true
	}
}

// waiting tells whether a transaction has a wait.
func waiting(waits []api.Lock, txn uint64) bool {
	return slices.ContainsFunc(waits, func(w api.Lock) bool { return w.Txn == txn })
}

// holding is the place of what a transaction holds of a row; -1, if it does not.
func holding(held []api.Lock, txn uint64, row uint32) int {
	return slices.IndexFunc(held, func(h api.Lock) bool { return h.Txn == txn && h.Row == row })
}

// suffices tells whether a transaction holds already what a lock would give it.
func suffices(held []api.Lock, w api.Lock) bool {
	exclusive := w
	exclusive.Mode = api.LockExclusive
	return slices.ContainsFunc(held, func(h api.Lock) bool { return h == w || h == exclusive })
}

// who is the transactions of those locks that count, in their order.
func who(l []api.Lock, counts func(x api.Lock) bool) []uint64 {
	var txns []uint64
	for _, x := range l {
		if counts(x) {
			txns = append(txns, x.Txn)
		}
	}
	return txns
}

// all lets each lock count.
func all(api.Lock) bool {
	return true
}
