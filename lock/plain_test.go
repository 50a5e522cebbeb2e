package lock_test

import (
	"cmp"
	"fmt"
	"maps"
	"math"
	"slices"
	"testing"

	"gazetteer/api"
	"gazetteer/lock"
)

const (
	shared, exclusive = 1, 2
	topRow            = math.MaxUint32
	topTxn            = math.MaxUint64
)

// The tests hold lock against a plain reading of the chapter, which goes through all pairs of locks, and keeps what is held in a map.

// sh and ex are locks: a shared one, and an exclusive one.
func sh(txn uint64, row uint32) api.Lock {
	return api.Lock{Row: row, Txn: txn, Mode: shared}
}

func ex(txn uint64, row uint32) api.Lock {
	return api.Lock{Row: row, Txn: txn, Mode: exclusive}
}

// of is locks of what is held and what is waited for.
func of(held []api.Lock, waits ...api.Lock) api.Locks {
	return api.Locks{Held: held, Waits: waits}
}

// row is a list of locks.
func row(l ...api.Lock) []api.Lock {
	return l
}

// grantable tells whether the wait at a place can be granted.
func grantable(l api.Locks, at int) bool {
	w := l.Waits[at]
	for _, h := range l.Held {
		if h.Row == w.Row && h.Txn != w.Txn && h.Mode+w.Mode != shared+shared {
			return false
		}
	}
	for i, o := range l.Waits {
		if i < at && o.Row == w.Row {
			return false
		}
	}
	return true
}

// upgrades tells whether a wait is to upgrade.
func upgrades(l api.Locks, w api.Lock) bool {
	for _, h := range l.Held {
		if h.Row == w.Row && h.Txn == w.Txn {
			return true
		}
	}
	return false
}

// few tells whether there are as many locks and transactions as there may be.
func few(l api.Locks) bool {
	txns := map[uint64]int{}
	for _, x := range slices.Concat(l.Held, l.Waits) {
		txns[x.Txn]++
	}
	return len(l.Held)+len(l.Waits) <= 64 && len(txns) <= 8
}

// mayBe tells whether locks may be.
func mayBe(l api.Locks) bool {
	for _, x := range slices.Concat(l.Held, l.Waits) {
		if x.Txn == 0 || x.Mode != shared && x.Mode != exclusive {
			return false
		}
	}
	for i, b := range l.Held {
		for _, a := range l.Held[:i] {
			rises := a.Row < b.Row || a.Row == b.Row && a.Txn < b.Txn
			if !rises || a.Row == b.Row && a.Mode+b.Mode != shared+shared {
				return false
			}
		}
	}
	for i, w := range l.Waits {
		for _, o := range l.Waits[:i] {
			if o.Txn == w.Txn || o.Row == w.Row && upgrades(l, w) && !upgrades(l, o) {
				return false
			}
		}
		for _, h := range l.Held {
			if h.Row == w.Row && h.Txn == w.Txn && (h.Mode == w.Mode || h.Mode == exclusive) {
				return false
			}
		}
		if grantable(l, i) {
			return false
		}
	}
	return few(l)
}

// who is a transaction and a row.
type who struct {
	row uint32
	txn uint64
}

// moved is locks in which the wait at a place is granted.
func moved(l api.Locks, at int) api.Locks {
	modes := map[who]int{}
	for _, h := range append(slices.Clone(l.Held), l.Waits[at]) {
		modes[who{h.Row, h.Txn}] = h.Mode
	}
	var n api.Locks
	for w, mode := range modes {
		n.Held = append(n.Held, api.Lock{Row: w.row, Txn: w.txn, Mode: mode})
	}
	slices.SortFunc(n.Held, func(a, b api.Lock) int {
		if a.Row != b.Row {
			return cmp.Compare(a.Row, b.Row)
		}
		return cmp.Compare(a.Txn, b.Txn)
	})
	n.Waits = slices.Concat(l.Waits[:at], l.Waits[at+1:])
	return n
}

// put is locks with one wait more, and its place.
func put(l api.Locks, w api.Lock) (api.Locks, int) {
	at := len(l.Waits)
	for i := len(l.Waits) - 1; i >= 0; i-- {
		if o := l.Waits[i]; o.Row == w.Row && upgrades(l, w) && !upgrades(l, o) {
			at = i
		}
	}
	return of(l.Held, slices.Concat(l.Waits[:at], row(w), l.Waits[at:])...), at
}

// asked is Ask's answers.
func asked(l api.Locks, w api.Lock) (api.Locks, bool, api.Errno) {
	if !mayBe(l) {
		return api.Locks{}, false, 240
	}
	if w.Txn == 0 || w.Mode != shared && w.Mode != exclusive {
		return api.Locks{}, false, 2
	}
	for _, o := range l.Waits {
		if o.Txn == w.Txn {
			return api.Locks{}, false, 5
		}
	}
	for _, h := range l.Held {
		if h.Txn == w.Txn && h.Row == w.Row && (h.Mode == w.Mode || h.Mode == exclusive) {
			return l, true, 0
		}
	}
	n, at := put(l, w)
	granted := grantable(n, at)
	if granted {
		n = moved(n, at)
	}
	if !few(n) {
		return api.Locks{}, false, 6
	}
	return n, granted, 0
}

// released is Release's answers.
func released(l api.Locks, txn uint64) (api.Locks, []api.Lock, api.Errno) {
	if !mayBe(l) {
		return api.Locks{}, nil, 240
	}
	if txn == 0 {
		return api.Locks{}, nil, 2
	}
	var n api.Locks
	for _, h := range l.Held {
		if h.Txn != txn {
			n.Held = append(n.Held, h)
		}
	}
	for _, w := range l.Waits {
		if w.Txn != txn {
			n.Waits = append(n.Waits, w)
		}
	}
	var granted []api.Lock
	for at := 0; at < len(n.Waits); at++ {
		if grantable(n, at) {
			granted = append(granted, n.Waits[at])
			n, at = moved(n, at), -1
		}
	}
	return n, granted, 0
}

// edges is what Waits answers of locks that may be.
func edges(l api.Locks) []api.Edge {
	found := map[api.Edge]int{}
	for i, w := range l.Waits {
		for _, h := range l.Held {
			if h.Row == w.Row && h.Txn != w.Txn && h.Mode+w.Mode != shared+shared {
				found[api.Edge{From: w.Txn, To: h.Txn}]++
			}
		}
		for _, o := range l.Waits[:i] {
			if o.Row == w.Row {
				found[api.Edge{From: w.Txn, To: o.Txn}]++
			}
		}
	}
	return slices.SortedFunc(maps.Keys(found), func(a, b api.Edge) int {
		if a.From != b.From {
			return cmp.Compare(a.From, b.From)
		}
		return cmp.Compare(a.To, b.To)
	})
}

// mode is what Mode answers.
func mode(l api.Locks, txn uint64, row uint32) int {
	if !mayBe(l) {
		return 0
	}
	for _, h := range l.Held {
		if h.Txn == txn && h.Row == row {
			return h.Mode
		}
	}
	return 0
}

// text is all of what stands in something; nil and empty lists are the same in it.
func text(x any) string {
	return fmt.Sprintf("%+v", x)
}

// wantAsk wants of Ask what the chapter's words say, and is what it tells.
func wantAsk(t *testing.T, l api.Locks, w api.Lock) (api.Locks, bool, api.Errno) {
	t.Helper()
	want, wantOk, wantErr := asked(l, w)
	got, ok, err := lock.Ask(l, w.Txn, w.Row, w.Mode)
	if err != wantErr || ok != wantOk || text(got) != text(want) {
		t.Fatalf("Ask for %+v of %+v:\n%+v, %v, error %d; want\n%+v, %v, error %d", w, l, got, ok, err, want, wantOk, wantErr)
	}
	return got, ok, err
}

// wantRelease wants of Release what the chapter's words say, and is what it tells.
func wantRelease(t *testing.T, l api.Locks, txn uint64) (api.Locks, []api.Lock) {
	t.Helper()
	want, wantGranted, wantErr := released(l, txn)
	got, granted, err := lock.Release(l, txn)
	if err != wantErr || text(granted) != text(wantGranted) || text(got) != text(want) {
		t.Fatalf("Release of %d, %+v:\n%+v, %v, error %d; want\n%+v, %v, error %d", txn, l, got, granted, err, want, wantGranted, wantErr)
	}
	return got, granted
}

// wantTold wants of locks that may be what the chapter's words say of who waits, and for whom.
func wantTold(t *testing.T, l api.Locks) {
	t.Helper()
	got, e1 := lock.Waits(l)
	order, e2 := lock.Order(l)
	var want []uint64
	for _, w := range l.Waits {
		want = append(want, w.Txn)
	}
	if e1 != api.OK || text(got) != text(edges(l)) {
		t.Fatalf("Waits of %+v: %+v, error %d; want %+v", l, got, e1, edges(l))
	}
	if e2 != api.OK || text(order) != text(want) {
		t.Fatalf("Order of %+v: %v, error %d; want %v", l, order, e2, want)
	}
}

// wantMode wants of Mode what the chapter's words say.
func wantMode(t *testing.T, l api.Locks, txn uint64, row uint32) {
	t.Helper()
	if got, want := lock.Mode(l, txn, row), mode(l, txn, row); got != want {
		t.Fatalf("Mode of %d, row %d, in %+v: %d; want %d", txn, row, l, got, want)
	}
}

// wantCheck wants that Check says of locks whether they may be, and that all calls refuse those that may not.
func wantCheck(t *testing.T, what string, l api.Locks, want api.Errno) {
	t.Helper()
	if err := lock.Check(l); err != want || mayBe(l) != (want == api.OK) {
		t.Fatalf("%s: Check of %+v: error %d; want %d", what, l, err, want)
	}
	if want == api.OK {
		wantTold(t, l)
		return
	}
	for _, w := range []api.Lock{sh(1, 5), ex(9, 9), {}} {
		wantNone(t, what, l, w)
	}
}

// wantNone wants that all calls refuse locks that may not be, and answer nothing beside that.
func wantNone(t *testing.T, what string, l api.Locks, w api.Lock) {
	t.Helper()
	a, ok, e1 := lock.Ask(l, w.Txn, w.Row, w.Mode)
	b, granted, e2 := lock.Release(l, w.Txn)
	waits, e3 := lock.Waits(l)
	order, e4 := lock.Order(l)
	if e1 != api.ErrLocks || e2 != api.ErrLocks || e3 != api.ErrLocks || e4 != api.ErrLocks {
		t.Fatalf("%s: %+v: Ask for %+v: error %d, Release: error %d, Waits: error %d, Order: error %d", what, l, w, e1, e2, e3, e4)
	}
	if ok || len(granted)+len(waits)+len(order) > 0 || text(a) != text(api.Locks{}) || text(b) != text(api.Locks{}) {
		t.Fatalf("%s: %+v: beside errors: %+v, %v, %+v, %v, %v, %v", what, l, a, ok, b, granted, waits, order)
	}
	for _, h := range l.Held[:min(len(l.Held), 9)] {
		if m := lock.Mode(l, h.Txn, h.Row); m != 0 {
			t.Fatalf("%s: Mode of %+v, which may not be: %d", what, l, m)
		}
	}
}
