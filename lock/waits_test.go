package lock_test

import (
	"slices"
	"testing"

	"gazetteer/api"
	"gazetteer/lock"
)

// P14.4: how a transaction holds a row.
func TestMode(t *testing.T) {
	l := of(row(ex(3, 0), sh(1, 5), sh(2, 5), ex(topTxn, topRow)), ex(2, 5), sh(4, 5))
	for _, c := range []struct {
		txn  uint64
		row  uint32
		want int
	}{
		{3, 0, exclusive}, {1, 5, shared}, {2, 5, shared}, {topTxn, topRow, exclusive},
		{1, 0, 0}, {3, 5, 0}, {4, 5, 0}, {2, 0, 0}, {2, 6, 0}, {0, 0, 0}, {0, 5, 0}, {9, 9, 0}, {topTxn, 5, 0}, {1, topRow, 0},
	} {
		wantMode(t, l, c.txn, c.row)
		if got := lock.Mode(l, c.txn, c.row); got != c.want {
			t.Errorf("Mode of %d, row %d: %d; want %d", c.txn, c.row, got, c.want)
		}
		if got := lock.Mode(api.Locks{}, c.txn, c.row); got != 0 {
			t.Errorf("Mode of %d, row %d, of none: %d", c.txn, c.row, got)
		}
	}
	l.Held[0].Mode = 3
	for _, h := range l.Held {
		if got := lock.Mode(l, h.Txn, h.Row); got != 0 {
			t.Errorf("Mode of %+v in locks that may not be: %d", h, got)
		}
	}
}

// P14.4: who waits for whom, and in which order they wait.
func TestWaits(t *testing.T) {
	for _, c := range []struct {
		what  string
		l     api.Locks
		edges []api.Edge
		order []uint64
	}{
		{"none", api.Locks{}, nil, nil},
		{"nobody waits", of(row(ex(1, 4), sh(1, 5), sh(2, 5))), nil, nil},
		{"shared for exclusive", of(row(ex(1, 5)), sh(2, 5)), []api.Edge{{From: 2, To: 1}}, []uint64{2}},
		{"exclusive for all shared", of(row(sh(1, 5), sh(4, 5), sh(9, 5)), ex(6, 5)), []api.Edge{{From: 6, To: 1}, {From: 6, To: 4}, {From: 6, To: 9}}, []uint64{6}},
		{"an upgrade for all others", of(row(sh(1, 5), sh(4, 5), sh(9, 5)), ex(4, 5)), []api.Edge{{From: 4, To: 1}, {From: 4, To: 9}}, []uint64{4}},
		{"two upgrades, a circle, each edge once", of(row(sh(1, 5), sh(2, 5)), ex(2, 5), ex(1, 5)), []api.Edge{{From: 1, To: 2}, {From: 2, To: 1}}, []uint64{2, 1}},
		{"shared for those ahead, not for shared that is held", of(row(sh(1, 5)), ex(4, 5), sh(3, 5), sh(2, 5)), []api.Edge{{From: 2, To: 3}, {From: 2, To: 4}, {From: 3, To: 4}, {From: 4, To: 1}}, []uint64{4, 3, 2}},
		{"not for those behind", of(row(ex(5, 5)), sh(1, 5), sh(2, 5)), []api.Edge{{From: 1, To: 5}, {From: 2, To: 1}, {From: 2, To: 5}}, []uint64{1, 2}},
		{"not for other rows", of(row(ex(1, 5), ex(2, 6), ex(3, 7)), sh(3, 5), ex(4, 6)), []api.Edge{{From: 3, To: 1}, {From: 4, To: 2}}, []uint64{3, 4}},
		{"a circle of two rows", of(row(ex(1, 5), ex(2, 6)), ex(2, 5), sh(1, 6)), []api.Edge{{From: 1, To: 2}, {From: 2, To: 1}}, []uint64{2, 1}},
		{"great numbers", of(row(ex(topTxn, topRow)), sh(1<<63, topRow), sh(1, topRow)), []api.Edge{{From: 1, To: 1 << 63}, {From: 1, To: topTxn}, {From: 1 << 63, To: topTxn}}, []uint64{1 << 63, 1}},
	} {
		wantCheck(t, c.what, c.l, api.OK)
		if got, err := lock.Waits(c.l); err != api.OK || !slices.Equal(got, c.edges) {
			t.Errorf("%s: Waits of %+v: %v, error %d; want %v", c.what, c.l, got, err, c.edges)
		}
		if got, err := lock.Order(c.l); err != api.OK || !slices.Equal(got, c.order) {
			t.Errorf("%s: Order of %+v: %v, error %d; want %v", c.what, c.l, got, err, c.order)
		}
	}
}

// P14.4: as many edges as there can be: each of eight that hold a row waits to upgrade, for all others, each told once.
func TestMostWaits(t *testing.T) {
	l := of(crowd(8, 5))
	var want []api.Edge
	for _, w := range []uint64{8, 3, 1, 2, 7, 5, 4, 6} {
		l.Waits = append(l.Waits, ex(w, 5))
		for to := range uint64(8) {
			if to+1 != w {
				want = append(want, api.Edge{From: w, To: to + 1})
			}
		}
	}
	slices.SortStableFunc(want, func(a, b api.Edge) int { return int(a.From) - int(b.From) })
	if got, err := lock.Waits(l); err != api.OK || !slices.Equal(got, want) {
		t.Errorf("Waits of 8 upgrades: %v, error %d; want %v", got, err, want)
	}
	wantTold(t, l)
}
