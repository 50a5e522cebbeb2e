package lock_test

import (
	"testing"

	"gazetteer/api"
	"gazetteer/lock"
)

// wantGranted wants that Release answers these locks, and that these are granted.
func wantGranted(t *testing.T, what string, l api.Locks, txn uint64, want api.Locks, granted ...api.Lock) {
	t.Helper()
	got, now := wantRelease(t, l, txn)
	if text(got) != text(want) || text(now) != text(granted) {
		t.Fatalf("%s: Release of %d, %+v:\n%+v, %v; want\n%+v, %v", what, txn, l, got, now, want, granted)
	}
	if err := lock.Check(got); err != api.OK {
		t.Fatalf("%s: Check of %+v: error %d", what, got, err)
	}
}

// P14.3: transaction 0 is none.
func TestReleaseErrors(t *testing.T) {
	for _, l := range []api.Locks{{}, of(row(ex(1, 5)), sh(2, 5)), of(crowd(8, 5))} {
		got, granted, err := lock.Release(l, 0)
		if err != api.ErrArg || len(granted) > 0 || text(got) != text(api.Locks{}) {
			t.Errorf("Release of 0, %+v: %+v, %v, error %d", l, got, granted, err)
		}
	}
}

// P14.3: all that a transaction holds and waits for goes, and nothing of any other.
func TestReleaseTakes(t *testing.T) {
	wantGranted(t, "of none", api.Locks{}, 1, api.Locks{})
	l := of(row(ex(1, 4), sh(1, 5), sh(2, 5), sh(3, 5), ex(2, 6)), ex(3, 5), sh(4, 4), sh(5, 6))
	wantGranted(t, "one that has nothing", l, 9, l)
	wantGranted(t, "the last transaction", l, topTxn, l)
	wantGranted(t, "one that only waits", l, 4, of(l.Held, ex(3, 5), sh(5, 6)))
	wantGranted(t, "one that holds and waits", l, 3, of(row(ex(1, 4), sh(1, 5), sh(2, 5), ex(2, 6)), sh(4, 4), sh(5, 6)))
	wantGranted(t, "one for which another one waits", l, 1, of(row(sh(4, 4), sh(2, 5), sh(3, 5), ex(2, 6)), ex(3, 5), sh(5, 6)), sh(4, 4))
	wantGranted(t, "another one", l, 2, of(row(ex(1, 4), sh(1, 5), sh(3, 5), sh(5, 6)), ex(3, 5), sh(4, 4)), sh(5, 6))
	wantGranted(t, "the last one", of(row(ex(1, 5), sh(1, 7))), 1, api.Locks{})
}

// P14.3: what is granted behind a release, and what is not.
func TestReleaseGrants(t *testing.T) {
	held := row(ex(1, 5))
	wantGranted(t, "exclusive", of(held, ex(2, 5), ex(3, 5)), 1, of(row(ex(2, 5)), ex(3, 5)), ex(2, 5))
	wantGranted(t, "exclusive ahead of shared", of(held, ex(2, 5), sh(3, 5)), 1, of(row(ex(2, 5)), sh(3, 5)), ex(2, 5))
	wantGranted(t, "shared ahead of exclusive", of(held, sh(3, 5), ex(2, 5), sh(4, 5)), 1, of(row(sh(3, 5)), ex(2, 5), sh(4, 5)), sh(3, 5))
	wantGranted(t, "shared ones together", of(held, sh(4, 5), sh(2, 5), sh(3, 5), ex(5, 5), sh(6, 5)), 1, of(row(sh(2, 5), sh(3, 5), sh(4, 5)), ex(5, 5), sh(6, 5)), sh(4, 5), sh(2, 5), sh(3, 5))
	all := of(row(ex(1, 3), ex(1, 4), ex(1, 5)), ex(2, 5), sh(3, 3), sh(4, 5), sh(5, 4), ex(6, 3), sh(7, 4))
	wantGranted(t, "of three rows, in the order of Waits", all, 1, of(row(sh(3, 3), sh(5, 4), sh(7, 4), ex(2, 5)), sh(4, 5), ex(6, 3)), ex(2, 5), sh(3, 3), sh(5, 4), sh(7, 4))
	wantGranted(t, "one of two shared", of(row(sh(1, 5), sh(2, 5)), ex(3, 5)), 1, of(row(sh(2, 5)), ex(3, 5)))
	wantGranted(t, "the last shared one", of(row(sh(2, 5)), ex(3, 5)), 2, of(row(ex(3, 5))), ex(3, 5))
	wantGranted(t, "behind one that only waits", of(row(sh(1, 5)), ex(2, 5), sh(3, 5), sh(4, 5), ex(5, 5), sh(6, 5)), 2, of(row(sh(1, 5), sh(3, 5), sh(4, 5)), ex(5, 5), sh(6, 5)), sh(3, 5), sh(4, 5))
	wantGranted(t, "behind one that waits in the middle", of(held, sh(2, 5), ex(3, 5), sh(4, 5)), 3, of(held, sh(2, 5), sh(4, 5)))
}

// P14.3: an upgrade is granted in the place of what was held, when nobody else holds the row any more.
func TestReleaseGrantsUpgrades(t *testing.T) {
	l := of(row(ex(9, 4), sh(1, 5), sh(2, 5), sh(3, 5), ex(9, 6)), ex(2, 5), ex(1, 5), sh(4, 5))
	wantGranted(t, "two hold still", l, 3, of(row(ex(9, 4), sh(1, 5), sh(2, 5), ex(9, 6)), l.Waits...))
	less := of(row(ex(9, 4), sh(1, 5), sh(2, 5), ex(9, 6)), l.Waits...)
	wantGranted(t, "the other one that upgrades", less, 1, of(row(ex(9, 4), ex(2, 5), ex(9, 6)), sh(4, 5)), ex(2, 5))
	wantGranted(t, "the first one that upgrades", less, 2, of(row(ex(9, 4), ex(1, 5), ex(9, 6)), sh(4, 5)), ex(1, 5))
	wantGranted(t, "one that upgrades, with two that hold", l, 1, of(row(ex(9, 4), sh(2, 5), sh(3, 5), ex(9, 6)), ex(2, 5), sh(4, 5)))
	wantGranted(t, "one that upgrades, and nothing behind it", of(row(sh(1, 5), sh(2, 5)), ex(1, 5), sh(3, 5)), 1, of(row(sh(2, 5), sh(3, 5))), sh(3, 5))
	wantGranted(t, "upgrades of two rows at once", of(row(sh(1, 5), sh(2, 5), sh(1, 6), sh(3, 6)), ex(3, 6), ex(2, 5)), 1, of(row(ex(2, 5), ex(3, 6))), ex(3, 6), ex(2, 5))
}
