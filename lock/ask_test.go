package lock_test

import (
	"math"
	"slices"
	"testing"

	"gazetteer/api"
	"gazetteer/lock"
)

// wantLocks wants that Ask answers these locks.
func wantLocks(t *testing.T, what string, l api.Locks, w api.Lock, granted bool, want api.Locks) {
	t.Helper()
	got, ok, err := wantAsk(t, l, w)
	if ok != granted || err != api.OK || text(got) != text(want) {
		t.Fatalf("%s: Ask for %+v of %+v:\n%+v, %v, error %d; want\n%+v, %v", what, w, l, got, ok, err, want, granted)
	}
	if err := lock.Check(got); err != api.OK {
		t.Fatalf("%s: Check of %+v: error %d", what, got, err)
	}
}

// wantError wants that Ask answers an error, and nothing beside it.
func wantError(t *testing.T, what string, l api.Locks, w api.Lock, want api.Errno) {
	t.Helper()
	got, ok, err := wantAsk(t, l, w)
	if err != want || ok || text(got) != text(api.Locks{}) {
		t.Fatalf("%s: Ask for %+v of %+v: %+v, %v, error %d; want error %d", what, w, l, got, ok, err, want)
	}
}

// P14.2: what may not be handed in; who waits already.
func TestAskErrors(t *testing.T) {
	l := of(row(ex(1, 5), sh(2, 6)), sh(2, 5), sh(3, 5))
	for _, m := range []int{0, 3, 4, -1, -2, 1<<32 + 1, 1<<32 + 2, math.MinInt, math.MaxInt} {
		wantError(t, "no mode", l, api.Lock{Row: 7, Txn: 4, Mode: m}, api.ErrArg)
		wantError(t, "no mode, of what is held", l, api.Lock{Row: 5, Txn: 1, Mode: m}, api.ErrArg)
		wantError(t, "no mode, of one that waits", l, api.Lock{Row: 5, Txn: 2, Mode: m}, api.ErrArg)
		wantError(t, "no mode, nor transaction", l, api.Lock{Row: 5, Mode: m}, api.ErrArg)
	}
	wantError(t, "Txn 0", l, sh(0, 5), api.ErrArg)
	wantError(t, "Txn 0", l, ex(0, 9), api.ErrArg)
	wantError(t, "Txn 0 of none", api.Locks{}, ex(0, 9), api.ErrArg)
	for _, w := range []api.Lock{sh(2, 5), ex(2, 5), sh(2, 6), ex(2, 6), sh(2, 9), ex(3, 5), sh(3, 6), ex(3, 0)} {
		wantError(t, "one that waits", l, w, api.ErrThere)
	}
	full := of(append(stair(1, 5, 62), ex(1, 90)), sh(2, 90))
	wantError(t, "one that waits, of many locks", full, sh(2, 91), api.ErrThere)
	wantError(t, "no mode, of many locks", full, api.Lock{Row: 91, Txn: 2}, api.ErrArg)
}

// P14.2: who holds a row so already, or exclusively, has it.
func TestAskForWhatIsHeld(t *testing.T) {
	l := of(row(sh(1, 4), sh(2, 4), ex(1, 5), sh(4, 8)), ex(2, 4), sh(3, 5))
	for _, w := range []api.Lock{sh(1, 4), sh(1, 5), ex(1, 5), sh(4, 8)} {
		wantLocks(t, "held", l, w, true, l)
	}
	full := of(append(stair(1, 5, 63), ex(1, 90)))
	wantLocks(t, "held, of 64 locks", full, sh(1, 5), true, full)
	wantLocks(t, "held, of 64 locks", full, sh(1, 90), true, full)
	wantLocks(t, "held, of 64 locks", full, ex(1, 90), true, full)
	many := of(crowd(8, 5))
	wantLocks(t, "held, of 8 transactions", many, sh(8, 5), true, many)
}

// P14.2: what is granted at once stands in its place in Held.
func TestAskGranted(t *testing.T) {
	wantLocks(t, "the first one", api.Locks{}, ex(7, 5), true, of(row(ex(7, 5))))
	wantLocks(t, "row 0", of(row(ex(1, 1))), sh(topTxn, 0), true, of(row(sh(topTxn, 0), ex(1, 1))))
	wantLocks(t, "the last row", of(row(ex(1, 1))), ex(1, topRow), true, of(row(ex(1, 1), ex(1, topRow))))
	wantLocks(t, "a row between", of(row(ex(1, 1), ex(1, 9))), ex(1, 5), true, of(row(ex(1, 1), ex(1, 5), ex(1, 9))))
	l := of(row(sh(2, 5), sh(4, 5)))
	wantLocks(t, "shared ahead", l, sh(1, 5), true, of(row(sh(1, 5), sh(2, 5), sh(4, 5))))
	wantLocks(t, "shared between", l, sh(3, 5), true, of(row(sh(2, 5), sh(3, 5), sh(4, 5))))
	wantLocks(t, "shared behind", l, sh(5, 5), true, of(row(sh(2, 5), sh(4, 5), sh(5, 5))))
	wantLocks(t, "an upgrade, alone", of(row(sh(1, 4), sh(2, 5), sh(1, 6))), ex(2, 5), true, of(row(sh(1, 4), ex(2, 5), sh(1, 6))))
	wantLocks(t, "an upgrade ahead of those who wait", of(row(sh(2, 5)), ex(1, 5), sh(3, 5)), ex(2, 5), true, of(row(ex(2, 5)), ex(1, 5), sh(3, 5)))
	wantLocks(t, "beside waits for other rows", of(row(ex(1, 4), sh(1, 5)), ex(2, 4)), sh(3, 5), true, of(row(ex(1, 4), sh(1, 5), sh(3, 5)), ex(2, 4)))
	wantLocks(t, "a row beside waits for others", of(row(ex(1, 4)), ex(2, 4)), ex(3, 3), true, of(row(ex(3, 3), ex(1, 4)), ex(2, 4)))
}

// P14.2: what is not granted stands in its place in Waits.
func TestAskWaits(t *testing.T) {
	wantLocks(t, "shared of exclusive", of(row(ex(1, 5))), sh(2, 5), false, of(row(ex(1, 5)), sh(2, 5)))
	wantLocks(t, "exclusive of exclusive", of(row(ex(2, 5))), ex(1, 5), false, of(row(ex(2, 5)), ex(1, 5)))
	wantLocks(t, "exclusive of shared", of(row(sh(1, 5))), ex(2, 5), false, of(row(sh(1, 5)), ex(2, 5)))
	wantLocks(t, "shared of shared, behind a wait", of(row(sh(1, 5)), ex(2, 5)), sh(3, 5), false, of(row(sh(1, 5)), ex(2, 5), sh(3, 5)))
	two := of(row(ex(1, 4), ex(1, 5)), sh(2, 5), sh(3, 4))
	wantLocks(t, "at the end", two, sh(4, 5), false, of(two.Held, sh(2, 5), sh(3, 4), sh(4, 5)))
	l := of(row(sh(1, 5), sh(2, 5), sh(3, 5), ex(4, 6)))
	wantLocks(t, "to upgrade, the first wait", l, ex(2, 5), false, of(l.Held, ex(2, 5)))
	l.Waits = row(sh(5, 6))
	wantLocks(t, "to upgrade, behind waits for another row", l, ex(2, 5), false, of(l.Held, sh(5, 6), ex(2, 5)))
	l.Waits = row(sh(5, 6), ex(6, 5), sh(7, 6), sh(8, 5))
	wantLocks(t, "to upgrade, ahead of others", l, ex(2, 5), false, of(l.Held, sh(5, 6), ex(2, 5), ex(6, 5), sh(7, 6), sh(8, 5)))
	wantLocks(t, "another row", l, sh(1, 6), false, of(l.Held, sh(5, 6), ex(6, 5), sh(7, 6), sh(8, 5), sh(1, 6)))
	l.Waits = row(ex(3, 5), sh(5, 6), ex(6, 5), sh(7, 6))
	wantLocks(t, "to upgrade, behind such a one", l, ex(2, 5), false, of(l.Held, ex(3, 5), sh(5, 6), ex(2, 5), ex(6, 5), sh(7, 6)))
	l.Waits = row(sh(5, 6), ex(3, 5), sh(7, 6), ex(1, 5))
	wantLocks(t, "to upgrade, behind two such, at the end", l, ex(2, 5), false, of(l.Held, sh(5, 6), ex(3, 5), sh(7, 6), ex(1, 5), ex(2, 5)))
	wantLocks(t, "not to upgrade, behind those", l, ex(6, 5), false, of(l.Held, sh(5, 6), ex(3, 5), sh(7, 6), ex(1, 5), ex(6, 5)))
	split := of(row(sh(1, 5), sh(2, 5), sh(2, 6), sh(3, 6)), ex(3, 6), sh(7, 6), sh(8, 6))
	wantLocks(t, "to upgrade, behind those not to upgrade of another row", split, ex(1, 5), false, of(split.Held, ex(3, 6), sh(7, 6), sh(8, 6), ex(1, 5)))
}

// P14.2: as many locks as there may be, and one more; an upgrade that is granted makes no more.
func TestAskFullOfLocks(t *testing.T) {
	l := of(stair(1, 5, 63))
	wantLocks(t, "the 64th", l, sh(1, 90), true, of(append(stair(1, 5, 63), sh(1, 90))))
	wantLocks(t, "the 64th, which waits", l, ex(2, 5), false, of(l.Held, ex(2, 5)))
	l.Held = append(stair(1, 5, 62), sh(2, 66))
	wantLocks(t, "the 64th of another one", l, ex(2, 90), true, of(append(slices.Clone(l.Held), ex(2, 90))))
	l = of(stair(1, 5, 64))
	wantError(t, "the 65th", l, sh(1, 90), api.ErrFull)
	wantError(t, "the 65th of another one", l, sh(2, 5), api.ErrFull)
	wantError(t, "the 65th, which would wait", l, ex(2, 5), api.ErrFull)
	for i := range 64 {
		up := ex(1, uint32(5+i))
		want := stair(1, 5, 64)
		want[i] = up
		wantLocks(t, "an upgrade of 64", l, up, true, of(want))
	}
	l = of(append(stair(1, 5, 63), sh(2, 67)))
	wantError(t, "an upgrade that would wait", l, ex(1, 67), api.ErrFull)
	wantError(t, "an upgrade that would wait", l, ex(2, 67), api.ErrFull)
	wantLocks(t, "an upgrade beside that", l, ex(1, 66), true, of(append(stair(1, 5, 61), ex(1, 66), sh(1, 67), sh(2, 67))))
	l = of(append(stair(1, 5, 62), sh(2, 66)))
	wantLocks(t, "an upgrade that waits, the 64th", l, ex(2, 66), false, of(l.Held, ex(2, 66)))
	l = of(append(stair(1, 5, 62), ex(1, 90)), sh(2, 90))
	wantError(t, "the 65th, one of which waits", l, sh(1, 91), api.ErrFull)
	wantLocks(t, "an upgrade, one of which waits", l, ex(1, 5), true, of(append(append(row(ex(1, 5)), stair(1, 6, 61)...), ex(1, 90)), sh(2, 90)))
}

// P14.2: as many transactions as there may be, and one more.
func TestAskFullOfTransactions(t *testing.T) {
	l := of(crowd(7, 5))
	wantLocks(t, "the 8th", l, sh(8, 5), true, of(crowd(8, 5)))
	wantLocks(t, "the 8th, which waits", l, ex(8, 5), false, of(l.Held, ex(8, 5)))
	l = of(crowd(8, 5))
	wantError(t, "the 9th", l, sh(9, 5), api.ErrFull)
	wantError(t, "the 9th, of a row of its own", l, ex(9, 6), api.ErrFull)
	wantError(t, "the 9th, which would wait", l, ex(9, 5), api.ErrFull)
	for txn := range uint64(8) {
		wantLocks(t, "a row more", l, ex(txn+1, 6), true, of(append(crowd(8, 5), ex(txn+1, 6))))
		wantLocks(t, "a wait more", l, ex(txn+1, 5), false, of(l.Held, ex(txn+1, 5)))
	}
	l = of(row(ex(1, 5)), sh(2, 5), sh(3, 5), ex(4, 5), sh(5, 5), ex(6, 5), sh(7, 5))
	wantLocks(t, "the 8th behind those who wait", l, sh(8, 5), false, of(l.Held, append(slices.Clone(l.Waits), sh(8, 5))...))
	l.Waits = append(l.Waits, sh(8, 5))
	wantError(t, "the 9th behind those who wait", l, sh(9, 5), api.ErrFull)
	wantError(t, "the 9th beside those who wait", l, sh(9, 6), api.ErrFull)
	wantError(t, "one of those who wait", l, sh(8, 6), api.ErrThere)
	wantLocks(t, "the one who does not", l, sh(1, 6), true, of(row(ex(1, 5), sh(1, 6)), l.Waits...))
	both := of(slices.Concat(crowd(7, 5), stair(1, 10, 56), row(sh(8, 99))))
	wantError(t, "both would be too many", both, sh(9, 99), api.ErrFull)
}
