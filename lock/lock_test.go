package lock_test

import (
	"slices"
	"testing"

	"gazetteer/api"
	"gazetteer/lock"
)

// stair is so many shared locks of one transaction, of rows from one on.
func stair(txn uint64, from uint32, n int) []api.Lock {
	var l []api.Lock
	for i := range n {
		l = append(l, sh(txn, from+uint32(i)))
	}
	return l
}

// crowd is a shared lock of one row for each of so many transactions.
func crowd(n int, row uint32) []api.Lock {
	var l []api.Lock
	for i := range n {
		l = append(l, sh(uint64(i+1), row))
	}
	return l
}

// P14.1: locks that may be, up to the edges of each clause.
func TestCheck(t *testing.T) {
	for what, l := range map[string]api.Locks{
		"none":                                   {},
		"empty lists":                            {Held: row(), Waits: row()},
		"row 0":                                  of(row(ex(1, 0))),
		"all numbers at their ends":              of(row(sh(topTxn-1, topRow), sh(topTxn, topRow)), ex(topTxn, topRow), ex(1, topRow)),
		"64 held":                                of(stair(1, 5, 64)),
		"63 held, one wait":                      of(append(stair(1, 5, 62), ex(1, 90)), sh(2, 90)),
		"8 hold":                                 of(crowd(8, 5)),
		"7 hold, another one waits":              of(crowd(7, 5), ex(8, 5)),
		"one holds, 7 wait":                      of(row(ex(1, 5)), sh(2, 5), ex(3, 5), sh(4, 5), sh(5, 5), ex(6, 5), ex(7, 5), ex(8, 5)),
		"8 hold and wait":                        of(crowd(8, 5), ex(3, 5), ex(1, 5), ex(8, 5), ex(2, 5), ex(7, 5), ex(4, 5), ex(6, 5), ex(5, 5)),
		"rows rise, transactions fall":           of(row(ex(9, 1), sh(3, 2), ex(1, 3))),
		"of one row transactions rise":           of(row(sh(1, 4), sh(2, 4), sh(9, 4), ex(1, 5))),
		"exclusive ones of unlike rows":          of(row(ex(1, 4), ex(2, 5), ex(1, 6))),
		"a wait for the holder of another row":   of(row(ex(1, 4), ex(2, 5)), sh(2, 4)),
		"two wait for each other":                of(row(ex(1, 4), ex(2, 5)), sh(2, 4), ex(1, 5)),
		"a wait to upgrade":                      of(row(sh(1, 4), sh(2, 4)), ex(2, 4)),
		"two waits to upgrade, the other way":    of(row(sh(1, 4), sh(2, 4)), ex(2, 4), ex(1, 4)),
		"to upgrade ahead of others":             of(row(sh(1, 4), sh(2, 4), sh(3, 4)), ex(2, 4), ex(1, 4), sh(5, 4), ex(4, 4)),
		"to upgrade behind those of other rows":  of(row(sh(1, 4), sh(2, 4), ex(2, 5)), sh(3, 5), ex(4, 5), ex(1, 4)),
		"to upgrade of two rows, by turns":       of(row(sh(1, 4), sh(2, 4), sh(1, 5), sh(3, 5)), ex(3, 5), ex(2, 4), sh(6, 5), sh(7, 4)),
		"a shared wait behind an exclusive wait": of(row(sh(1, 4)), ex(2, 4), sh(3, 4)),
		"a shared wait behind a shared one":      of(row(ex(1, 4)), sh(2, 4), sh(3, 4)),
		"who holds other rows waits":             of(row(sh(1, 3), ex(2, 4), ex(1, 5)), sh(1, 4)),
	} {
		wantCheck(t, what, l, api.OK)
	}
}

// P14.1: locks that may not be: for each clause those that break it alone.
func TestCheckRefuses(t *testing.T) {
	for what, l := range map[string]api.Locks{
		"65 held":                                   of(stair(1, 5, 65)),
		"64 held, one wait":                         of(append(stair(1, 5, 63), ex(1, 90)), sh(2, 90)),
		"9 hold":                                    of(crowd(9, 5)),
		"8 hold, another one waits":                 of(crowd(8, 5), ex(9, 5)),
		"one holds, 8 wait":                         of(row(ex(1, 5)), sh(2, 5), ex(3, 5), sh(4, 5), sh(5, 5), ex(6, 5), ex(7, 5), ex(8, 5), ex(9, 5)),
		"9 of rows of their own":                    of(row(ex(1, 1), ex(2, 2), ex(3, 3), ex(4, 4), ex(5, 5), ex(6, 6), ex(7, 7), ex(8, 8), ex(9, 9))),
		"Txn 0 holds":                               of(row(sh(0, 5))),
		"Txn 0 waits":                               of(row(ex(1, 5)), sh(0, 5)),
		"mode 0 is held":                            of(row(api.Lock{Row: 5, Txn: 1})),
		"mode 3 is held":                            of(row(api.Lock{Row: 5, Txn: 1, Mode: 3})),
		"mode -1 is held":                           of(row(api.Lock{Row: 5, Txn: 1, Mode: -1})),
		"mode 0 is waited for":                      of(row(ex(1, 5)), api.Lock{Row: 5, Txn: 2}),
		"mode 3 is waited for":                      of(row(ex(1, 5)), api.Lock{Row: 5, Txn: 2, Mode: 3}),
		"mode 2^32 and 1 is waited for":             of(row(ex(1, 5)), api.Lock{Row: 5, Txn: 2, Mode: 1<<32 + 1}),
		"a wrong one behind right ones":             of(row(sh(1, 5), sh(2, 5), sh(0, 6))),
		"a wrong wait behind right ones":            of(row(ex(1, 5)), sh(2, 5), sh(3, 5), sh(0, 5)),
		"rows fall":                                 of(row(sh(1, 5), sh(2, 4))),
		"rows fall at the end":                      of(row(sh(1, 5), sh(1, 6), sh(2, 4))),
		"transactions fall":                         of(row(sh(2, 5), sh(1, 5))),
		"one is held twice":                         of(row(sh(1, 5), sh(1, 5))),
		"one is held in both modes":                 of(row(sh(1, 5), ex(1, 5))),
		"one is held in both modes, turned":         of(row(ex(1, 5), sh(1, 5))),
		"one is held exclusively twice":             of(row(ex(1, 5), ex(1, 5))),
		"exclusive, then shared":                    of(row(ex(1, 5), sh(2, 5))),
		"shared, then exclusive":                    of(row(sh(1, 5), ex(2, 5))),
		"both exclusive":                            of(row(ex(1, 5), ex(2, 5))),
		"shared twice, then exclusive":              of(row(sh(1, 5), sh(2, 5), ex(3, 5))),
		"exclusive between":                         of(row(sh(1, 5), ex(2, 5), sh(3, 5))),
		"one waits twice for a row":                 of(row(ex(1, 5)), sh(2, 5), sh(2, 5)),
		"one waits twice for a row, in both modes":  of(row(ex(1, 5)), sh(2, 5), ex(2, 5)),
		"one waits for two rows":                    of(row(ex(1, 5), ex(1, 6)), sh(2, 5), sh(2, 6)),
		"one waits for two rows, others between":    of(row(ex(1, 5), ex(1, 6)), sh(2, 5), sh(3, 5), ex(4, 6), sh(2, 6)),
		"shared of shared":                          of(row(sh(1, 5), sh(2, 5)), ex(1, 5), sh(2, 5)),
		"shared of exclusive":                       of(row(ex(1, 5)), sh(2, 5), sh(1, 5)),
		"exclusive of exclusive":                    of(row(ex(1, 5)), sh(2, 5), ex(1, 5)),
		"exclusive of exclusive, alone":             of(row(ex(1, 5)), ex(1, 5)),
		"to upgrade behind another one":             of(row(sh(1, 5), sh(2, 5)), ex(3, 5), ex(1, 5)),
		"to upgrade behind a shared one":            of(row(sh(1, 5), sh(2, 5)), ex(1, 5), sh(3, 5), ex(2, 5)),
		"to upgrade behind two, another row's ones": of(row(sh(1, 5), sh(2, 5), ex(1, 6)), sh(4, 6), ex(3, 5), ex(2, 5)),
		"nobody holds":                              of(nil, ex(1, 5)),
		"nobody holds that row":                     of(row(ex(1, 4), ex(1, 6)), ex(2, 5)),
		"shared beside shared":                      of(row(sh(1, 5)), sh(2, 5)),
		"shared beside two shared":                  of(row(sh(1, 5), sh(2, 5)), sh(3, 5)),
		"shared behind a wait for another row":      of(row(sh(1, 5), ex(1, 6)), ex(2, 6), sh(3, 5)),
		"to upgrade, alone":                         of(row(sh(1, 5)), ex(1, 5)),
		"to upgrade, alone, ahead of another one":   of(row(sh(1, 5)), ex(1, 5), sh(2, 5)),
		"to upgrade, alone, beside other rows":      of(row(sh(2, 4), sh(1, 5), sh(2, 6)), ex(1, 5)),
	} {
		wantCheck(t, what, l, api.ErrLocks)
	}
}

// P14.1: all choices of up to three that are held and up to two that are waited for, of three transactions and two rows, in each order.
func TestCheckAllOver(t *testing.T) {
	var locks []api.Lock
	for _, r := range []uint32{0, 6} {
		for txn := range uint64(3) {
			locks = append(locks, sh(txn+1, r), ex(txn+1, r))
		}
	}
	held, waits := lists(locks, 3), lists(locks, 2)
	right := 0
	for _, h := range held {
		for _, w := range waits {
			l, want := of(h, w...), api.ErrLocks
			if mayBe(l) {
				want = api.OK
				right++
			}
			wantCheck(t, "all over", l, want)
		}
	}
	if right < 300 {
		t.Errorf("only %d of them may be", right)
	}
}

// lists is all lists of up to n of some locks, in each order.
func lists(locks []api.Lock, n int) [][]api.Lock {
	all := [][]api.Lock{nil}
	last := all
	for range n {
		var next [][]api.Lock
		for _, l := range last {
			for _, x := range locks {
				next = append(next, append(slices.Clone(l), x))
			}
		}
		all, last = append(all, next...), next
	}
	return all
}

// P14.1: locks are the same, if both lists are, in their order; nil and empty ones are. Whether they may be is not asked.
func TestSame(t *testing.T) {
	sample := func() api.Locks {
		return of(row(sh(1, 5), sh(2, 5), ex(2, 6)), ex(1, 5), sh(3, 6))
	}
	wantSame := func(what string, a, b api.Locks, want bool) {
		t.Helper()
		if lock.Same(a, b) != want || lock.Same(b, a) != want {
			t.Errorf("Same, %s: %v; want %v", what, !want, want)
		}
	}
	wantSame("none", api.Locks{}, api.Locks{}, true)
	wantSame("empty lists", of(row(), row()...), api.Locks{}, true)
	wantSame("all", sample(), sample(), true)
	for what, change := range map[string]func(l *api.Locks){
		"a Row held":           func(l *api.Locks) { l.Held[2].Row++ },
		"a Txn held":           func(l *api.Locks) { l.Held[0].Txn-- },
		"a Mode held":          func(l *api.Locks) { l.Held[2].Mode = shared },
		"one held less":        func(l *api.Locks) { l.Held = l.Held[:2] },
		"the first held less":  func(l *api.Locks) { l.Held = l.Held[1:] },
		"one held more":        func(l *api.Locks) { l.Held = append(l.Held, api.Lock{}) },
		"another order held":   func(l *api.Locks) { slices.Reverse(l.Held) },
		"none held":            func(l *api.Locks) { l.Held = nil },
		"a Row waited for":     func(l *api.Locks) { l.Waits[1].Row-- },
		"a Txn that waits":     func(l *api.Locks) { l.Waits[1].Txn++ },
		"a Mode waited for":    func(l *api.Locks) { l.Waits[0].Mode = shared },
		"one wait less":        func(l *api.Locks) { l.Waits = l.Waits[:1] },
		"one wait more":        func(l *api.Locks) { l.Waits = append(l.Waits, api.Lock{}) },
		"waits in other order": func(l *api.Locks) { slices.Reverse(l.Waits) },
		"no waits":             func(l *api.Locks) { l.Waits = nil },
		"lists changed":        func(l *api.Locks) { l.Held, l.Waits = l.Waits, l.Held },
		"a wait that is held":  func(l *api.Locks) { l.Held, l.Waits = append(l.Held, l.Waits[0]), l.Waits[1:] },
	} {
		l := sample()
		change(&l)
		wantSame(what, sample(), l, false)
		wantSame(what, l, l, true)
	}
}

// P14.2 to P14.4: the chapter's examples.
func TestExamples(t *testing.T) {
	var l api.Locks
	ask := func(w api.Lock, want bool, wantErr api.Errno) {
		t.Helper()
		n, ok, err := lock.Ask(l, w.Txn, w.Row, w.Mode)
		if ok != want || err != wantErr {
			t.Fatalf("Ask for %+v of %+v: %v, error %d", w, l, ok, err)
		}
		if err == api.OK {
			l = n
		}
	}
	waits := func(want ...api.Edge) {
		t.Helper()
		if got, err := lock.Waits(l); err != api.OK || !slices.Equal(got, want) {
			t.Fatalf("Waits of %+v: %v, error %d; want %v", l, got, err, want)
		}
	}
	release := func(txn uint64, want ...api.Lock) {
		t.Helper()
		n, got, err := lock.Release(l, txn)
		if err != api.OK || !slices.Equal(got, want) {
			t.Fatalf("Release of %d, %+v: %v, error %d; want %v", txn, l, got, err, want)
		}
		l = n
	}
	ask(sh(1, 5), true, api.OK)
	ask(sh(2, 5), true, api.OK)
	ask(ex(1, 5), false, api.OK)
	waits(api.Edge{From: 1, To: 2})
	ask(sh(3, 5), false, api.OK)
	waits(api.Edge{From: 1, To: 2}, api.Edge{From: 3, To: 1})
	release(2, ex(1, 5))
	release(1, sh(3, 5))
	ask(sh(0, 5), false, api.ErrArg)
	ask(api.Lock{Row: 6, Txn: 3, Mode: 3}, false, api.ErrArg)
	ask(sh(3, 5), true, api.OK)
	if want := of(row(sh(3, 5))); !lock.Same(l, want) {
		t.Errorf("%+v; want %+v", l, want)
	}
}
