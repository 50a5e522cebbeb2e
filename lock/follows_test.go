package lock_test

import (
	"slices"
	"testing"

	"gazetteer/api"
	"gazetteer/lock"
)

// wantFollows wants of locks that were answered what P14.5 says.
func wantFollows(t *testing.T, l api.Locks) {
	t.Helper()
	if err := lock.Check(l); err != api.OK {
		t.Fatalf("Check of %+v, which were answered: error %d", l, err)
	}
	for _, h := range l.Held {
		for _, o := range l.Held {
			if h.Mode == exclusive && h.Row == o.Row && h.Txn != o.Txn {
				t.Fatalf("%+v: %d holds row %d exclusively, %d holds it, too", l, h.Txn, h.Row, o.Txn)
			}
		}
	}
	es, _ := lock.Waits(l)
	order, _ := lock.Order(l)
	for _, txn := range order {
		if !slices.ContainsFunc(es, func(e api.Edge) bool { return e.From == txn }) {
			t.Fatalf("%+v: %d waits, and has no edge", l, txn)
		}
	}
	for _, e := range es {
		if e.From == e.To || !slices.Contains(order, e.From) {
			t.Fatalf("%+v: the edge %+v", l, e)
		}
	}
}

// gone wants that nothing is left of a transaction.
func gone(t *testing.T, l api.Locks, txn uint64) {
	t.Helper()
	for _, x := range slices.Concat(l.Held, l.Waits) {
		if x.Txn == txn || lock.Mode(l, txn, x.Row) != 0 {
			t.Fatalf("%+v: %d was released", l, txn)
		}
	}
}

// drained lets those go, one behind the other, for whom others wait and who do not wait themselves, till there is none: the last one of them, or the first. It is what is left of the waits.
func drained(t *testing.T, l api.Locks, last bool) []api.Lock {
	t.Helper()
	for range 20 {
		es, _ := lock.Waits(l)
		order, _ := lock.Order(l)
		es = slices.DeleteFunc(es, func(e api.Edge) bool { return slices.Contains(order, e.To) })
		if len(es) == 0 {
			return l.Waits
		}
		e := es[0]
		if last {
			e = es[len(es)-1]
		}
		l, _, _ = lock.Release(l, e.To)
		gone(t, l, e.To)
		wantFollows(t, l)
	}
	t.Fatalf("%+v: release after release, and there is one that is waited for", l)
	return nil
}

// circle tells whether some wait for each other all round: whoever waits for nobody that is left goes, till there is none.
func circle(es []api.Edge) bool {
	for {
		stays := slices.DeleteFunc(slices.Clone(es), func(e api.Edge) bool {
			return !slices.ContainsFunc(es, func(o api.Edge) bool { return o.From == e.To })
		})
		if len(stays) == len(es) {
			return len(es) > 0
		}
		es = stays
	}
}

// reached is all locks that come, if some transactions ask for some rows and are released, in each order.
func reached(t *testing.T, txns []uint64, rows []uint32) []api.Locks {
	t.Helper()
	all := []api.Locks{{}}
	known := map[string]bool{text(api.Locks{}): true}
	add := func(l api.Locks) {
		if !known[text(l)] {
			known[text(l)] = true
			all = append(all, l)
		}
	}
	for i := 0; i < len(all); i++ {
		for _, txn := range txns {
			for _, r := range rows {
				wantMode(t, all[i], txn, r)
				for _, m := range []int{shared, exclusive} {
					if l, _, err := wantAsk(t, all[i], api.Lock{Row: r, Txn: txn, Mode: m}); err == api.OK {
						add(l)
					}
				}
			}
			l, granted := wantRelease(t, all[i], txn)
			gone(t, l, txn)
			for _, w := range granted {
				if lock.Mode(l, w.Txn, w.Row) != w.Mode {
					t.Fatalf("%+v: %+v was granted", l, w)
				}
			}
			add(l)
		}
	}
	return all
}

// P14.2 to P14.5: all locks that come of three transactions and two rows, of four and one, and of two and three.
func TestAllReached(t *testing.T) {
	for _, c := range []struct {
		txns  []uint64
		rows  []uint32
		least int // so many there are
	}{
		{[]uint64{1, 2, 9}, []uint32{0, 6}, 5000},
		{[]uint64{1, 2, 3, topTxn}, []uint32{topRow}, 1000},
		{[]uint64{5, 7}, []uint32{1, 2, 3}, 2000},
	} {
		all := reached(t, c.txns, c.rows)
		circles := 0
		for _, l := range all {
			wantTold(t, l)
			wantFollows(t, l)
			es, _ := lock.Waits(l)
			none := !circle(es)
			for _, last := range []bool{false, true} {
				if left := drained(t, l, last); none && len(left) > 0 || !none && len(left) == 0 {
					t.Fatalf("%+v: release after release leaves %v", l, left)
				}
			}
			if !none {
				circles++
			}
		}
		if len(all) < c.least || circles < 100 {
			t.Errorf("%v, %v: %d locks, %d of them with a circle", c.txns, c.rows, len(all), circles)
		}
	}
}

// picker tells numbers from 0 to n - 1, one at a call; those of other seeds are others.
func picker(seed uint64) func(n int) int {
	return func(n int) int {
		seed = seed*6364136223846793005 + 1442695040888963407
		return int(seed>>33) % n
	}
}

// some is what some transaction asks for next: exclusive once in so many times.
func some(pick func(n int) int, txns, rows, rare int) api.Lock {
	w := sh(uint64(1+pick(txns)), uint32(pick(rows)))
	if pick(rare) == 0 {
		w.Mode = exclusive
	}
	return w
}

// P14.2 to P14.5: long histories, in which there are too many locks and transactions, too; who waits in a circle gives up now and then.
func TestHistories(t *testing.T) {
	pick := picker(1)
	seen := map[api.Errno]int{}
	granted, waited, later, most := 0, 0, 0, 0
	for range 300 {
		var l api.Locks
		txns, rows, rare, over := 2+pick(9), 1+pick(40), 2+pick(4+pick(60)), 4+pick(60)
		for range 200 {
			if pick(over) == 0 {
				n, now := wantRelease(t, l, uint64(1+pick(txns)))
				l, later = n, later+len(now)
			} else if n, ok, err := wantAsk(t, l, some(pick, txns, rows, rare)); err == api.OK {
				l = n
				if ok {
					granted++
				} else {
					waited++
				}
			} else {
				seen[err]++
			}
			most = max(most, len(l.Held)+len(l.Waits))
			wantTold(t, l)
			wantFollows(t, l)
		}
		drained(t, l, pick(2) == 0)
	}
	if granted < 1000 || waited < 1000 || later < 500 || most != 64 || seen[api.ErrFull] < 500 || seen[api.ErrThere] < 500 {
		t.Errorf("granted %d, waited %d, granted later %d, at most %d locks, errors %v", granted, waited, later, most, seen)
	}
}

// P14.5: what is asked for by each in turn, and let go by each who does not wait, leaves nothing.
func TestAllGo(t *testing.T) {
	pick := picker(2)
	for range 300 {
		var l api.Locks
		for range 60 {
			w := some(pick, 8, 5, 3)
			if n, _, err := lock.Ask(l, w.Txn, w.Row, w.Mode); err == api.OK {
				l = n
			}
		}
		for txn := range uint64(8) {
			l, _ = wantRelease(t, l, 8-txn)
			gone(t, l, 8-txn)
		}
		if len(l.Held)+len(l.Waits) > 0 {
			t.Fatalf("all were released: %+v", l)
		}
	}
}
