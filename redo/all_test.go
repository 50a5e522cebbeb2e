package redo_test

import (
	"slices"
	"testing"

	"gazetteer/api"
	"gazetteer/redo"
)

// wantNoAll wants an error of All, and nothing beside it.
func wantNoAll(t *testing.T, name string, pages []api.Page, l []api.Record, next uint64, e api.Errno) {
	t.Helper()
	if p, m, err := redo.All(pages, l, next); err != e || len(p)+len(m) > 0 {
		t.Errorf("%s: All: %v, %v, error %d; want error %d", name, p, m, err, e)
	}
	wantPages(t, pages, l, next)
}

// P12.5: pages behind all records and behind those that are made; a page of which no record is stays.
func TestAll(t *testing.T) {
	pages := blank(1, 2, 3, 7)
	pages[0] = api.Page{Number: 1, Lsn: 11, Slots: [4][]byte{[]byte("a"), []byte("b"), []byte("x"), nil}}
	pages[1] = api.Page{Number: 2, Lsn: 5, Slots: [4][]byte{[]byte("q"), nil, nil, []byte("r")}}
	pages[2] = api.Page{Number: 3, Lsn: greatest, Slots: [4][]byte{[]byte("y"), nil, nil, nil}}
	pages[3].Slots[2] = []byte("s")
	for _, n := range []uint64{16, 90, greatest - 5} {
		p, m, e := redo.All(pages, two(), n)
		want := copiedPages(pages)
		want[0].Slots, want[0].Lsn = [4][]byte{nil, []byte("p"), []byte("x"), nil}, n+4
		want[1].Lsn = n + 1
		want[3].Lsn = n
		if e != api.OK || !samePages(p, want) || len(m) != 6 || m[0].Lsn != n || m[5].Lsn != n+5 {
			t.Errorf("All(.., %d): %v, %v, error %d; want %v", n, p, m, e, want)
		}
		wantPages(t, pages, two(), n)
	}
}

// P12.5: if nobody is open next is not asked, and nothing is made.
func TestAllOfNobody(t *testing.T) {
	done := append(example(), undo(4, 2, 2, 0, 1, "", 0), end(5, 2, 4))
	want := []api.Page{{Lsn: 4, Slots: [4][]byte{{7}}}}
	for _, next := range []uint64{0, 1, 4, 5, 6, greatest} {
		if p, m, e := redo.All(blank(0), done, next); e != api.OK || len(m) > 0 || !samePages(p, want) {
			t.Errorf("All(.., %d): %v, %v, error %d; want %v", next, p, m, e, want)
		}
		if p, m, e := redo.All(want, nil, next); e != api.OK || len(m) > 0 || !samePages(p, want) {
			t.Errorf("All of no records, next %d: %v, %v, error %d; want %v", next, p, m, e, want)
		}
		if p, m, e := redo.All(nil, nil, next); e != api.OK || len(p)+len(m) > 0 {
			t.Errorf("All of nothing, next %d: %v, %v, error %d", next, p, m, e)
		}
		last := []api.Record{change(greatest-1, 1, 0, 0, 0, "", "\x07"), commit(greatest, 1, greatest-1)}
		if p, m, e := redo.All(want, last, next); e != api.OK || len(m) > 0 || p[0].Lsn != greatest-1 {
			t.Errorf("All of records up to the greatest Lsn, next %d: %v, %v, error %d", next, p, m, e)
		}
	}
}

// P12.5: Check's error, then Undo's: of next, of what the records do not tell, of too many.
func TestAllErrors(t *testing.T) {
	right, wrong := blank(0, 1, 2, 7), blank(1, 2)
	for _, next := range []uint64{0, 1, 10, 14, 15} {
		wantNoAll(t, "a next that is not above", right, two(), next, api.ErrArg)
		wantNoAll(t, "that, and pages that do not belong", wrong, two(), next, api.ErrRedo)
	}
	wantNoAll(t, "pages that do not belong", wrong, two(), 16, api.ErrRedo)
	wantNoAll(t, "pages that fall", blank(7, 2, 1), two(), 16, api.ErrRedo)
	cut := two()[1:]
	wantNoAll(t, "not enough is told", right, cut, 16, api.ErrRedo)
	wantNoAll(t, "that, and a next that is not above", right, cut, 15, api.ErrArg)
	wantNoAll(t, "not enough Lsns", right, two(), greatest-4, api.ErrLong)
	wantNoAll(t, "no Lsn at all", blank(0), []api.Record{change(greatest, 1, 0, 0, 0, "", "a")}, greatest, api.ErrArg)
	all := make([]int, 32)
	for i := range all {
		all[i] = i
	}
	wantNoAll(t, "65 records to be made", blank(all...), changes(64, 1, 1, 0), 65, api.ErrLong)
	if p, m, e := redo.All(blank(all...), changes(63, 1, 1, 0), 64); e != api.OK || len(p) != 32 || len(m) != 64 {
		t.Errorf("64 records to be made: %d pages, %d records, error %d", len(p), len(m), e)
	}
	if p, m, e := redo.All(blank(all...), append(changes(63, 1, 1, 0), end(64, 2, 0)), 65); e != api.OK || len(p) != 32 || len(m) != 64 {
		t.Errorf("64 and 64 records: %d pages, %d records, error %d", len(p), len(m), e)
	}
}

// eachRow tells all rows of up to n records behind l, by two transactions, on two pages, with each Back and Next that there may be and some that may not.
func eachRow(l []api.Record, first uint64, n int, tell func([]api.Record)) {
	tell(l)
	if n == 0 {
		return
	}
	lsn := first + uint64(len(l))
	for _, txn := range []uint64{2, 3} {
		backs := []uint64{0, first - 1}
		for _, r := range l {
			if r.Txn == txn {
				backs = append(backs, r.Lsn)
			}
		}
		slices.Sort(backs)
		backs = slices.Compact(backs)
		for i, back := range backs {
			next := []api.Record{change(lsn, txn, back, 0, 1, "o", "n"), change(lsn, txn, back, 1, 0, "", "n"), commit(lsn, txn, back), end(lsn, txn, back)}
			for _, x := range backs[:i+1] {
				next = append(next, undo(lsn, txn, back, 0, 1, "u", x))
			}
			for _, r := range next {
				eachRow(append(slices.Clone(l), r), first, n-1, tell)
			}
		}
	}
}

// P12.1 to P12.5: all short rows, from two Lsns on, on pages of several Lsns, against the chapter's words.
func TestAllShortRows(t *testing.T) {
	rows := 0
	for _, first := range []uint64{1, 7} {
		eachRow(nil, first, 3, func(l []api.Record) {
			rows++
			next := first + uint64(len(l))
			wantRow(t, l, next)
			for _, lsn := range []uint64{0, first, next - 1, next} {
				pages := blank(0, 1)
				pages[rows%2].Lsn, pages[0].Slots[1] = lsn, []byte("s")
				wantPages(t, pages, l, next)
			}
			wantPages(t, blank(0), l, next+uint64(rows%3)-1)
			for _, a := range []uint64{0, first, first + 1, first + 2} {
				o := []api.Open{{Txn: 2, Last: next - 1, Next: a}, {Txn: 3, Last: first + uint64(rows%3), Next: first + uint64(rows/3%3)}}
				wantUndo(t, l, o, next)
				wantUndo(t, l, o[:1], next)
				wantUndo(t, l, o[1:], next)
			}
		})
	}
	if rows < 10000 {
		t.Errorf("%d rows only", rows)
	}
}

// anyRow is a row of up to n records that may be, of a few transactions; most of them go back to where they were.
func anyRow(c *chance, n int) []api.Record {
	first := uint64(c.below(9) + 1)
	last := map[uint64]uint64{}
	var l []api.Record
	for i := range c.below(n + 1) {
		lsn, txn := first+uint64(i), uint64(c.below(4)+1)
		back := last[txn]
		if back == 0 && c.below(9) == 0 {
			back = first - 1
		}
		r := change(lsn, txn, back, c.below(3)*5, c.below(4), string(rune('a'+c.below(3))), string(rune('A'+c.below(9))))
		switch c.below(20) {
		case 0:
			r = commit(lsn, txn, back)
		case 1:
			r = end(lsn, txn, back)
		case 2, 3, 4, 5:
			r = undo(lsn, txn, back, c.below(3)*5, c.below(4), string(rune('a'+c.below(26))), back)
			if back > first {
				r.Next = l[back-first].Back
			}
		}
		last[txn] = lsn
		l = append(l, r)
	}
	return l
}

// P12.1 to P12.5: rows of each length, whose pages are of any age, and open ones that are told wrong, against the chapter's words.
func TestAnyRows(t *testing.T) {
	made, refused := 0, 0
	for seed := range 30000 {
		c := from(seed)
		l := anyRow(c, 1+seed%64)
		next := uint64(1)
		if len(l) > 0 {
			next = l[len(l)-1].Lsn + 1 + uint64(c.below(2)*c.below(30))
		}
		pages := blank(0, 5, 10)
		for i := range pages {
			pages[i].Lsn = uint64(c.below(int(next)))
			pages[i].Slots[c.below(4)] = []byte{byte(seed)}
		}
		wantRow(t, l, next)
		wantPages(t, pages, l, next)
		open := plainOpen(l)
		for range 4 {
			if len(open) == 0 {
				break
			}
			o := &open[c.below(len(open))]
			switch c.below(4) {
			case 0:
				o.Next = uint64(c.below(int(min(o.Last, next)) + 1))
			case 1:
				o.Last = uint64(c.below(int(next) + 1))
			case 2:
				o.Next, o.Last = 0, o.Last-uint64(c.below(2))
			case 3:
				open = open[1:]
			}
			wantUndo(t, l, open, next)
		}
		if m, e := redo.Undo(l, plainOpen(l), next); e == api.OK && len(m) > 1 {
			made++
		} else if e != api.OK {
			refused++
		}
	}
	if made < 3000 || refused < 1000 {
		t.Errorf("%d rows are undone, %d refused", made, refused)
	}
}
