package redo_test

import (
	"slices"
	"testing"

	"gazetteer/api"
	"gazetteer/redo"
)

// two is records of two transactions by turns, one of which has been undone in part, and has changed more since; the first Lsn is 10.
func two() []api.Record {
	return []api.Record{
		change(10, 3, 0, 1, 0, "", "a"),
		change(11, 5, 0, 1, 1, "p", "b"),
		change(12, 3, 10, 2, 0, "q", "c"),
		undo(13, 3, 12, 2, 0, "q", 10),
		change(14, 3, 13, 2, 3, "r", ""),
		change(15, 5, 11, 7, 2, "s", "d"),
	}
}

// P12.4: who is undone in which order, and what the records say, whatever Lsn comes next.
func TestUndoInOrder(t *testing.T) {
	open, _ := redo.Open(two())
	for _, n := range []uint64{16, 17, 100, 1 << 40, greatest - 5} {
		want := []api.Record{
			undo(n, 5, 15, 7, 2, "s", 11),
			undo(n+1, 3, 14, 2, 3, "r", 13),
			undo(n+2, 5, n, 1, 1, "p", 0),
			end(n+3, 5, n+2),
			undo(n+4, 3, n+1, 1, 0, "", 0),
			end(n+5, 3, n+4),
		}
		if m, e := redo.Undo(two(), open, n); e != api.OK || !sameRecords(m, want) {
			t.Errorf("Undo from %d: %v, error %d; want %v", n, m, e, want)
		}
	}
}

// P12.4: those with nothing to be undone end ahead of all others, the least Txn first; the others by their next Lsns, not by their Txns or Lasts.
func TestUndoTurns(t *testing.T) {
	l := []api.Record{
		change(1, 7, 0, 0, 0, "a", "b"),
		change(2, 2, 0, 0, 1, "c", "d"),
		undo(3, 9, 0, 0, 2, "", 0),
		undo(4, 4, 0, 0, 3, "", 0),
		change(5, 8, 0, 1, 0, "e", "f"),
		undo(6, 7, 1, 0, 0, "g", 1),
		undo(7, 1, 0, 0, 2, "", 0),
	}
	want := []api.Record{
		end(8, 1, 7), end(9, 4, 4), end(10, 9, 3),
		undo(11, 8, 5, 1, 0, "e", 0), end(12, 8, 11),
		undo(13, 2, 2, 0, 1, "c", 0), end(14, 2, 13),
		undo(15, 7, 6, 0, 0, "a", 0), end(16, 7, 15),
	}
	open, _ := redo.Open(l)
	if m, e := redo.Undo(l, open, 8); e != api.OK || !sameRecords(m, want) {
		t.Errorf("Undo: %v, error %d; want %v", m, e, want)
	}
	wantRow(t, l, 8)
}

// P12.4: a RecUndo on the way makes no record: what it undid is passed by.
func TestUndoPassesByWhatIsUndone(t *testing.T) {
	l := []api.Record{
		change(1, 1, 0, 0, 0, "", "a"),
		change(2, 1, 1, 0, 1, "", "b"),
		undo(3, 1, 2, 0, 1, "", 1),
		change(4, 1, 3, 0, 2, "c", "d"),
		undo(5, 1, 4, 0, 2, "c", 3),
		change(6, 1, 5, 0, 3, "e", "f"),
	}
	want := []api.Record{undo(7, 1, 6, 0, 3, "e", 5), undo(8, 1, 7, 0, 0, "", 0), end(9, 1, 8)}
	if m, e := redo.Undo(l, []api.Open{{Txn: 1, Last: 6, Next: 6}}, 7); e != api.OK || !sameRecords(m, want) {
		t.Errorf("Undo: %v, error %d; want %v", m, e, want)
	}
	wantRow(t, l, 7)
	whole := []api.Record{undo(7, 1, 0, 0, 0, "x", 0), undo(8, 1, 7, 0, 0, "x", 7)}
	if m, e := redo.Undo(whole, []api.Open{{Txn: 1, Last: 8, Next: 8}}, 9); e != api.OK || !sameRecords(m, []api.Record{end(9, 1, 8)}) {
		t.Errorf("Undo of RecUndos alone: %v, error %d", m, e)
	}
}

// P12.4: what is told to be open counts, not what is open in the row; Last and Next may be those of any of its records.
func TestUndoOfWhatIsToldOpen(t *testing.T) {
	l := append(two(), commit(16, 5, 15), end(17, 3, 14))
	for _, c := range []struct {
		name string
		open []api.Open
		want []api.Record
	}{
		{"nobody", nil, nil},
		{"nobody, told by an empty list", []api.Open{}, nil},
		{"one that is committed", []api.Open{{Txn: 5, Last: 15, Next: 15}}, []api.Record{undo(18, 5, 15, 7, 2, "s", 11), undo(19, 5, 18, 1, 1, "p", 0), end(20, 5, 19)}},
		{"one, from its commit on", []api.Open{{Txn: 5, Last: 16, Next: 11}}, []api.Record{undo(18, 5, 16, 1, 1, "p", 0), end(19, 5, 18)}},
		{"one that is ended", []api.Open{{Txn: 3, Last: 17, Next: 13}}, []api.Record{undo(18, 3, 17, 1, 0, "", 0), end(19, 3, 18)}},
		{"an older Last", []api.Open{{Txn: 3, Last: 12, Next: 12}}, []api.Record{undo(18, 3, 12, 2, 0, "q", 10), undo(19, 3, 18, 1, 0, "", 0), end(20, 3, 19)}},
		{"a Next of none", []api.Open{{Txn: 3, Last: 10}}, []api.Record{end(18, 3, 10)}},
		{"one beside one that is passed by", []api.Open{{Txn: 3, Last: 13, Next: 0}, {Txn: 5, Last: 11, Next: 11}}, []api.Record{end(18, 3, 13), undo(19, 5, 11, 1, 1, "p", 0), end(20, 5, 19)}},
	} {
		if m, e := redo.Undo(l, c.open, 18); e != api.OK || !sameRecords(m, c.want) {
			t.Errorf("%s: %v, error %d; want %v", c.name, m, e, c.want)
		}
		wantUndo(t, l, c.open, 18)
	}
}

// wantNoUndo wants an error of Undo, and nothing beside it.
func wantNoUndo(t *testing.T, name string, l []api.Record, open []api.Open, next uint64, e api.Errno) {
	t.Helper()
	if m, err := redo.Undo(l, open, next); err != e || len(m) > 0 {
		t.Errorf("%s: Undo: %v, error %d; want error %d", name, m, err, e)
	}
	wantUndo(t, l, open, next)
}

// P12.4: next is above the last record's Lsn, and 1 at least; that goes ahead of what is wrong with those who are open.
func TestUndoNext(t *testing.T) {
	open := []api.Open{{Txn: 3, Last: 14, Next: 14}}
	for _, o := range [][]api.Open{nil, open, {{}}, {{Txn: 3, Last: 99, Next: 100}}} {
		for _, next := range []uint64{0, 1, 9, 10, 14, 15} {
			wantNoUndo(t, "a next that is not above", two(), o, next, api.ErrArg)
		}
		wantNoUndo(t, "no records, next 0", nil, o, 0, api.ErrArg)
		for _, next := range []uint64{0, 1, greatest - 1, greatest} {
			wantNoUndo(t, "records up to the greatest Lsn", []api.Record{commit(greatest, 3, 0)}, o, next, api.ErrArg)
		}
	}
	for _, next := range []uint64{16, 17, greatest - 2} {
		if m, e := redo.Undo(two(), open, next); e != api.OK || len(m) != 3 || m[0].Lsn != next || m[2].Lsn != next+2 {
			t.Errorf("Undo with next %d: %v, error %d", next, m, e)
		}
	}
	for _, next := range []uint64{1, 2, greatest} {
		if m, e := redo.Undo(nil, nil, next); e != api.OK || len(m) > 0 {
			t.Errorf("Undo of nothing with next %d: %v, error %d", next, m, e)
		}
	}
}

// P12.4: what is told to be open, and may not be.
func TestUndoOpenThatMayNotBe(t *testing.T) {
	three := api.Open{Txn: 3, Last: 14, Next: 14}
	five := api.Open{Txn: 5, Last: 15, Next: 15}
	for _, c := range []struct {
		name string
		open []api.Open
	}{
		{"a Txn 0", []api.Open{{Last: 14, Next: 14}}},
		{"nothing but zeros", []api.Open{{}}},
		{"a Txn 0 ahead", []api.Open{{}, three, five}},
		{"one twice", []api.Open{three, three}},
		{"one twice, otherwise", []api.Open{three, {Txn: 3, Last: 10, Next: 10}}},
		{"falling", []api.Open{five, three}},
		{"no Last", []api.Open{{Txn: 3}}},
		{"a Last of another one", []api.Open{{Txn: 3, Last: 15, Next: 14}}},
		{"a Last ahead of all", []api.Open{{Txn: 3, Last: 9, Next: 9}}},
		{"a Last ahead of all, nothing to be undone", []api.Open{{Txn: 3, Last: 9}}},
		{"a Last behind all", []api.Open{{Txn: 5, Last: 16, Next: 15}}},
		{"the greatest Last", []api.Open{{Txn: 5, Last: greatest, Next: 15}}},
		{"one that has no record", []api.Open{three, {Txn: 4, Last: 15, Next: 15}, five}},
		{"a Next above Last", []api.Open{{Txn: 5, Last: 11, Next: 15}}},
		{"a Next one above Last", []api.Open{{Txn: 3, Last: 14, Next: 15}}},
		{"the greatest Next", []api.Open{{Txn: 3, Last: 14, Next: greatest}}},
		{"the second one's Next", []api.Open{three, {Txn: 5, Last: 11, Next: 12}}},
	} {
		wantNoUndo(t, c.name, two(), c.open, 16, api.ErrRedo)
		wantNoUndo(t, c.name+", at the end", two(), c.open, greatest, api.ErrRedo)
		wantNoUndo(t, c.name+", no records", nil, c.open, 16, api.ErrRedo)
	}
	wantNoUndo(t, "right ones, no records", nil, []api.Open{three, five}, 16, api.ErrRedo)
	many := make([]api.Open, 100000)
	for i := range many {
		many[i] = api.Open{Txn: uint64(i + 1), Last: 10}
	}
	wantNoUndo(t, "more than there are", two(), many, 16, api.ErrRedo)
}

// P12.4: records that do not tell enough.
func TestUndoNotEnough(t *testing.T) {
	cut := []api.Record{change(10, 3, 9, 0, 0, "", "a"), change(11, 5, 0, 0, 1, "", "b"), commit(12, 6, 0), end(13, 7, 0), change(14, 3, 10, 0, 0, "a", "b"), change(15, 6, 12, 0, 2, "", "a"), undo(16, 7, 13, 0, 3, "", 13)}
	for _, c := range []struct {
		name string
		open api.Open
	}{
		{"what is ahead of the first one is to be undone", api.Open{Txn: 3, Last: 10, Next: 9}},
		{"far ahead of it", api.Open{Txn: 3, Last: 10, Next: 1}},
		{"a Back to what is ahead", api.Open{Txn: 3, Last: 10, Next: 10}},
		{"one change behind that", api.Open{Txn: 3, Last: 14, Next: 14}},
		{"another one's", api.Open{Txn: 3, Last: 14, Next: 11}},
		{"a RecCommit", api.Open{Txn: 6, Last: 12, Next: 12}},
		{"a RecCommit behind a change", api.Open{Txn: 6, Last: 15, Next: 15}},
		{"a RecEnd", api.Open{Txn: 7, Last: 13, Next: 13}},
		{"a RecEnd behind an undo", api.Open{Txn: 7, Last: 16, Next: 16}},
	} {
		wantNoUndo(t, c.name, cut, []api.Open{c.open}, 17, api.ErrRedo)
		wantNoUndo(t, c.name+", with Lsns for it", cut, []api.Open{c.open}, greatest-1, api.ErrRedo)
	}
	if m, e := redo.Undo(cut, []api.Open{{Txn: 5, Last: 11, Next: 11}}, 17); e != api.OK || len(m) != 2 {
		t.Errorf("one that is told whole: %v, error %d", m, e)
	}
	wantNoUndo(t, "that beside one that is not", cut, []api.Open{{Txn: 3, Last: 14, Next: 14}, {Txn: 5, Last: 11, Next: 11}}, 17, api.ErrRedo)
	past := []api.Record{undo(20, 3, 19, 0, 0, "", 5)}
	wantNoUndo(t, "a RecUndo's Next ahead of the first", past, []api.Open{{Txn: 3, Last: 20, Next: 20}}, 21, api.ErrRedo)
	other := []api.Record{change(20, 4, 0, 0, 0, "", "a"), undo(21, 3, 0, 0, 0, "", 0), undo(22, 3, 21, 0, 0, "", 20)}
	wantNoUndo(t, "a RecUndo's Next of another one", other, []api.Open{{Txn: 3, Last: 22, Next: 22}}, 23, api.ErrRedo)
}

// changes is n changes of one transaction, from an Lsn on, the first one's Back being that.
func changes(n int, txn, lsn, back uint64) []api.Record {
	var l []api.Record
	for i := range n {
		l = append(l, change(lsn, txn, back, i%32, i/32%4, "a", "b"))
		back, lsn = lsn, lsn+1
	}
	return l
}

// P12.4: as many records as may be made, and one more.
func TestUndoMaxRecords(t *testing.T) {
	for n := range 65 {
		l := changes(n, 1, 1, 0)
		if n < 64 {
			open, _ := redo.Open(l)
			if m, e := redo.Undo(l, open, 65); e != api.OK || n > 0 && len(m) != n+1 {
				t.Errorf("%d changes: %d records, error %d", n, len(m), e)
			}
		}
		wantRow(t, l, 65)
	}
	wantNoUndo(t, "64 changes", changes(64, 1, 1, 0), []api.Open{{Txn: 1, Last: 64, Next: 64}}, 65, api.ErrLong)
	both := append(changes(31, 1, 1, 0), changes(31, 2, 32, 0)...)
	open := []api.Open{{Txn: 1, Last: 31, Next: 31}, {Txn: 2, Last: 62, Next: 62}}
	if m, e := redo.Undo(both, open, 63); e != api.OK || len(m) != 64 {
		t.Errorf("62 changes of two: %d records, error %d", len(m), e)
	}
	both = append(changes(31, 1, 1, 0), changes(32, 2, 32, 0)...)
	open[1] = api.Open{Txn: 2, Last: 63, Next: 63}
	wantNoUndo(t, "63 changes of two", both, open, 64, api.ErrLong)

	var each []api.Record
	var all []api.Open
	for i := range uint64(64) {
		each = append(each, undo(i+1, 100-i, 0, 0, 0, "", 0))
		all = append(all, api.Open{Txn: i + 37, Last: 64 - i})
	}
	if m, e := redo.Undo(each, all, 65); e != api.OK || len(m) != 64 || m[0].Txn != 37 || m[63].Txn != 100 {
		t.Errorf("64 with nothing to be undone: %v, error %d", m, e)
	}
	wantRow(t, each, 65)
}

// P12.4: of too many records and records that do not tell enough the one that is met first.
func TestUndoWhatIsMetFirst(t *testing.T) {
	one := []api.Open{{Txn: 1, Last: 68, Next: 68}}
	wantNoUndo(t, "64 are made, then there is not enough", changes(64, 1, 5, 4), one, 69, api.ErrRedo)
	wantNoUndo(t, "64 are made, then a RecEnd", changes(64, 1, 5, 0), one, 69, api.ErrLong)
	with := append([]api.Record{change(5, 2, 4, 0, 0, "", "a")}, changes(63, 1, 6, 0)...)
	wantNoUndo(t, "a 65th, behind which there is not enough", with, []api.Open{{Txn: 1, Last: 68, Next: 68}, {Txn: 2, Last: 5, Next: 5}}, 69, api.ErrLong)
	wantNoUndo(t, "64 are made, and there is not enough for another one", with, []api.Open{{Txn: 1, Last: 68, Next: 68}, {Txn: 2, Last: 5, Next: 4}}, 69, api.ErrRedo)
	wantNoUndo(t, "not enough, with 65 behind", changes(64, 1, 5, 0), []api.Open{{Txn: 1, Last: 68, Next: 4}}, 69, api.ErrRedo)

	last := []api.Record{change(5, 1, 4, 0, 0, "", "a"), change(6, 1, 5, 0, 0, "a", "b")}
	two := []api.Open{{Txn: 1, Last: 6, Next: 6}}
	wantNoUndo(t, "one with an Lsn too great, then not enough", last, two, greatest, api.ErrLong)
	wantNoUndo(t, "not enough, then one with an Lsn too great", last, two, greatest-1, api.ErrRedo)
	wantNoUndo(t, "not enough at once", last, []api.Open{{Txn: 1, Last: 6, Next: 4}}, greatest, api.ErrRedo)
}

// P12.4: of two whose next Lsn is one and the same the first one has its turn; one of them is not that record's. It is told apart where one record more may be made.
func TestUndoOneNextOfTwo(t *testing.T) {
	row := func(own, other uint64) []api.Record {
		return append([]api.Record{change(5, own, 0, 0, 0, "", "a"), change(6, other, 0, 0, 1, "", "a")}, changes(62, 9, 7, 0)...)
	}
	open := func(own, other uint64) []api.Open {
		l := []api.Open{{Txn: own, Last: 5, Next: 5}, {Txn: other, Last: 6, Next: 5}}
		if own > other {
			slices.Reverse(l)
		}
		return append(l, api.Open{Txn: 9, Last: 68, Next: 68})
	}
	wantNoUndo(t, "the first one's, whose RecEnd is one too many", row(2, 3), open(2, 3), 69, api.ErrLong)
	wantNoUndo(t, "the second one's", row(3, 2), open(3, 2), 69, api.ErrRedo)
}

// P12.4: Lsns up to the greatest, and one above.
func TestUndoLsns(t *testing.T) {
	for n := 1; n < 20; n++ {
		l := changes(n, 1, 1, 0)
		open := []api.Open{{Txn: 1, Last: uint64(n), Next: uint64(n)}}
		next := greatest - uint64(n)
		if m, e := redo.Undo(l, open, next); e != api.OK || len(m) != n+1 || m[n].Lsn != greatest {
			t.Errorf("%d changes with next %d: %v, error %d", n, next, m, e)
		}
		wantNoUndo(t, "one Lsn less", l, open, next+1, api.ErrLong)
		wantNoUndo(t, "one Lsn alone", l, open, greatest, api.ErrLong)
	}
	if m, e := redo.Undo([]api.Record{undo(1, 1, 0, 0, 0, "", 0)}, []api.Open{{Txn: 1, Last: 1}}, greatest); e != api.OK || !sameRecords(m, []api.Record{end(greatest, 1, 1)}) {
		t.Errorf("one record at the greatest Lsn: %v, error %d", m, e)
	}
	high := changes(2, greatest, greatest-4, greatest-9)
	high[0].Back = 0
	if m, e := redo.Undo(high, []api.Open{{Txn: greatest, Last: greatest - 3, Next: greatest - 3}}, greatest-2); e != api.OK || len(m) != 3 || slices.ContainsFunc(m, func(r api.Record) bool { return r.Txn != greatest }) {
		t.Errorf("all numbers at their ends: %v, error %d", m, e)
	}
}
