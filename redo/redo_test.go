package redo_test

import (
	"bytes"
	"math"
	"slices"
	"testing"

	"gazetteer/api"
	"gazetteer/redo"
)

// example is the chapter's records.
func example() []api.Record {
	return []api.Record{
		change(1, 1, 0, 0, 0, "", "\x07"),
		change(2, 2, 0, 0, 1, "", "\x08"),
		commit(3, 1, 1),
	}
}

// P12.1 to P12.5: the chapter's examples.
func TestExamples(t *testing.T) {
	l, pages := example(), blank(0)
	if open, e := redo.Open(l); e != api.OK || !slices.Equal(open, []api.Open{{Txn: 2, Last: 2, Next: 2}}) {
		t.Errorf("Open: %v, error %d", open, e)
	}
	if done, e := redo.Done(l); e != api.OK || !slices.Equal(done, []uint64{1}) {
		t.Errorf("Done: %v, error %d", done, e)
	}
	both := []api.Page{{Lsn: 2, Slots: [4][]byte{{7}, {8}}}}
	if p, e := redo.Redo(pages, l); e != api.OK || !samePages(p, both) {
		t.Errorf("Redo: %v, error %d", p, e)
	}
	made := []api.Record{undo(4, 2, 2, 0, 1, "", 0), end(5, 2, 4)}
	if m, e := redo.Undo(l, []api.Open{{Txn: 2, Last: 2, Next: 2}}, 4); e != api.OK || !sameRecords(m, made) {
		t.Errorf("Undo: %v, error %d", m, e)
	}
	one := []api.Page{{Lsn: 4, Slots: [4][]byte{{7}}}}
	for cut := range 3 {
		p, m, e := redo.All(pages, append(l, made[:cut]...), 4+uint64(cut))
		if e != api.OK || !samePages(p, one) || !sameRecords(m, made[cut:]) {
			t.Errorf("All with %d records behind: %v, %v, error %d", cut, p, m, e)
		}
	}
}

// P12.1: pages that belong to the records, and pages that do not, for one thing each.
func TestCheckEdges(t *testing.T) {
	all := make([]int, 32)
	for i := range all {
		all[i] = i
	}
	at := func(lsn uint64, l []api.Page) []api.Page {
		l[0].Lsn = lsn
		return l
	}
	slots := func(n int) []api.Page {
		l := blank(0, 31)
		l[1].Slots[3] = make([]byte, n)
		return l
	}
	ends := []api.Record{commit(1, 1, 0), end(2, 2, 0)}
	high := []api.Record{change(greatest, 1, 0, 0, 0, "", "a")}
	for _, c := range []struct {
		name  string
		pages []api.Page
		l     []api.Record
		want  api.Errno
	}{
		{"nothing at all", nil, nil, api.OK},
		{"no records", blank(3, 5), nil, api.OK},
		{"no records, a page with an Lsn", at(1, blank(3)), nil, api.OK},
		{"no records, a page with the greatest Lsn", at(greatest, blank(0)), nil, api.OK},
		{"no pages", nil, example(), api.ErrRedo},
		{"no pages, records that change none", nil, ends, api.OK},
		{"a page 0 that those do not change", at(3, blank(0)), ends, api.OK},
		{"another page", blank(1), example(), api.ErrRedo},
		{"others beside it", blank(0, 1, 31), example(), api.OK},
		{"all pages", blank(all...), example(), api.OK},
		{"all pages, one twice", blank(append(slices.Clone(all), 31)...), example(), api.ErrRedo},
		{"33 pages, no records", make([]api.Page, 33), nil, api.ErrRedo},
		{"a page 32", blank(0, 32), example(), api.ErrRedo},
		{"a page 32, no records", blank(32), nil, api.ErrRedo},
		{"a page below 0", blank(-1, 0), example(), api.ErrRedo},
		{"the least page", blank(math.MinInt, 0), example(), api.ErrRedo},
		{"a page twice", blank(0, 0), example(), api.ErrRedo},
		{"pages that fall", blank(1, 0), example(), api.ErrRedo},
		{"pages that fall, no records", blank(2, 1), nil, api.ErrRedo},
		{"the last two fall", blank(0, 5, 4), example(), api.ErrRedo},
		{"a slot of 52 bytes", slots(52), example(), api.OK},
		{"a slot of 53 bytes", slots(53), example(), api.ErrRedo},
		{"a slot of 53 bytes, no records", slots(53), nil, api.ErrRedo},
		{"the last one's Lsn", at(3, blank(0)), example(), api.OK},
		{"an Lsn above it", at(4, blank(0)), example(), api.ErrRedo},
		{"the greatest Lsn", at(greatest, blank(0)), example(), api.ErrRedo},
		{"the greatest Lsn, and records up to it", at(greatest, blank(0)), high, api.OK},
		{"an Lsn above it, of a page without records", at(4, blank(1)), append(example(), change(4, 3, 0, 2, 0, "", "a")), api.ErrRedo},
		{"that, and the other pages", at(greatest, blank(1, 2, 3)), []api.Record{change(4, 3, 0, 2, 0, "", "a")}, api.OK},
		{"only a RecUndo is of it", blank(0), append(example(), undo(4, 2, 2, 7, 0, "", 0)), api.ErrRedo},
		{"only a RecUndo is of it, and it is above", at(5, blank(7)), []api.Record{undo(4, 2, 2, 7, 0, "", 0)}, api.ErrRedo},
		{"only a RecUndo is of it, and it is not", at(4, blank(7)), []api.Record{undo(4, 2, 2, 7, 0, "", 0)}, api.OK},
	} {
		if e := redo.Check(c.pages, c.l); e != c.want {
			t.Errorf("%s: Check: %d; want %d", c.name, e, c.want)
		}
		wantPages(t, c.pages, c.l, 40)
		wantPages(t, c.pages, c.l, 0)
	}
}

// All calls that take records: CheckRow's error goes ahead of all that is wrong with what else they are given.
func TestRowsThatMayNotBe(t *testing.T) {
	long := make([]api.Record, 65)
	for i := range long {
		long[i] = commit(uint64(i+1), 1, uint64(i))
	}
	bad := blank(5, 4, 40)
	opens := []api.Open{{Txn: 0, Last: 9, Next: 10}}
	for _, c := range []struct {
		name string
		l    []api.Record
		want api.Errno
	}{
		{"65 records", long, api.ErrLong},
		{"65 records that are none", make([]api.Record, 65), api.ErrLong},
		{"a record of no Kind", []api.Record{{}}, api.ErrRecord},
		{"a gap", []api.Record{commit(1, 1, 0), commit(3, 2, 0)}, api.ErrRecord},
		{"falling", []api.Record{commit(2, 1, 0), commit(1, 2, 0)}, api.ErrRecord},
		{"a Back to another one's", []api.Record{commit(1, 1, 0), commit(2, 2, 1)}, api.ErrRecord},
		{"a page 32", []api.Record{change(1, 1, 0, 32, 0, "", "a")}, api.ErrRecord},
		{"a slot below 0", []api.Record{change(1, 1, 0, 0, -1, "", "a")}, api.ErrRecord},
		{"53 bytes", []api.Record{{Kind: 2, Lsn: 1, Txn: 1, New: make([]byte, 53)}}, api.ErrRecord},
		{"behind the greatest Lsn", []api.Record{commit(greatest, 1, 0), commit(0, 2, 0)}, api.ErrRecord},
	} {
		wantError(t, c.name, bad, c.l, opens, 0, c.want)
		wantError(t, c.name, nil, c.l, nil, 100, c.want)
		wantError(t, c.name, make([]api.Page, 40), c.l, nil, 1, c.want)
	}
	if e := redo.Check(nil, long[:64]); e != api.OK {
		t.Errorf("64 records: error %d", e)
	}
}

// P12.2: who is open, and who is done, of rows that hold all Kinds.
func TestOpenAndDone(t *testing.T) {
	for _, c := range []struct {
		name string
		l    []api.Record
		open []api.Open
		done []uint64
	}{
		{"none", nil, nil, nil},
		{"a change", []api.Record{change(9, 4, 0, 0, 0, "", "a")}, []api.Open{{Txn: 4, Last: 9, Next: 9}}, nil},
		{"a change with a Back", []api.Record{change(9, 4, 2, 0, 0, "", "a")}, []api.Open{{Txn: 4, Last: 9, Next: 9}}, nil},
		{"two", []api.Record{change(1, 4, 0, 0, 0, "", "a"), change(2, 4, 1, 0, 0, "a", "b")}, []api.Open{{Txn: 4, Last: 2, Next: 2}}, nil},
		{"one undone", []api.Record{change(1, 4, 0, 0, 0, "", "a"), undo(2, 4, 1, 0, 0, "", 0)}, []api.Open{{Txn: 4, Last: 2}}, nil},
		{"one undone, in part", []api.Record{undo(7, 4, 6, 0, 0, "", 5)}, []api.Open{{Txn: 4, Last: 7, Next: 5}}, nil},
		{"a change behind that", []api.Record{undo(7, 4, 6, 0, 0, "", 5), change(8, 4, 7, 0, 0, "", "a")}, []api.Open{{Txn: 4, Last: 8, Next: 8}}, nil},
		{"committed", []api.Record{change(1, 4, 0, 0, 0, "", "a"), commit(2, 4, 1)}, nil, []uint64{4}},
		{"committed alone", []api.Record{commit(2, 4, 1)}, nil, []uint64{4}},
		{"ended", []api.Record{change(1, 4, 0, 0, 0, "", "a"), undo(2, 4, 1, 0, 0, "", 0), end(3, 4, 2)}, nil, nil},
		{"ended alone", []api.Record{end(3, 4, 2)}, nil, nil},
		{"a change behind a commit", []api.Record{commit(1, 4, 0), change(2, 4, 1, 0, 0, "", "a")}, nil, []uint64{4}},
		{"an undo behind a commit", []api.Record{commit(1, 4, 0), undo(2, 4, 1, 0, 0, "", 1)}, nil, []uint64{4}},
		{"a change behind an end", []api.Record{end(1, 4, 0), change(2, 4, 1, 0, 0, "", "a")}, nil, nil},
		{"committed twice", []api.Record{commit(1, 4, 0), commit(2, 4, 1)}, nil, []uint64{4}},
		{"committed and ended", []api.Record{commit(1, 4, 0), end(2, 4, 1)}, nil, []uint64{4}},
		{"ended and committed", []api.Record{end(1, 4, 0), commit(2, 4, 1)}, nil, []uint64{4}},
		{"Txns that fall", []api.Record{commit(1, 9, 0), change(2, 8, 0, 0, 0, "", "a"), commit(3, 7, 0), change(4, greatest, 0, 0, 1, "", "a"), undo(5, 6, 0, 0, 0, "", 0), end(6, 5, 0), commit(7, 1, 0), change(8, 2, 0, 0, 2, "", "a")},
			[]api.Open{{Txn: 2, Last: 8, Next: 8}, {Txn: 6, Last: 5}, {Txn: 8, Last: 2, Next: 2}, {Txn: greatest, Last: 4, Next: 4}}, []uint64{1, 7, 9}},
	} {
		if open, e := redo.Open(c.l); e != api.OK || !slices.Equal(open, c.open) {
			t.Errorf("%s: Open: %v, error %d; want %v", c.name, open, e, c.open)
		}
		if done, e := redo.Done(c.l); e != api.OK || !slices.Equal(done, c.done) {
			t.Errorf("%s: Done: %v, error %d; want %v", c.name, done, e, c.done)
		}
	}
}

// P12.3: a record is done again where the page is older than it, and only there; the others stay.
func TestRedoByLsn(t *testing.T) {
	l := []api.Record{
		change(5, 1, 0, 3, 0, "", "a"),
		change(6, 1, 5, 4, 2, "", "b"),
		change(7, 1, 6, 3, 0, "a", "c"),
		change(8, 1, 7, 3, 1, "x", ""),
		undo(9, 1, 8, 3, 1, "x", 7),
		commit(10, 1, 9),
	}
	slots := [...][2]string{0: {"p", "q"}, 5: {"a", "q"}, 7: {"c", "q"}, 8: {"c", ""}, 9: {"c", "x"}}
	for lsn := range uint64(11) {
		pages := blank(2, 3, 4)
		pages[0].Lsn, pages[1].Lsn = 77, lsn
		pages[1].Slots = [4][]byte{[]byte("p"), []byte("q"), []byte("r"), nil}
		want := copiedPages(pages)
		for n := lsn + 1; n < 10; n++ {
			switch n {
			case 5, 7:
				want[1].Slots[0] = []byte(slots[n][0])
			case 8, 9:
				want[1].Slots[1] = []byte(slots[n][1])
			}
		}
		want[1].Lsn, want[2].Lsn, want[2].Slots[2] = max(lsn, 9), 6, []byte("b")
		if p, e := redo.Redo(pages, l); e != api.OK || !samePages(p, want) {
			t.Errorf("Redo of a page with Lsn %d: %v, error %d; want %v", lsn, p, e, want)
		}
		wantPages(t, pages, l, 11)
	}
}

// P12.3: each page, each slot, slots of each length.
func TestRedoEverySlot(t *testing.T) {
	for n := range 32 {
		for slot := range 4 {
			for _, size := range []int{0, 1, 51, 52} {
				pages := blank(n)
				if n > 0 {
					pages = blank(0, n)
				}
				i := len(pages) - 1
				for j := range 4 {
					pages[i].Slots[j] = []byte{byte(j + 1)}
				}
				b := bytes.Repeat([]byte{9}, size)
				want := copiedPages(pages)
				want[i].Slots[slot], want[i].Lsn = b, 3
				for _, r := range []api.Record{{Kind: 1, Lsn: 3, Txn: 1, Page: n, Slot: slot, Old: []byte{1}, New: b}, {Kind: 2, Lsn: 3, Txn: 1, Page: n, Slot: slot, New: b}} {
					if p, e := redo.Redo(pages, []api.Record{r}); e != api.OK || !samePages(p, want) {
						t.Fatalf("Redo of %v: %v, error %d; want %v", r, p, e, want)
					}
				}
			}
		}
	}
}

// P12.3: a page's Lsn that is the record's own, one below, one above.
func TestRedoAtTheEnds(t *testing.T) {
	for _, at := range []uint64{1, 2, 1 << 32, 1 << 63, greatest - 1} {
		l := []api.Record{change(at, 1, 0, 0, 0, "", "a"), commit(at+1, 1, at)}
		for _, c := range []struct {
			lsn  uint64
			slot string
		}{{0, "a"}, {at - 1, "a"}, {at, "z"}, {at + 1, "z"}} {
			pages := []api.Page{{Lsn: c.lsn, Slots: [4][]byte{[]byte("z")}}}
			want := []api.Page{{Lsn: max(at, c.lsn), Slots: [4][]byte{[]byte(c.slot)}}}
			if p, e := redo.Redo(pages, l); e != api.OK || !samePages(p, want) {
				t.Errorf("Redo of %v on a page with Lsn %d: %v, error %d", l, c.lsn, p, e)
			}
		}
	}
}
