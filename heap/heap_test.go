package heap_test

import (
	"bytes"
	"math"
	"slices"
	"testing"

	"gazetteer/api"
	"gazetteer/heap"
)

// The errors of all calls that take pages: more than there may be, with whatever Numbers.
func TestTooManyPages(t *testing.T) {
	l := pages()
	for n := range 70 {
		l = append(l, api.Page{Number: n})
		if n < 32 {
			wantPlain(t, l, 1)
		} else {
			wantRefused(t, "more than 32 pages", l, api.ErrPage)
		}
	}
	same := make([]api.Page, 33)
	wantRefused(t, "33 pages of one Number", same, api.ErrPage)
	full := allPages(func(_, _ int) bool { return true })
	wantPlain(t, full, 5)
	wantRefused(t, "a full heap, and one more", append(full, api.Page{Number: 32}), api.ErrPage)
	wantRefused(t, "a full heap, and one again", append(full, api.Page{Number: 31}), api.ErrPage)
}

// The errors of all calls that take pages: Numbers that do not rise: the same twice, falling, at each place.
func TestNumbersDoNotRise(t *testing.T) {
	for _, l := range [][]int{{0, 0}, {31, 31}, {1, 0}, {31, 0}, {0, 2, 1}, {0, 2, 2}, {2, 0, 5}, {3, 4, 5, 5}, {3, 4, 5, 4}, {4, 3, 5, 6}, {0, 1, 0}, {5, 5, 5}} {
		wantRefused(t, "Numbers that do not rise", pages(l...), api.ErrPage)
	}
	for _, l := range [][]int{{}, {0}, {31}, {0, 1}, {0, 31}, {1, 2, 3}, {0, 7, 8, 30}} {
		wantPlain(t, pages(l...), 1)
		if _, e := heap.Items(pages(l...)); e != api.OK {
			t.Errorf("Items of pages %v: error %d", l, e)
		}
	}
	for i := range 31 {
		l := allPages(func(page, slot int) bool { return page%2 == slot%2 })
		l[i], l[i+1] = l[i+1], l[i]
		wantRefused(t, "two pages that stand the wrong way round", l, api.ErrPage)
		l[i] = l[i+1]
		wantRefused(t, "a page twice", l, api.ErrPage)
	}
}

// The errors of all calls that take pages: one that may not be, at each place: its Number, or a slot.
func TestPagesThatMayNotBe(t *testing.T) {
	for _, number := range []int{-1, 32, 33, 255, 256, 1 << 32, math.MinInt, math.MaxInt} {
		wantRefused(t, "no number", pages(number), api.ErrPage)
		wantRefused(t, "no number at the end", pages(1, 2, number), api.ErrPage)
		wantRefused(t, "no number ahead", pages(number, 1, 2), api.ErrPage)
		wantRefused(t, "no number between", pages(1, number, 2), api.ErrPage)
	}
	for at := range 3 {
		for slot := range 4 {
			for _, n := range []int{53, 54, 104, 256, 300, 1 << 16} {
				l := pages(1, 2, 3)
				l[at].Slots[slot] = append(laid(of(1)), make([]byte, n-52)...)
				wantRefused(t, "a long slot", l, api.ErrPage)
			}
		}
	}
}

// The errors of all calls that take pages: a slot that is neither free nor has a tuple's bytes, at each place, among free ones and full ones.
func TestSlotsThatHoldNoTuple(t *testing.T) {
	for _, b := range wrong() {
		for at := range 3 {
			for slot := range 4 {
				l := pages(0, 9, 31)
				l[at].Slots[slot] = b
				wantRefused(t, "a slot among free ones", l, api.ErrTuple)
				for i := range l {
					for j := range l[i].Slots {
						if i != at || j != slot {
							l[i].Slots[j] = laid(of(uint32(4*i + j + 1)))
						}
					}
				}
				wantRefused(t, "a slot among full ones", l, api.ErrTuple)
			}
		}
	}
	for n := 1; n < 52; n++ {
		l := pages(3)
		l[0].Slots[2] = laid(of(2))[:n]
		wantRefused(t, "a slot of too few bytes", l, api.ErrTuple)
	}
}

// The errors of all calls that take pages: ErrPage goes ahead of ErrTuple wherever both are, and ErrTuple ahead of ErrFull.
func TestWhichErrorGoesAhead(t *testing.T) {
	for _, b := range wrong() {
		for at := range 3 {
			l := pages(1, 2, 3)
			l[at].Slots[at] = b
			swapped, long, none := copied(l), copied(l), copied(l)
			swapped[1].Number = 3
			long[2].Slots[3] = make([]byte, 53)
			none[2].Number = 32
			wantRefused(t, "no tuple, and Numbers that do not rise", swapped, api.ErrPage)
			wantRefused(t, "no tuple, and a long slot", long, api.ErrPage)
			wantRefused(t, "no tuple, and no number", none, api.ErrPage)
		}
		many := allPages(func(_, _ int) bool { return true })
		many[31].Slots[3] = b
		wantRefused(t, "no tuple in a full heap", many, api.ErrTuple)
		many[0].Slots[0] = laid(api.Tuple{Row: topRow, Xmin: 1})
		wantRefused(t, "no tuple, and no next row", many, api.ErrTuple)
		wantRefused(t, "no tuple, and too many pages", append(many, api.Page{Number: 32}), api.ErrPage)
	}
}

// P10.2, P10.3: of no pages.
func TestNoPages(t *testing.T) {
	for _, l := range [][]api.Page{nil, {}} {
		want := answers{next: 1, errs: [5]api.Errno{api.ErrFull}}
		if got := told(l, 1); !got.same(want) {
			t.Errorf("of no pages: %v; want %v", got, want)
		}
	}
}

// P10.2, P10.3: of a page with one tuple, whose answers are written out.
func TestOnePage(t *testing.T) {
	x := api.Tuple{Row: 1, Xmin: 2, Key: api.Key{X1: 1, Y0: -1}, Value: 3}
	l := pages(2)
	l[0].Slots = [4][]byte{nil, laid(x), {}, nil}
	items := []api.Stored{{Spot: api.Spot{Page: 2, Slot: 1}, Tuple: x}}
	want := answers{place: api.Spot{Page: 2}, room: []int{3}, items: items, versions: items, next: 2}
	if got := told(l, 1); !got.same(want) {
		t.Errorf("row 1: %v; want %v", got, want)
	}
	want.versions = nil
	for _, row := range []uint32{0, 2, 256, topRow} {
		if got := told(l, row); !got.same(want) {
			t.Errorf("row %d: %v; want %v", row, got, want)
		}
	}
}

// P10.2, P10.3: versions of rows in several pages, whose answers are written out; who made or deleted one, and which Lsn a page has, makes no difference.
func TestSeveralPages(t *testing.T) {
	a := api.Tuple{Row: 7, Xmin: 9, Xmax: 3, Value: 1}
	b := api.Tuple{Row: 3, Xmin: 1, Value: 2}
	c := api.Tuple{Row: 7, Xmin: 3, Value: 3}
	d := api.Tuple{Row: 1, Xmin: 4, Xmax: 4, Value: 4}
	l := []api.Page{
		{Number: 4, Lsn: 9, Slots: [4][]byte{laid(c), laid(b), laid(a), laid(b)}},
		{Number: 6, Lsn: 2},
		{Number: 30, Lsn: 5, Slots: [4][]byte{laid(a), nil, laid(d), {}}},
	}
	at := func(page, slot int, t api.Tuple) api.Stored {
		return api.Stored{Spot: api.Spot{Page: page, Slot: slot}, Tuple: t}
	}
	want := answers{
		place:    api.Spot{Page: 6},
		room:     []int{0, 4, 2},
		items:    []api.Stored{at(4, 0, c), at(4, 1, b), at(4, 2, a), at(4, 3, b), at(30, 0, a), at(30, 2, d)},
		versions: []api.Stored{at(4, 0, c), at(4, 2, a), at(30, 0, a)},
		next:     8,
	}
	if got := told(l, 7); !got.same(want) {
		t.Errorf("row 7: %v; want %v", got, want)
	}
	want.versions = []api.Stored{at(30, 2, d)}
	if got := told(l, 1); !got.same(want) {
		t.Errorf("row 1: %v; want %v", got, want)
	}
	want.versions = nil
	if got := told(l, 2); !got.same(want) {
		t.Errorf("row 2: %v; want %v", got, want)
	}
}

// P10.2, P10.3: each choice of slots that are free, of three pages, against the chapter's words.
func TestEachChoiceOfFreeSlots(t *testing.T) {
	for bits := range 1 << 12 {
		l := pages(0, 5, 31)
		for i := range 12 {
			if bits>>i&1 == 1 {
				l[i/4].Slots[i%4] = laid(of(uint32(1 + (i*bits)%5)))
			}
		}
		wantPlain(t, l, 1)
		wantPlain(t, l, uint32(bits%6))
	}
}

// P10.2, P10.3: all pages, full but for one slot or for none, against the chapter's words.
func TestAllPages(t *testing.T) {
	full := allPages(func(_, _ int) bool { return true })
	wantPlain(t, full, 128)
	if _, e := heap.Place(full); e != api.ErrFull {
		t.Errorf("Place in a full heap: error %d", e)
	}
	if n, e := heap.Next(full); e != api.OK || n != 129 {
		t.Errorf("Next of a full heap: %d, error %d", n, e)
	}
	for i := range 128 {
		l := allPages(func(page, slot int) bool { return 4*page+slot != i })
		wantPlain(t, l, uint32(i+1))
		if s, e := heap.Place(l); e != api.OK || s != (api.Spot{Page: i / 4, Slot: i % 4}) {
			t.Errorf("Place where slot %d of page %d is free: %v, error %d", i%4, i/4, s, e)
		}
	}
}

// P10.3: Next at the edges of Rows: the greatest one may stand anywhere, more than once, and be deleted; the last Row is given out, and none behind it.
func TestNext(t *testing.T) {
	for _, c := range []struct {
		rows []uint32
		next uint32
		err  api.Errno
	}{
		{[]uint32{1}, 2, api.OK},
		{[]uint32{2}, 3, api.OK},
		{[]uint32{5, 5, 5}, 6, api.OK},
		{[]uint32{1, 255, 3}, 256, api.OK},
		{[]uint32{9, 1, 3}, 10, api.OK},
		{[]uint32{1, 3, 9}, 10, api.OK},
		{[]uint32{1<<31 - 1, 1}, 1 << 31, api.OK},
		{[]uint32{1, 1 << 31}, 1<<31 + 1, api.OK},
		{[]uint32{topRow - 2}, topRow - 1, api.OK},
		{[]uint32{topRow - 1}, topRow, api.OK},
		{[]uint32{topRow - 1, 1, topRow - 1}, topRow, api.OK},
		{[]uint32{topRow}, 0, api.ErrFull},
		{[]uint32{topRow, 1}, 0, api.ErrFull},
		{[]uint32{1, topRow - 1, topRow}, 0, api.ErrFull},
		{[]uint32{topRow, topRow, topRow}, 0, api.ErrFull},
	} {
		l := pages(1, 3)
		for i, row := range c.rows {
			x := of(row)
			x.Xmax = uint64(i % 2)
			l[i%2].Slots[3-i] = laid(x)
		}
		if n, e := heap.Next(l); n != c.next || e != c.err {
			t.Errorf("Next of rows %d: %d, error %d; want %d, error %d", c.rows, n, e, c.next, c.err)
		}
		wantPlain(t, l, c.rows[0])
	}
}

// P10.2, P10.3: pages all over, right and wrong, against the chapter's words.
func TestPagesAllOver(t *testing.T) {
	pick := picker(2)
	count := map[api.Errno]int{}
	no := append(wrong(), make([]byte, 53))
	for range 20000 {
		var l []api.Page
		for n := pick(4); n < 33; n += pick(12) + min(1, pick(60)) {
			p := api.Page{Number: n, Lsn: uint64(pick(9))}
			for i := range p.Slots {
				switch k := pick(70); {
				case k == 0:
					p.Slots[i] = no[pick(len(no))]
				case k < 40:
					p.Slots[i] = laid(of([]uint32{1, 2, 3, uint32(pick(300)) + 1, topRow - 1, topRow}[pick(6)]))
				}
			}
			l = append(l, p)
		}
		row := []uint32{0, 1, 2, 3, topRow}[pick(5)]
		wantPlain(t, l, row)
		count[plainWrong(l)]++
	}
	if count[api.OK] < 1000 || count[api.ErrPage] < 1000 || count[api.ErrTuple] < 1000 {
		t.Errorf("counted: %v", count)
	}
}

// P10.3: the tuples that are told are whole, in all their fields.
func TestItemsAreWhole(t *testing.T) {
	for x := range choices {
		if plainCheck(x) != api.OK {
			continue
		}
		b, _ := heap.Encode(x)
		l := pages(8)
		l[0].Slots[3] = b
		want := []api.Stored{{Spot: api.Spot{Page: 8, Slot: 3}, Tuple: x}}
		items, e := heap.Items(l)
		versions, f := heap.Versions(l, x.Row)
		if e != api.OK || f != api.OK || !slices.Equal(items, want) || !slices.Equal(versions, want) || !bytes.Equal(b, laid(x)) {
			t.Fatalf("Items, Versions of %v: %v, error %d; %v, error %d", x, items, e, versions, f)
		}
	}
}
