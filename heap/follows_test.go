package heap_test

import (
	"bytes"
	"slices"
	"testing"

	"gazetteer/api"
	"gazetteer/heap"
	"gazetteer/page"
)

// P10.4: Decode of Encode is the tuple.
func TestEncodedIsDecoded(t *testing.T) {
	count := 0
	for x := range choices {
		b, e := heap.Encode(x)
		if e != api.OK {
			continue
		}
		count++
		if y, e := heap.Decode(b); e != api.OK || y != x {
			t.Fatalf("Decode of Encode(%v): %v, error %d", x, y, e)
		}
	}
	if count < 1000 {
		t.Errorf("%d tuples only", count)
	}
}

// P10.4: Encode of Decode is the bytes.
func TestDecodedIsEncoded(t *testing.T) {
	pick := picker(3)
	count := 0
	for range 50000 {
		b := make([]byte, 52)
		for i := range b {
			b[i] = byte(pick(256))
		}
		x, e := heap.Decode(b)
		if e != api.OK {
			continue
		}
		count++
		if again, e := heap.Encode(x); e != api.OK || !bytes.Equal(again, b) {
			t.Fatalf("Encode of Decode(% x): % x, error %d", b, again, e)
		}
	}
	if count < 1000 {
		t.Errorf("%d tuples only", count)
	}
}

// wantCounts wants that what is free and what is there are four times the pages, and that the next row has no version.
func wantCounts(t *testing.T, l []api.Page) {
	t.Helper()
	room, e := heap.Room(l)
	items, f := heap.Items(l)
	sum := len(items)
	for _, n := range room {
		sum += n
	}
	if e != api.OK || f != api.OK || len(room) != len(l) || sum != 4*len(l) {
		t.Fatalf("Room, Items of %d pages: %v, error %d; %v, error %d", len(l), room, e, items, f)
	}
	row, e := heap.Next(l)
	if e == api.ErrFull {
		return
	}
	if v, f := heap.Versions(l, row); e != api.OK || f != api.OK || row == 0 || len(v) != 0 {
		t.Fatalf("the next row %d, error %d, has the versions %v, error %d", row, e, v, f)
	}
}

// wantOneMore wants that Place says the first free spot, and that a tuple that is set there is one item more, all others staying; it answers the pages then.
func wantOneMore(t *testing.T, l []api.Page, x api.Tuple) []api.Page {
	t.Helper()
	before, _ := heap.Items(l)
	at, e := heap.Place(l)
	if e != api.OK {
		t.Fatalf("Place among %d items of %d pages: error %d", len(before), len(l), e)
	}
	taken := func(s api.Stored) bool { return s.Spot == at }
	i := slices.IndexFunc(l, func(p api.Page) bool { return p.Number == at.Page })
	if i < 0 || slices.ContainsFunc(before, taken) {
		t.Fatalf("Place says %v, of pages with %v", at, before)
	}
	b, _ := heap.Encode(x)
	l = slices.Clone(l)
	l[i], e = page.Set(l[i], at.Slot, b, l[i].Lsn+1)
	if e != api.OK {
		t.Fatalf("Set at %v: error %d", at, e)
	}
	behind, e := heap.Items(l)
	found := slices.IndexFunc(behind, taken)
	if e != api.OK || found < 0 || behind[found].Tuple != x {
		t.Fatalf("Items behind a tuple that was set at %v: %v, error %d", at, behind, e)
	}
	if others := slices.Delete(behind, found, found+1); !slices.Equal(others, before) {
		t.Fatalf("all others: %v; want %v", others, before)
	}
	return l
}

// P10.4: a heap that is filled, tuple by tuple, in any number of pages: each Place is right, and the last one ErrFull.
func TestFilledByPlace(t *testing.T) {
	pick := picker(4)
	for n := range 33 {
		var l []api.Page
		for number := range n {
			l = append(l, api.Page{Number: number + pick(2)*(32-n)})
			if number > 0 && l[number].Number <= l[number-1].Number {
				l[number].Number = l[number-1].Number + 1
			}
		}
		for range 4 * n {
			row, e := heap.Next(l)
			if e != api.OK {
				t.Fatalf("Next: error %d", e)
			}
			wantCounts(t, l)
			l = wantOneMore(t, l, of(row))
		}
		if s, e := heap.Place(l); e != api.ErrFull || s != (api.Spot{}) {
			t.Fatalf("Place in %d full pages: %v, error %d", n, s, e)
		}
		if row, e := heap.Next(l); e != api.OK || row != uint32(4*n+1) {
			t.Fatalf("Next behind %d rows: %d, error %d", 4*n, row, e)
		}
		wantCounts(t, l)
	}
}

// P10.4: a long row of tuples that come by Place, and go, in a few pages.
func TestLongRowOfChanges(t *testing.T) {
	pick := picker(5)
	l := pages(0, 3, 4, 31)
	for range 4000 {
		items, e := heap.Items(l)
		if e != api.OK {
			t.Fatalf("Items: error %d", e)
		}
		if len(items) < 16 && (len(items) == 0 || pick(9) < 5) {
			row := []uint32{uint32(pick(6)) + 1, topRow - uint32(pick(40))}[min(1, pick(40)/39)]
			l = wantOneMore(t, l, of(row))
		} else {
			gone := items[pick(len(items))].Spot
			i := slices.IndexFunc(l, func(p api.Page) bool { return p.Number == gone.Page })
			l[i], _ = page.Set(l[i], gone.Slot, nil, l[i].Lsn+1)
		}
		wantCounts(t, l)
		wantPlain(t, l, uint32(pick(7)))
	}
}
