package heap_test

import (
	"bytes"
	"slices"
	"testing"

	"gazetteer/api"
	"gazetteer/heap"
	"gazetteer/page"
)

// roomy is b with room behind its end that holds numbers, and all of it.
func roomy(b []byte) (list, all []byte) {
	all = append(slices.Clone(b), bytes.Repeat([]byte{9, 200}, 60)...)
	return all[:len(b)], all
}

// samePages tells whether two lists have the same pages.
func samePages(a, b []api.Page) bool {
	return slices.EqualFunc(a, b, page.Same)
}

// R3: bytes that are handed in are as they were, and the room behind their end, whether they are taken or refused; what stands there makes no difference.
func TestBytesThatAreGivenStay(t *testing.T) {
	l := wrong()
	for _, x := range some() {
		l = append(l, laid(x), laid(x)[:51])
	}
	for _, x := range l {
		b, all := roomy(x)
		before := slices.Clone(all)
		wantDecode(t, b)
		if !bytes.Equal(all, before) {
			t.Errorf("Decode changes % x, or the room behind it", x)
		}
	}
}

// R3: pages that are handed in are as they were, with the room behind their slots and behind the list, whether they are taken or refused.
func TestPagesThatAreGivenStay(t *testing.T) {
	for _, at := range append(wrong(), nil, laid(of(9)), make([]byte, 53)) {
		var slots [][]byte
		whole := pages(2, 4, 9, 5)
		for i := range whole {
			for j, b := range [][]byte{laid(of(7)), {}, laid(of(uint32(i + 1))), at} {
				list, all := roomy(b)
				whole[i].Slots[j] = list
				slots = append(slots, all)
			}
		}
		slotsBefore := slices.Clone(slots)
		for i, b := range slotsBefore {
			slotsBefore[i] = slices.Clone(b)
		}
		before := copied(whole)
		for n := range 5 {
			wantPlain(t, whole[:n], 7)
		}
		if !samePages(whole, before) || !slices.EqualFunc(slots, slotsBefore, bytes.Equal) {
			t.Errorf("pages with % x are changed, or the room behind them", at)
		}
	}
}

// R3: what is answered is new memory: changed, with the room behind it, it changes nothing that was handed in or is answered again.
func TestAnswersAreNew(t *testing.T) {
	l := pages(1, 2)
	l[0].Slots = [4][]byte{laid(of(3)), nil, laid(of(4)), laid(of(3))}
	l[1].Slots[2] = laid(of(3))
	want := plain(l, 3)
	first, second := told(l, 3), told(l, 3)
	clear(first.room[:cap(first.room)])
	clear(first.items[:cap(first.items)])
	if !second.same(want) || !slices.Equal(first.versions, want.versions) {
		t.Error("answers share memory")
	}
	clear(first.versions[:cap(first.versions)])
	if !second.same(want) || !told(l, 3).same(want) {
		t.Error("answers share memory, or are kept")
	}
	for i := range l {
		for _, b := range l[i].Slots {
			clear(b)
		}
		l[i] = api.Page{}
	}
	if !second.same(want) {
		t.Error("answers share memory with the pages")
	}

	x := of(3)
	a, _ := heap.Encode(x)
	b, _ := heap.Encode(x)
	clear(a[:cap(a)])
	if !bytes.Equal(b, laid(x)) {
		t.Error("Encode's answers share memory")
	}
	y, _ := heap.Decode(b)
	clear(b)
	if y != x {
		t.Error("Decode keeps what it was given")
	}
}

// R3: the same list in several slots and pages.
func TestOneListInAllSlots(t *testing.T) {
	b := laid(of(3))
	l := pages(0, 1)
	for i := range l {
		l[i].Slots = [4][]byte{b, b, b, b}
	}
	wantPlain(t, l, 3)
	if !bytes.Equal(b, laid(of(3))) {
		t.Error("the list is changed")
	}
}

// R5: calls leave nothing behind for later ones; what may not be, neither.
func TestCallsStandAlone(t *testing.T) {
	l := pages(1, 2)
	l[0].Slots[1] = laid(of(3))
	full := allPages(func(_, _ int) bool { return true })
	bad := pages(1)
	bad[0].Slots[0] = []byte{7}
	want := plain(l, 3)
	for range 3 {
		wantRefused(t, "no tuple", bad, api.ErrTuple)
		wantRefused(t, "falling", pages(2, 1), api.ErrPage)
		wantPlain(t, full, 3)
		if got := told(l, 3); !got.same(want) {
			t.Errorf("of the same pages again: %v; want %v", got, want)
		}
		wantTuple(t, api.Tuple{Row: 1}, api.ErrTuple)
		wantTuple(t, of(8), api.OK)
		wantDecode(t, laid(of(9)))
		wantDecode(t, bad[0].Slots[0])
	}
}
