package page_test

import (
	"bytes"
	"slices"
	"testing"

	"gazetteer/api"
	"gazetteer/page"
)

// roomy is b with room behind its end that holds numbers, and all of it.
func roomy(b []byte) (list, whole []byte) {
	whole = append(slices.Clone(b), row(80, 9)...)
	return whole[:len(b)], whole
}

// roomyPage is a page whose slots have room behind their ends, and all of these.
func roomyPage(p api.Page) (api.Page, [4][]byte) {
	var whole [4][]byte
	for i := range p.Slots {
		p.Slots[i], whole[i] = roomy(p.Slots[i])
	}
	return p, whole
}

// R3: what is handed in is as it was, and the room behind its end, whether it is taken or refused.
func TestWhatIsGivenStays(t *testing.T) {
	wrong := api.Page{Number: 2, Slots: [4][]byte{{1}, row(53, 1), {2}, nil}}
	for _, x := range append(some(), wrong) {
		p, whole := roomyPage(x)
		_, before := roomyPage(x)
		b, bytesWhole := roomy(laid(some()[3]))
		bytesBefore := slices.Clone(bytesWhole)
		l := append(blocks(b), blocks(row(128, 2))...)
		sectorsBefore := slices.Clone(l)
		item, itemWhole := roomy(row(20, 3))
		itemBefore := slices.Clone(itemWhole)

		page.Check(p)
		page.Encode(p)
		page.Sectors(p)
		page.Free(p)
		page.Same(p, p)
		for number := -1; number < 33; number++ {
			page.Decode(number, b)
			page.Of(number, l[:4])
		}
		for slot := -1; slot < 5; slot++ {
			page.Get(p, slot)
			page.Set(p, slot, item, 77)
			page.Set(p, slot, nil, 77)
			page.Set(p, slot, itemWhole, 77)
		}
		if !same(p, x) || !slices.EqualFunc(whole[:], before[:], bytes.Equal) {
			t.Errorf("the page is changed, or the room behind its slots: %v", x)
		}
		if !bytes.Equal(bytesWhole, bytesBefore) || !slices.Equal(l, sectorsBefore) || !bytes.Equal(itemWhole, itemBefore) {
			t.Error("the bytes or the sectors are changed, or the room behind them")
		}
	}
}

// R3: what Encode and Sectors answer is new memory, and keeps nothing of the page.
func TestBytesAreNew(t *testing.T) {
	for _, x := range some() {
		p := copied(x)
		first, _ := page.Encode(p)
		second, _ := page.Encode(p)
		l, _ := page.Sectors(p)
		m, _ := page.Sectors(p)
		clear(first[:cap(first)])
		clear(l[:cap(l)])
		for _, s := range p.Slots {
			clear(s)
		}
		if !bytes.Equal(second, laid(x)) || !slices.Equal(m, blocks(laid(x))) {
			t.Errorf("Encode or Sectors of %v answers one memory twice, or what it was given", x)
		}
	}
}

// wantApart wants a page that is x, none of whose slots shares memory with another one, nor with what is given.
func wantApart(t *testing.T, name string, p, x api.Page, given func() bool) {
	t.Helper()
	if !same(p, x) {
		t.Fatalf("%s: %v; want %v", name, p, x)
	}
	for i := range p.Slots {
		room := p.Slots[i][:cap(p.Slots[i])]
		for j := range room {
			room[j] ^= 255
		}
		for j := range 4 {
			if j != i && !bytes.Equal(p.Slots[j], x.Slots[j]) {
				t.Errorf("%s: slots %d and %d share memory", name, i, j)
			}
		}
		for j := range room {
			room[j] ^= 255
		}
		clear(room)
		if !given() {
			t.Errorf("%s: slot %d is what was given", name, i)
		}
		copy(p.Slots[i], x.Slots[i])
	}
}

// R3: what Decode and Of answer is new memory, each slot its own, with the room behind it; a change of the bytes is not told.
func TestDecodedPageIsNew(t *testing.T) {
	for _, x := range some() {
		b, whole := roomy(laid(x))
		was := slices.Clone(whole)
		p, _ := page.Decode(x.Number, b)
		wantApart(t, "Decode", p, x, func() bool { return bytes.Equal(whole, was) })
		p, _ = page.Decode(x.Number, b)
		clear(whole)
		if !same(p, x) {
			t.Errorf("Decode keeps what it was given: %v; want %v", p, x)
		}

		l := blocks(laid(x))
		p, _ = page.Of(x.Number, l)
		wantApart(t, "Of", p, x, func() bool { return slices.Equal(l, blocks(laid(x))) })
		p, _ = page.Of(x.Number, l)
		clear(l)
		if !same(p, x) {
			t.Errorf("Of keeps what it was given: %v; want %v", p, x)
		}
	}
}

// R3: what Set answers shares nothing with the page nor with the bytes it is given; nor does what Get answers.
func TestSetAndGetAnswerNewMemory(t *testing.T) {
	for _, x := range some() {
		for slot := range 4 {
			p, whole := roomyPage(x)
			_, before := roomyPage(x)
			b, bytesWhole := roomy(row(30, 3))
			bytesBefore := slices.Clone(bytesWhole)
			want := copied(x)
			want.Slots[slot], want.Lsn = row(30, 3), 44
			asBefore := func() bool {
				return slices.EqualFunc(whole[:], before[:], bytes.Equal) && bytes.Equal(bytesWhole, bytesBefore)
			}
			got, _ := page.Set(p, slot, b, 44)
			wantApart(t, "Set", got, want, asBefore)
			got, _ = page.Set(p, slot, b, 44)
			g, _ := page.Get(p, slot)
			clear(g[:cap(g)])
			if !asBefore() {
				t.Error("Get answers what it was given")
			}
			g, _ = page.Get(p, slot)
			for i := range whole {
				clear(whole[i])
			}
			clear(bytesWhole)
			if !same(got, want) || !bytes.Equal(g, x.Slots[slot]) {
				t.Errorf("Set or Get keeps what it was given: %v, % x; want %v, % x", got, g, want, x.Slots[slot])
			}
		}
	}
}

// R3: one list may stand in several slots, and be set, too; each slot of the answer is its own.
func TestOneListInAllSlots(t *testing.T) {
	b := row(9, 3)
	p := api.Page{Number: 4, Slots: [4][]byte{b, b, b, b}}
	got, e := page.Set(p, 2, b, 1)
	if e != api.OK {
		t.Fatalf("Set: error %d", e)
	}
	want := copied(p)
	want.Lsn = 1
	wantApart(t, "Set", got, want, func() bool { return bytes.Equal(b, row(9, 3)) })
}

// R3, R5: what stands in the room behind lists, and whether they are nil or empty, makes no difference.
func TestListsAreTheirItems(t *testing.T) {
	for _, x := range some() {
		p, _ := roomyPage(x)
		if b, e := page.Encode(p); e != api.OK || !bytes.Equal(b, laid(x)) || !page.Same(p, x) || page.Free(p) != page.Free(x) {
			t.Errorf("a page with room behind its slots is another one: %v", x)
		}
		b, _ := roomy(laid(x))
		if got, e := page.Decode(x.Number, b); e != api.OK || !same(got, x) {
			t.Errorf("Decode with room: %v, error %d; want %v", got, e, x)
		}
		whole := laid(x)
		if got, e := page.Decode(x.Number, whole[:255]); e != api.ErrPage || !same(got, api.Page{}) {
			t.Errorf("Decode reads the room behind the end: %v, error %d", got, e)
		}
		if got, e := page.Of(x.Number, blocks(whole)[:3]); e != api.ErrPage || !same(got, api.Page{}) {
			t.Errorf("Of reads the room behind the end: %v, error %d", got, e)
		}
	}
}

// R5: calls leave nothing behind for later ones.
func TestCallsStandAlone(t *testing.T) {
	x := some()[4]
	for range 3 {
		wantRefused(t, "a wrong one", 5, laid(x), api.ErrPage)
		wantRefused(t, "a number of no page", 32, laid(x), api.ErrArg)
		wantDecode(t, x.Number, laid(x))
		if _, e := page.Set(x, 0, make([]byte, 53), 1); e != api.ErrLong {
			t.Errorf("Set: error %d", e)
		}
		if b, e := page.Get(x, 0); e != api.OK || !bytes.Equal(b, x.Slots[0]) {
			t.Errorf("Get: % x, error %d", b, e)
		}
	}
}
