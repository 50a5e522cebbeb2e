package page_test

import (
	"bytes"
	"slices"
	"testing"

	"gazetteer/api"
	"gazetteer/page"
	"gazetteer/sum"
)

// P6.4: Decode of Encode is the page, Encode of that the bytes; so are Of and Sectors.
func TestEncodedIsDecoded(t *testing.T) {
	told := 0
	for p := range choices {
		b, e := page.Encode(p)
		if e != api.OK {
			continue
		}
		told++
		got, e := page.Decode(p.Number, b)
		if e != api.OK || !page.Same(got, p) || !same(got, p) {
			t.Fatalf("Decode of Encode(%v): %v, error %d", p, got, e)
		}
		again, e := page.Encode(got)
		if e != api.OK || !bytes.Equal(again, b) {
			t.Fatalf("Encode(%v): % x, error %d; want % x", got, again, e, b)
		}
		l, e := page.Sectors(p)
		of, f := page.Of(p.Number, l)
		if e != api.OK || f != api.OK || !same(of, p) {
			t.Fatalf("Of of Sectors(%v): %v, errors %d, %d", p, of, e, f)
		}
	}
	if told < 1000 {
		t.Errorf("%d pages only", told)
	}
}

// P6.4: slots of each length, each number.
func TestSlotsOfEachLength(t *testing.T) {
	for n := range 53 {
		for slot := range 4 {
			for number := range 32 {
				p := api.Page{Number: number, Lsn: uint64(n) << (number + 20)}
				p.Slots[slot] = row(n, 1)
				p.Slots[(slot+1)%4] = row(52-n, 2)
				b, e := page.Encode(p)
				if e != api.OK || !bytes.Equal(b, laid(p)) {
					t.Fatalf("Encode(%v): % x, error %d", p, b, e)
				}
				if got, e := page.Decode(number, b); e != api.OK || !same(got, p) {
					t.Fatalf("Decode of Encode(%v): %v, error %d", p, got, e)
				}
			}
		}
	}
}

// P6.4: the bytes of what an empty place is are those of the page, and no empty place.
func TestEmptyPlaceEncoded(t *testing.T) {
	for number := range 32 {
		p, _ := page.Decode(number, make([]byte, 256))
		b, e := page.Encode(p)
		if e != api.OK || nought(b) || !bytes.Equal(b, laid(api.Page{Number: number})) {
			t.Errorf("Encode of the empty page %d: % x, error %d", number, b, e)
		}
		if got, e := page.Decode(number, b); e != api.OK || !same(got, p) {
			t.Errorf("Decode of the empty page %d: %v, error %d", number, got, e)
		}
	}
}

// P6.4: a long row of sets on one page: what was set last is got, by way of bytes and sectors, too.
func TestLongRowOfSets(t *testing.T) {
	p := api.Page{Number: 9}
	var want [4][]byte
	seed := uint32(5)
	pick := func(n int) int {
		seed = seed*1664525 + 1013904223
		return int(seed>>8) % n
	}
	for lsn := range uint64(4000) {
		slot, b := pick(4), row(pick(53), seed)
		next, e := page.Set(p, slot, b, lsn)
		if e != api.OK {
			t.Fatalf("Set: error %d", e)
		}
		want[slot] = b
		switch pick(3) {
		case 0:
			encoded, _ := page.Encode(next)
			next, e = page.Decode(9, encoded)
		case 1:
			l, _ := page.Sectors(next)
			next, e = page.Of(9, l)
		}
		p = next
		if e != api.OK || !same(p, api.Page{Number: 9, Lsn: lsn, Slots: want}) {
			t.Fatalf("behind %d sets: %v, error %d; want %v", lsn, p, e, want)
		}
	}
}

// turn turns bits of b.
func turn(b []byte, bits ...int) {
	for _, i := range bits {
		b[i/8] ^= 1 << (i % 8)
	}
}

// wantNoPage wants that b, with some bits turned, is no page of some number, and that it is the page again with them turned back.
func wantNoPage(t *testing.T, number int, b []byte, bits ...int) {
	t.Helper()
	turn(b, bits...)
	if p, e := page.Decode(number, b); e != api.ErrPage || !same(p, api.Page{}) {
		t.Fatalf("with bits %v turned: Decode(%d): %v, error %d; want error %d", bits, number, p, e, api.ErrPage)
	}
	turn(b, bits...)
}

// grounds are the bytes of which bits are turned: pages, and an empty place.
func grounds() [][]byte {
	var l [][]byte
	for _, p := range some() {
		l = append(l, laid(p))
	}
	return append(l, make([]byte, 256))
}

// P6.4: each bit turned alone: no page of any number.
func TestOneBitTurned(t *testing.T) {
	for _, b := range grounds() {
		for i := range 2048 {
			for _, number := range []int{int(b[1]), int(b[1]) ^ 1<<(i%5), i % 32} {
				wantNoPage(t, number, b, i)
			}
		}
	}
}

// P6.4: two bits turned: all that lie near one another, those of the number, the counts and the sum with all others; and many others.
func TestTwoBitsTurned(t *testing.T) {
	b := laid(some()[3])
	for i := range 2048 {
		for j := range i {
			head := j < 16
			near := i-j < 12
			count := (j/8-slotsAt)%slotSize == 0 && j/8 < noughtsAt && j%8 < 6
			sums := i >= 8*sumAt && j%7 == 0
			if head || near || count || sums || (i*j)%97 == 1 {
				wantNoPage(t, 7, b, i, j)
			}
		}
	}
	for i := range 16 {
		for j := range i {
			for number := range 32 {
				wantNoPage(t, number, b, i, j)
			}
		}
	}
	for _, b := range grounds() {
		for i := 0; i < 2048; i += 13 {
			for j := range i {
				if (i+j)%11 == 0 {
					wantNoPage(t, int(b[1]), b, i, j)
				}
			}
		}
	}
}

// P6.4: three bits turned: side by side, and here and there.
func TestThreeBitsTurned(t *testing.T) {
	for _, b := range grounds() {
		for i := 2; i < 2048; i++ {
			wantNoPage(t, int(b[1]), b, i, i-1, i-2)
		}
		seed := uint32(3)
		for n := 0; n < 8000; n++ {
			var bits []int
			for range 3 {
				seed = seed*1664525 + 1013904223
				bits = append(bits, int(seed>>8)%2048)
			}
			if bits[0] != bits[1] && bits[1] != bits[2] && bits[0] != bits[2] {
				wantNoPage(t, int(b[1]), b, bits...)
			}
		}
	}
}

// P6.4: of all ways to turn one to three bits none makes the sum right again, nor an empty place of a page, nor a page of that: what each bit does to the sum is never what up to two others do. (What some bits do to it together is what each does, one turned by the other.)
func TestNoBitsMakeTheSumRight(t *testing.T) {
	var does []uint32
	b := make([]byte, sumAt)
	empty := sum.Sum32(b)
	for i := range 8 * sumAt {
		turn(b, i)
		does = append(does, sum.Sum32(b)^empty)
		turn(b, i)
	}
	for i := range 32 {
		does = append(does, 1<<i)
	}
	rising := slices.Sorted(slices.Values(does))
	among := func(x uint32) bool {
		_, found := slices.BinarySearch(rising, x)
		return found
	}
	if among(0) || among(empty) || len(slices.Compact(slices.Clone(rising))) != 2048 {
		t.Error("one or two bits leave the sum right")
	}
	for i, x := range does {
		for _, y := range does[:i] {
			if z := x ^ y; among(z) || z == empty || among(z^empty) {
				t.Fatal("two or three bits leave the sum right")
			}
		}
	}
}
