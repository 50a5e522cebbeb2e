package page_test

import (
	"bytes"
	"math"
	"slices"
	"testing"

	"gazetteer/api"
	"gazetteer/page"
	"gazetteer/sum"
)

// Where things stand in a page's bytes: the slots, one behind the other, each with its count; the noughts behind them; the sum.
const (
	slotsAt   = 10
	slotSize  = 53
	noughtsAt = slotsAt + 4*slotSize
	sumAt     = 252
)

// row is n bytes, none of them 0; those of other seeds are others.
func row(n int, seed uint32) []byte {
	b := make([]byte, n)
	for i := range b {
		seed = seed*1664525 + 1013904223
		b[i] = byte(seed>>24) | 1
	}
	return b
}

// big is a number in n bytes, the highest first.
func big(x uint64, n int) []byte {
	b := make([]byte, n)
	for i := range b {
		b[n-1-i] = byte(x % 256)
		x /= 256
	}
	return b
}

// small is the number that bytes say, the highest first.
func small(b []byte) uint64 {
	x := uint64(0)
	for _, c := range b {
		x = 256*x + uint64(c)
	}
	return x
}

// nought tells whether all bytes are 0.
func nought(b []byte) bool {
	return bytes.Equal(b, make([]byte, len(b)))
}

// sealed is a page's bytes with the sum that belongs to them.
func sealed(b []byte) []byte {
	return append(slices.Clone(b[:sumAt]), big(uint64(sum.Sum32(b[:sumAt])), 4)...)
}

// laid is the bytes of a page that may be.
func laid(p api.Page) []byte {
	b := make([]byte, 256)
	copy(b, big(uint64(p.Number), 2))
	copy(b[2:], big(p.Lsn, 8))
	for i := range 4 {
		at := slotsAt + i*slotSize
		b[at] = byte(len(p.Slots[i]))
		copy(b[at+1:], p.Slots[i])
	}
	return sealed(b)
}

// plainCheck is Check's answer in the chapter's words.
func plainCheck(p api.Page) api.Errno {
	if p.Number < 0 || p.Number > 31 {
		return api.ErrPage
	}
	if len(p.Slots[0]) > 52 || len(p.Slots[1]) > 52 || len(p.Slots[2]) > 52 || len(p.Slots[3]) > 52 {
		return api.ErrPage
	}
	return api.OK
}

// plainDecode is Decode's answer in the chapter's words.
func plainDecode(number int, b []byte) (api.Page, api.Errno) {
	if number < 0 || number > 31 {
		return api.Page{}, api.ErrArg
	}
	if len(b) == 256 && nought(b) {
		return api.Page{Number: number}, api.OK
	}
	if len(b) != 256 || small(b[:2]) != uint64(number) || !nought(b[noughtsAt:sumAt]) || small(b[sumAt:]) != uint64(sum.Sum32(b[:sumAt])) {
		return api.Page{}, api.ErrPage
	}
	p := api.Page{Number: number, Lsn: small(b[2:slotsAt])}
	for i := range 4 {
		at := slotsAt + i*slotSize
		slot := b[at+1 : at+slotSize]
		n := int(b[at])
		if n > 52 || !nought(slot[n:]) {
			return api.Page{}, api.ErrPage
		}
		p.Slots[i] = slot[:n]
	}
	return p, api.OK
}

// same tells whether two pages are the same, whether they may be or not.
func same(a, b api.Page) bool {
	return a.Number == b.Number && a.Lsn == b.Lsn &&
		bytes.Equal(a.Slots[0], b.Slots[0]) && bytes.Equal(a.Slots[1], b.Slots[1]) &&
		bytes.Equal(a.Slots[2], b.Slots[2]) && bytes.Equal(a.Slots[3], b.Slots[3])
}

// copied is a page with lists of its own.
func copied(p api.Page) api.Page {
	for i := range p.Slots {
		p.Slots[i] = slices.Clone(p.Slots[i])
	}
	return p
}

// wantDecode wants what the chapter says of bytes, by Decode, and by Of, if they fill sectors.
func wantDecode(t *testing.T, number int, b []byte) {
	t.Helper()
	want, err := plainDecode(number, b)
	if p, e := page.Decode(number, b); e != err || !same(p, want) {
		t.Fatalf("Decode(%d, % x): %v, error %d; want %v, error %d", number, b, p, e, want, err)
	}
	if len(b)%64 != 0 {
		return
	}
	if p, e := page.Of(number, blocks(b)); e != err || !same(p, want) {
		t.Fatalf("Of(%d, % x): %v, error %d; want %v, error %d", number, b, p, e, want, err)
	}
}

// wantRefused wants that an error is told of bytes, and no page.
func wantRefused(t *testing.T, name string, number int, b []byte, want api.Errno) {
	t.Helper()
	if p, e := page.Decode(number, b); e != want || !same(p, api.Page{}) {
		t.Errorf("%s: Decode(%d, %d bytes): %v, error %d; want error %d", name, number, len(b), p, e, want)
	}
	wantDecode(t, number, b)
}

// blocks is bytes as sectors.
func blocks(b []byte) []api.Block {
	var l []api.Block
	for i := 0; i < len(b); i += 64 {
		var s api.Block
		copy(s[:], b[i:i+64])
		l = append(l, s)
	}
	return l
}

// some are pages that may be: empty ones, one with all slots full, some with slots of each kind.
func some() []api.Page {
	return []api.Page{
		{},
		{Number: 31},
		{Number: 1, Lsn: 2, Slots: [4][]byte{{7}}},
		{Number: 7, Lsn: 0x0102030405060708, Slots: [4][]byte{nil, row(52, 1), {}, {0}}},
		{Number: 16, Lsn: math.MaxUint64, Slots: [4][]byte{row(52, 2), row(51, 3), row(1, 4), row(52, 5)}},
		{Number: 31, Lsn: 1 << 63, Slots: [4][]byte{make([]byte, 52), {0, 0, 0}, {0, 9, 0}, {255}}},
	}
}

// wrongNumbers are numbers of no page.
func wrongNumbers() []int {
	return []int{-1, 32, 33, 255, 256, -256, -31, 1 << 16, 1<<16 + 1, 1<<32 + 1, math.MinInt, math.MaxInt}
}

// choices are pages that put together edges of all fields: some that may be, most that may not.
func choices(yield func(api.Page) bool) {
	slots := [][]byte{nil, {}, {0}, {7}, row(52, 1), row(53, 2), make([]byte, 256)}
	for _, number := range []int{0, 1, 31, -1, 32, 1<<16 + 1} {
		for _, lsn := range []uint64{0, 5, math.MaxUint64} {
			for i := range 7 * 7 * 7 * 7 {
				p := api.Page{Number: number, Lsn: lsn}
				for j := range p.Slots {
					p.Slots[j] = slots[i%7]
					i /= 7
				}
				if !yield(p) {
					return
				}
			}
		}
	}
}
