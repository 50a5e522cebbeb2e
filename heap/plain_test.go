package heap_test

import (
	"math"
	"slices"
	"testing"

	"gazetteer/api"
	"gazetteer/heap"
)

const (
	least, most = math.MinInt64, math.MaxInt64
	topRow      = math.MaxUint32 // the greatest Row that there may be
)

// The tests hold heap against a plain reading of the chapter, which cuts bytes up by their places.

// big is the last n bytes of a number, the highest first.
func big(x uint64, n int) []byte {
	b := make([]byte, n)
	for i := range b {
		b[n-1-i] = byte(x % 256)
		x /= 256
	}
	return b
}

// small is the number that bytes say, the highest first.
func small(b []byte) uint64 {
	x := uint64(0)
	for _, c := range b {
		x = 256*x + uint64(c)
	}
	return x
}

// whole is the whole number that 8 bytes say as a two's complement.
func whole(b []byte) int64 {
	x := small(b)
	if b[0] >= 128 {
		return -int64(^x) - 1
	}
	return int64(x)
}

// plainCheck is Check's answer in the chapter's words.
func plainCheck(t api.Tuple) api.Errno {
	row := t.Row >= 1
	xmin := 1 <= t.Xmin && t.Xmin <= 4294967295
	xmax := t.Xmax <= 4294967295
	box := t.Key.X0 <= t.Key.X1 && t.Key.Y0 <= t.Key.Y1
	if row && xmin && xmax && box {
		return api.OK
	}
	return api.ErrTuple
}

// laid is the bytes of a tuple, as far as they hold it, whether it may be or not.
func laid(t api.Tuple) []byte {
	return slices.Concat(
		big(uint64(t.Row), 4), big(t.Xmin, 4), big(t.Xmax, 4),
		big(uint64(t.Key.X0), 8), big(uint64(t.Key.X1), 8),
		big(uint64(t.Key.Y0), 8), big(uint64(t.Key.Y1), 8), big(uint64(t.Value), 8),
	)
}

// plainDecode is Decode's answer in the chapter's words.
func plainDecode(b []byte) (api.Tuple, api.Errno) {
	if len(b) != 52 {
		return api.Tuple{}, api.ErrTuple
	}
	t := api.Tuple{
		Row: uint32(small(b[:4])), Xmin: small(b[4:8]), Xmax: small(b[8:12]),
		Key:   api.Key{X0: whole(b[12:20]), X1: whole(b[20:28]), Y0: whole(b[28:36]), Y1: whole(b[36:44])},
		Value: whole(b[44:]),
	}
	if plainCheck(t) != api.OK {
		return api.Tuple{}, api.ErrTuple
	}
	return t, api.OK
}

// answers is what is told of pages by all calls that take them.
type answers struct {
	place    api.Spot
	room     []int
	items    []api.Stored
	versions []api.Stored
	next     uint32
	errs     [5]api.Errno
}

// same tells whether two have the same answers; nil and empty lists are the same.
func (a answers) same(b answers) bool {
	return a.place == b.place && slices.Equal(a.room, b.room) && slices.Equal(a.items, b.items) &&
		slices.Equal(a.versions, b.versions) && a.next == b.next && a.errs == b.errs
}

// told is what heap answers.
func told(l []api.Page, row uint32) answers {
	var a answers
	a.place, a.errs[0] = heap.Place(l)
	a.room, a.errs[1] = heap.Room(l)
	a.items, a.errs[2] = heap.Items(l)
	a.versions, a.errs[3] = heap.Versions(l, row)
	a.next, a.errs[4] = heap.Next(l)
	return a
}

// refused is the answers of calls that all have the same error.
func refused(err api.Errno) answers {
	return answers{errs: [5]api.Errno{err, err, err, err, err}}
}

// plainWrong is what is wrong with pages.
func plainWrong(l []api.Page) api.Errno {
	if len(l) > 32 {
		return api.ErrPage
	}
	for i, p := range l {
		if p.Number < 0 || p.Number > 31 || i > 0 && l[i-1].Number >= p.Number {
			return api.ErrPage
		}
		for _, b := range p.Slots {
			if len(b) > 52 {
				return api.ErrPage
			}
		}
	}
	for _, p := range l {
		for _, b := range p.Slots {
			if _, err := plainDecode(b); len(b) != 0 && err != api.OK {
				return api.ErrTuple
			}
		}
	}
	return api.OK
}

// plain is what the chapter's words say: of all slots, in a row, those that are free and those that are not.
func plain(l []api.Page, row uint32) answers {
	if err := plainWrong(l); err != api.OK {
		return refused(err)
	}
	var free []api.Spot
	var a answers
	var rows []uint32
	for _, p := range l {
		a.room = append(a.room, 0)
		for i, b := range p.Slots {
			at := api.Spot{Page: p.Number, Slot: i}
			if len(b) == 0 {
				free = append(free, at)
				a.room[len(a.room)-1]++
				continue
			}
			t, _ := plainDecode(b)
			a.items = append(a.items, api.Stored{Spot: at, Tuple: t})
			rows = append(rows, t.Row)
			if t.Row == row {
				a.versions = append(a.versions, api.Stored{Spot: at, Tuple: t})
			}
		}
	}
	if len(free) > 0 {
		a.place = free[0]
	} else {
		a.errs[0] = api.ErrFull
	}
	slices.Sort(rows)
	switch {
	case len(rows) == 0:
		a.next = 1
	case rows[len(rows)-1] == 4294967295:
		a.errs[4] = api.ErrFull
	default:
		a.next = rows[len(rows)-1] + 1
	}
	return a
}

// wantPlain wants of pages what the chapter's words say.
func wantPlain(t *testing.T, l []api.Page, row uint32) {
	t.Helper()
	if got, want := told(l, row), plain(l, row); !got.same(want) {
		t.Fatalf("of %v, row %d: %v; want %v", l, row, got, want)
	}
}

// wantRefused wants of pages that each call tells that error, and nothing else; the chapter's words must say so, too.
func wantRefused(t *testing.T, name string, l []api.Page, err api.Errno) {
	t.Helper()
	for _, row := range []uint32{0, 1, 5, topRow} {
		if got := told(l, row); !got.same(refused(err)) || !plain(l, row).same(got) {
			t.Errorf("%s, row %d: %v; want error %d each", name, row, got, err)
		}
	}
}

// of is a tuple of a row that may be; those of other rows are others in all fields.
func of(row uint32) api.Tuple {
	x := int64(row) * 3
	return api.Tuple{
		Row: row, Xmin: uint64(row%1000) + 1, Xmax: uint64(row % 7),
		Key: api.Key{X0: x - 9, X1: x, Y0: -x, Y1: x + 1}, Value: -5 * x,
	}
}

// some are tuples that may be, many at the edges.
func some() []api.Tuple {
	return []api.Tuple{
		{Row: 1, Xmin: 1},
		{Row: 1, Xmin: 2, Key: api.Key{X1: 1, Y0: -1}, Value: 3},
		{Row: topRow, Xmin: 1<<32 - 1, Xmax: 1<<32 - 1, Key: api.Key{X0: most, X1: most, Y0: most, Y1: most}, Value: most},
		{Row: 1 << 31, Xmin: 1 << 31, Xmax: 1 << 31, Key: api.Key{X0: least, X1: least, Y0: least, Y1: least}, Value: least},
		{Row: 0x01020304, Xmin: 0x05060708, Xmax: 0x090a0b0c,
			Key:   api.Key{X0: 0x1112131415161718, X1: 0x2122232425262728, Y0: 0x3132333435363738, Y1: 0x4142434445464748},
			Value: 0x5152535455565758},
		{Row: 256, Xmin: 1 << 16, Xmax: 1 << 24, Key: api.Key{X0: least, X1: most, Y0: least, Y1: most}, Value: -1},
		of(5), of(70000),
	}
}

// choices are tuples that put together edges of all fields: some that may be, most that may not.
func choices(yield func(api.Tuple) bool) {
	rows := []uint32{0, 1, 1 << 31, topRow}
	ids := []uint64{0, 1, 1 << 31, 1<<32 - 1, 1 << 32, 1<<32 + 1, 1 << 63, math.MaxUint64}
	sides := [][2]int64{{0, 0}, {0, 1}, {1, 0}, {-1, 0}, {0, -1}, {least, most}, {most, least}, {most, most}, {least, least}, {most, most - 1}, {least + 1, least}}
	for _, row := range rows {
		for i, xmin := range ids {
			for j, xmax := range ids {
				for k, x := range sides {
					for m, y := range sides {
						value := []int64{0, 1, -1, most, least, 1 << 32}[(i+j+k+m)%6]
						t := api.Tuple{Row: row, Xmin: xmin, Xmax: xmax, Key: api.Key{X0: x[0], X1: x[1], Y0: y[0], Y1: y[1]}, Value: value}
						if !yield(t) {
							return
						}
					}
				}
			}
		}
	}
}

// wrong are bytes that a slot may have, and that are no tuple's.
func wrong() [][]byte {
	l := [][]byte{{7}, {0}, laid(of(1))[:51], laid(of(1))[1:], make([]byte, 51), make([]byte, 52)}
	for _, t := range []api.Tuple{
		{Xmin: 1},
		{Row: 1},
		{Row: 1, Xmax: 1},
		{Row: 1, Xmin: 1, Key: api.Key{X0: 1}},
		{Row: 1, Xmin: 1, Key: api.Key{Y0: 1}},
		{Row: topRow, Xmin: 1, Key: api.Key{X0: most, X1: least}},
	} {
		l = append(l, laid(t))
	}
	return l
}

// picker tells numbers from 0 to n less one, one at a call; those of other seeds are others.
func picker(seed uint32) func(n int) int {
	return func(n int) int {
		seed = seed*1664525 + 1013904223
		return int(seed>>8) % n
	}
}

// pages is pages of these Numbers, all of whose slots are free.
func pages(numbers ...int) []api.Page {
	var l []api.Page
	for i, n := range numbers {
		l = append(l, api.Page{Number: n, Lsn: uint64(i) * 7})
	}
	return l
}

// allPages is all pages that there may be; in each slot that full says is a tuple, of a row of its own.
func allPages(full func(page, slot int) bool) []api.Page {
	var l []api.Page
	for n := range 32 {
		p := api.Page{Number: n}
		for i := range p.Slots {
			if full(n, i) {
				p.Slots[i] = laid(of(uint32(4*n + i + 1)))
			}
		}
		l = append(l, p)
	}
	return l
}

// copied is pages with lists of their own.
func copied(l []api.Page) []api.Page {
	l = slices.Clone(l)
	for i := range l {
		for j, b := range l[i].Slots {
			l[i].Slots[j] = slices.Clone(b)
		}
	}
	return l
}
