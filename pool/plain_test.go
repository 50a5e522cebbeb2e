package pool_test

import (
	"slices"
	"testing"

	"gazetteer/api"
	"gazetteer/disk"
	"gazetteer/page"
	"gazetteer/pool"
)

// plainMark is the mark as it is set for a page.
func plainMark(number int) api.Block {
	b := api.Block{'p', 'o', 'o', 'l'}
	b[5] = byte(number)
	return b
}

// plainFrame is a frame as the chapter's words have it.
type plainFrame struct {
	has         bool
	page        api.Page
	pins        int
	dirty, used bool
}

// plain is a pool as the chapter's words have it, on a disk of its own.
type plain struct {
	d      *disk.Disk
	base   int
	frames [4]plainFrame
	hand   int
	broken bool
}

// do does operations on the disk, one by one, up to the first error.
func (x *plain) do(operations ...func() api.Errno) api.Errno {
	for _, operation := range operations {
		if e := operation(); e != api.OK {
			x.broken = true
			return e
		}
	}
	return api.OK
}

// put is the operations that write sectors from a place of the region on, and sync.
func (x *plain) put(place int, l ...api.Block) []func() api.Errno {
	var list []func() api.Errno
	for i, b := range l {
		list = append(list, func() api.Errno { return x.d.Write(x.base+place+i, b) })
	}
	return append(list, x.d.Sync)
}

// writes is the operations that write a page.
func (x *plain) writes(p api.Page) []func() api.Errno {
	l, _ := page.Sectors(p)
	return slices.Concat(
		x.put(0, api.Block{}),
		x.put(1, l...),
		x.put(0, plainMark(p.Number)),
		x.put(5+4*p.Number, l...),
	)
}

// take reads n sectors from a place of the region on.
func (x *plain) take(place, n int) ([]api.Block, api.Errno) {
	l := make([]api.Block, n)
	var list []func() api.Errno
	for i := range l {
		list = append(list, func() (e api.Errno) {
			l[i], e = x.d.Read(x.base + place + i)
			return e
		})
	}
	return l, x.do(list...)
}

func (x *plain) open() api.Errno {
	l, e := x.take(0, 1)
	if e != api.OK {
		return e
	}
	for number := range 32 {
		if l[0] != plainMark(number) {
			continue
		}
		if l, e = x.take(1, 4); e != api.OK {
			return e
		}
		if _, e := page.Of(number, l); e != api.OK {
			return api.ErrPage
		}
		return x.do(x.put(5+4*number, l...)...)
	}
	return api.OK
}

// find is the frame that has a page.
func (x *plain) find(number int) int {
	return slices.IndexFunc(x.frames[:], func(f plainFrame) bool { return f.has && f.page.Number == number })
}

// search is the frame that gives way, and those whose marks are taken on the way.
func (x *plain) search() (int, []int) {
	if !slices.ContainsFunc(x.frames[:], func(f plainFrame) bool { return !f.has || f.pins == 0 }) {
		return -1, nil
	}
	var unmarked []int
	for at := x.hand; ; at = (at + 1) % 4 {
		f := x.frames[at]
		if !f.has || f.pins == 0 && (!f.used || slices.Contains(unmarked, at)) {
			return at, unmarked
		}
		if f.pins == 0 {
			unmarked = append(unmarked, at)
		}
	}
}

func (x *plain) get(number int, durable uint64) (api.Page, uint64, api.Errno) {
	none := api.Page{}
	if x.broken {
		return none, 0, api.ErrIo
	}
	if number < 0 || number > 31 {
		return none, 0, api.ErrArg
	}
	if i := x.find(number); i >= 0 {
		x.frames[i].pins++
		x.frames[i].used = true
		return x.frames[i].page, 0, api.OK
	}
	at, unmarked := x.search()
	if at < 0 {
		return none, 0, api.ErrPinned
	}
	f := &x.frames[at]
	if f.has && f.dirty && f.page.Lsn > durable {
		return none, f.page.Lsn, api.ErrWait
	}
	for _, i := range unmarked {
		x.frames[i].used = false
	}
	if f.has && f.dirty {
		if e := x.do(x.writes(f.page)...); e != api.OK {
			return none, 0, e
		}
	}
	*f = plainFrame{}
	x.hand = at
	l, e := x.take(5+4*number, 4)
	if e != api.OK {
		return none, 0, e
	}
	p, e := page.Of(number, l)
	if e != api.OK {
		return none, 0, api.ErrPage
	}
	*f = plainFrame{has: true, page: p, pins: 1, used: true}
	x.hand = (at + 1) % 4
	return p, 0, api.OK
}

// held is the frame of a page that is pinned, or why there is none.
func (x *plain) held(number int) (*plainFrame, api.Errno) {
	if x.broken {
		return nil, api.ErrIo
	}
	if number < 0 || number > 31 {
		return nil, api.ErrArg
	}
	i := x.find(number)
	if i < 0 || x.frames[i].pins == 0 {
		return nil, api.ErrNone
	}
	return &x.frames[i], api.OK
}

func (x *plain) set(number, slot int, b []byte, lsn uint64) api.Errno {
	f, e := x.held(number)
	switch {
	case e != api.OK:
		return e
	case slot < 0 || slot > 3:
		return api.ErrArg
	case len(b) > 52:
		return api.ErrLong
	}
	f.page.Slots[slot], f.page.Lsn = slices.Clone(b), lsn
	f.dirty = true
	return api.OK
}

func (x *plain) unpin(number int) api.Errno {
	f, e := x.held(number)
	if e == api.OK {
		f.pins--
	}
	return e
}

func (x *plain) flush(durable uint64) (uint64, api.Errno) {
	if x.broken {
		return 0, api.ErrIo
	}
	var dirty []*plainFrame
	var wait []uint64
	for i := range x.frames {
		f := &x.frames[i]
		if f.has && f.dirty {
			dirty = append(dirty, f)
			if f.page.Lsn > durable {
				wait = append(wait, f.page.Lsn)
			}
		}
	}
	if len(wait) > 0 {
		return slices.Max(wait), api.ErrWait
	}
	slices.SortFunc(dirty, func(a, b *plainFrame) int { return a.page.Number - b.page.Number })
	for _, f := range dirty {
		if e := x.do(x.writes(f.page)...); e != api.OK {
			return 0, e
		}
		f.dirty = false
	}
	return 0, api.OK
}

func (x *plain) told() []api.Frame {
	list := make([]api.Frame, 4)
	for i, f := range x.frames {
		list[i] = api.Frame{Number: -1}
		if f.has {
			list[i] = api.Frame{Number: f.page.Number, Pins: f.pins, Dirty: f.dirty, Used: f.used, Lsn: f.page.Lsn}
		}
	}
	return list
}

// twin is a pool, and the words on a disk of their own, which is as the pool's.
type twin struct {
	t *testing.T
	d *disk.Disk
	p *pool.Pool
	x *plain
}

// twinOn opens a pool on a disk, and the words on a copy of it.
func twinOn(t *testing.T, d *disk.Disk, base int) *twin {
	t.Helper()
	w := &twin{t: t, d: d, x: &plain{d: d.Copy(), base: base}}
	if !w.open() {
		t.Fatal("the pool does not open")
	}
	return w
}

// open opens both anew, and tells whether they are.
func (w *twin) open() bool {
	w.t.Helper()
	w.x = &plain{d: w.x.d, base: w.x.base}
	want := w.x.open()
	p, e := pool.Open(w.d, w.x.base)
	w.sameDisk("Open")
	if e != want || (p == nil) != (e != api.OK) {
		w.t.Fatalf("Open: %v, error %d; want error %d", p, e, want)
	}
	w.p = p
	if e == api.OK {
		w.same("Open")
	}
	return e == api.OK
}

func (w *twin) get(number int, durable uint64) api.Errno {
	w.t.Helper()
	p, lsn, e := w.p.Get(number, durable)
	wantP, wantLsn, want := w.x.get(number, durable)
	if e != want || lsn != wantLsn || !page.Same(p, wantP) {
		w.t.Fatalf("Get(%d, %d): %v, %d, error %d; want %v, %d, error %d", number, durable, p, lsn, e, wantP, wantLsn, want)
	}
	w.same("Get")
	return e
}

func (w *twin) set(number, slot int, b []byte, lsn uint64) api.Errno {
	w.t.Helper()
	e, want := w.p.Set(number, slot, b, lsn), w.x.set(number, slot, b, lsn)
	if e != want {
		w.t.Fatalf("Set(%d, %d, %d bytes, %d): error %d; want %d", number, slot, len(b), lsn, e, want)
	}
	w.same("Set")
	return e
}

func (w *twin) unpin(number int) api.Errno {
	w.t.Helper()
	e, want := w.p.Unpin(number), w.x.unpin(number)
	if e != want {
		w.t.Fatalf("Unpin(%d): error %d; want %d", number, e, want)
	}
	w.same("Unpin")
	return e
}

func (w *twin) flush(durable uint64) api.Errno {
	w.t.Helper()
	lsn, e := w.p.Flush(durable)
	wantLsn, want := w.x.flush(durable)
	if e != want || lsn != wantLsn {
		w.t.Fatalf("Flush(%d): %d, error %d; want %d, error %d", durable, lsn, e, wantLsn, want)
	}
	w.same("Flush")
	return e
}

// onDisks does the same to both disks.
func (w *twin) onDisks(do func(d *disk.Disk)) {
	do(w.d)
	do(w.x.d)
}

// same holds all that the pool tells against the words, and its disk against theirs.
func (w *twin) same(what string) {
	w.t.Helper()
	if got, want := w.p.Frames(), w.x.told(); !slices.Equal(got, want) {
		w.t.Fatalf("%s: frames %v; want %v", what, got, want)
	}
	if w.p.Hand() != w.x.hand || w.p.Broken() != w.x.broken {
		w.t.Fatalf("%s: hand %d, broken %v; want %d, %v", what, w.p.Hand(), w.p.Broken(), w.x.hand, w.x.broken)
	}
	w.sameDisk(what)
}

// sameDisk holds the disks against each other, with how many operations were done on them.
func (w *twin) sameDisk(what string) {
	w.t.Helper()
	if w.d.Ops() != w.x.d.Ops() || w.d.Dead() != w.x.d.Dead() || !slices.Equal(w.d.Pending(), w.x.d.Pending()) {
		w.t.Fatalf("%s: %d operations, dead %v, pending %v; want %d, %v, %v", what,
			w.d.Ops(), w.d.Dead(), w.d.Pending(), w.x.d.Ops(), w.x.d.Dead(), w.x.d.Pending())
	}
	if !slices.Equal(sectorsOf(w.t, w.d), sectorsOf(w.t, w.x.d)) {
		w.t.Fatalf("%s: the disk holds something else", what)
	}
}
