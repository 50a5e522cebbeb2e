package pool_test

import (
	"math"
	"slices"
	"testing"

	"gazetteer/api"
	"gazetteer/disk"
	"gazetteer/page"
	"gazetteer/pool"
)

// wantBroken wants a pool that answers ErrIo, ahead of all else, does nothing on its disk, and tells what it told.
func wantBroken(t *testing.T, d *disk.Disk, p *pool.Pool) {
	t.Helper()
	if !p.Broken() {
		t.Fatal("the pool is not broken")
	}
	frames, hand, ops := p.Frames(), p.Hand(), d.Ops()
	for _, n := range []int{-1, 0, 1, 2, 3, 9, 31, 32} {
		wantNoGet(t, p, n, 0, 0, api.ErrIo)
		wantNoGet(t, p, n, math.MaxUint64, 0, api.ErrIo)
		wantErr(t, "Set", p.Set(n, 0, nil, 1), api.ErrIo)
		wantErr(t, "Set", p.Set(n, 4, row(53, 1), 1), api.ErrIo)
		wantErr(t, "Unpin", p.Unpin(n), api.ErrIo)
	}
	wantFlush(t, p, 0, 0, api.ErrIo)
	wantFlush(t, p, math.MaxUint64, 0, api.ErrIo)
	if !p.Broken() || d.Ops() != ops {
		t.Fatal("a broken pool does something")
	}
	wantFrames(t, p, hand, frames...)
}

// cut is a way in which an operation is not done, and the error of that.
type cut struct {
	want api.Errno
	set  func(d *disk.Disk) api.Errno
}

// cuts tells the ways in which operation n of a call is not done that reads so often ahead of all that it writes: it fails; or, where it is no read, the power goes at it.
func cuts(n, reads int) []cut {
	list := []cut{{api.ErrIo, func(d *disk.Disk) api.Errno { return d.Fail(n) }}}
	if n >= reads {
		list = append(list, cut{api.ErrDead, func(d *disk.Disk) api.Errno { return d.Arm(n - reads) }})
	}
	return list
}

// P8.1: each operation of a Format fails, or loses the power: that error, and no pool.
func TestFormatFails(t *testing.T) {
	for n := range 134 {
		for _, c := range cuts(n, 0) {
			d, _ := bare(140)(t)
			ops := d.Ops()
			ok(t, c.set(d))
			wantNoPool(t, "Format", formats, d, 3, c.want)
			if d.Ops() != ops+n {
				t.Fatalf("%d operations; want %d", d.Ops()-ops, n)
			}
		}
	}
	d, _ := bare(140)(t)
	ok(t, d.Fail(134))
	ok(t, makes(pool.Format, 3)(d, nil))
}

// P8.1: each operation of an Open fails, or loses the power: that error, and no pool.
func TestOpenFails(t *testing.T) {
	x := pageOf(5, 6, 7)
	for n := range 10 {
		for _, c := range cuts(n, 5) {
			d, _ := marked(3, x)(t)
			ops := d.Ops()
			ok(t, c.set(d))
			wantNoPool(t, "Open", opens, d, 3, c.want)
			if d.Ops() != ops+n {
				t.Fatalf("%d operations; want %d", d.Ops()-ops, n)
			}
			ok(t, d.Crash(nil))
			wantGet(t, opened(t, d, 3), 0, x)
		}
	}
	d, _ := marked(3, x)(t)
	ok(t, d.Fail(10))
	ok(t, makes(pool.Open, 3)(d, nil))

	fresh, _ := formatted(t, 140, 3)
	ok(t, fresh.Fail(0))
	wantNoPool(t, "Open", opens, fresh, 3, api.ErrIo)
}

// P8.2: each operation fails that writes a page which gives way: that error, a broken pool; the frame is as it was, the marks that the hand passed are gone, the hand stays.
func TestGetFailsToWrite(t *testing.T) {
	for n := range 14 {
		for _, c := range cuts(n, 0) {
			d, p := dirtied(t)
			ok(t, c.set(d))
			wantNoGet(t, p, 9, 10, 0, c.want)
			wantFrames(t, p, 0,
				api.Frame{Number: 0, Dirty: true, Lsn: 10}, api.Frame{Number: 1, Dirty: true, Lsn: 11},
				api.Frame{Number: 2, Dirty: true, Lsn: 12}, api.Frame{Number: 3, Dirty: true, Lsn: 13})
			wantBroken(t, d, p)
		}
	}
}

// P8.2: only the marks of frames that the hand passed are gone, and the hand stays, where it was ahead of them.
func TestGetFailsToWriteBehindSomeMarks(t *testing.T) {
	d, p := dirtied(t)
	wantGet(t, p, 10, api.Page{Number: 9}) // the first frame; all other marks are gone
	ok(t, p.Unpin(9))
	ok(t, gets(1)(d, p)) // marked anew
	ok(t, p.Unpin(1))
	wantFrames(t, p, 1, used(9),
		api.Frame{Number: 1, Dirty: true, Used: true, Lsn: 11}, api.Frame{Number: 2, Dirty: true, Lsn: 12}, api.Frame{Number: 3, Dirty: true, Lsn: 13})
	ok(t, d.Fail(3))
	wantNoGet(t, p, 8, 12, 0, api.ErrIo)
	wantFrames(t, p, 1, used(9),
		api.Frame{Number: 1, Dirty: true, Lsn: 11}, api.Frame{Number: 2, Dirty: true, Lsn: 12}, api.Frame{Number: 3, Dirty: true, Lsn: 13})
	wantBroken(t, d, p)
}

// P8.2: each read of the page that comes fails: that error, a broken pool; the frame has no page then, and the hand is there; what gave way was written.
func TestGetFailsToRead(t *testing.T) {
	rest := []api.Frame{{Number: 1, Dirty: true, Lsn: 11}, {Number: 2, Dirty: true, Lsn: 12}, {Number: 3, Dirty: true, Lsn: 13}}
	for n := 14; n < 18; n++ {
		d, p := dirtied(t)
		ok(t, d.Fail(n))
		wantNoGet(t, p, 9, 10, 0, api.ErrIo)
		wantFrames(t, p, 0, append([]api.Frame{{Number: -1}}, rest...)...)
		wantBroken(t, d, p)
		wantGet(t, opened(t, d, 0), 0, pageOf(0, 10, 0))
	}
	d, p := dirtied(t)
	ok(t, d.Fail(18))
	wantGet(t, p, 10, api.Page{Number: 9})

	for n := range 4 {
		d, p := formatted(t, 133, 0)
		once(t, p, 1)
		once(t, p, 2)
		ok(t, d.Fail(n))
		wantNoGet(t, p, 3, 0, 0, api.ErrIo)
		wantFrames(t, p, 2, used(1), used(2))
		wantBroken(t, d, p)
	}
}

// P8.2: without power a Get of a page that no frame has answers ErrDead, and breaks the pool; one that waits, or finds all pinned, does not.
func TestGetWithoutPower(t *testing.T) {
	d, p := dirtied(t)
	ok(t, d.Arm(0))
	wantErr(t, "Sync", d.Sync(), api.ErrDead)
	wantNoGet(t, p, 9, 9, 10, api.ErrWait)
	wantNoGet(t, p, 32, 9, 0, api.ErrArg)
	wantFlush(t, p, 12, 13, api.ErrWait)
	for n := range 4 {
		wantGet(t, p, 0, pageOf(n, uint64(10+n), n))
	}
	wantNoGet(t, p, 9, 10, 0, api.ErrPinned)
	if p.Broken() {
		t.Fatal("broken, though nothing was asked of the disk")
	}
	ok(t, p.Unpin(2))
	wantNoGet(t, p, 9, 12, 0, api.ErrDead)
	wantBroken(t, d, p)
}

// P8.2: a clean page that gives way is gone, if the page that comes cannot be read for want of power.
func TestGetOfAPageWithoutPower(t *testing.T) {
	d, p := formatted(t, 133, 0)
	for n := range 5 {
		once(t, p, n)
	}
	ok(t, d.Arm(0))
	wantErr(t, "Sync", d.Sync(), api.ErrDead)
	wantNoGet(t, p, 9, 0, 0, api.ErrDead)
	wantFrames(t, p, 1, used(4), api.Frame{Number: -1}, unused(2), unused(3))
	wantBroken(t, d, p)
}

// P8.4: each operation of a Flush fails, or loses the power: that error, a broken pool; the pages ahead of that one are dirty no more, the others still are.
func TestFlushFails(t *testing.T) {
	numbers := []int{0, 1, 2, 3}
	for n := range 4 * 14 {
		for _, c := range cuts(n, 0) {
			d, p := dirtied(t)
			ok(t, c.set(d))
			wantFlush(t, p, 13, 0, c.want)
			var want []api.Frame
			for _, i := range numbers {
				want = append(want, api.Frame{Number: i, Dirty: i >= n/14, Used: true, Lsn: uint64(10 + i)})
			}
			wantFrames(t, p, 0, want...)
			wantBroken(t, d, p)
		}
	}
	d, p := dirtied(t)
	ok(t, d.Fail(4*14))
	wantFlush(t, p, 13, 0, api.OK)
}

// P8.5: a pool that has a page that is none, or that refused something, is not broken; a crash does not mend one that is.
func TestBrokenStays(t *testing.T) {
	d, p := dirtied(t)
	ok(t, d.Fail(0))
	wantFlush(t, p, 13, 0, api.ErrIo)
	ok(t, d.Crash(nil))
	wantBroken(t, d, p)
	wantNew(t, opened(t, d, 0))
	wantBroken(t, d, p)
}

// P8.6: a Flush fails at each operation, and the power stays: an Open finds the page whole, as it was or as it was to be, and goes on.
func TestOpenBehindAFailure(t *testing.T) {
	old, young := pageOf(6, 3, 1), pageOf(6, 4, 2)
	for n := range 14 {
		d, p := with(3, 0, old)(t)
		wantFlush(t, p, 3, 0, api.OK)
		fill(t, p, young)
		ok(t, d.Fail(n))
		wantFlush(t, p, 4, 0, api.ErrIo)
		p = opened(t, d, 3)
		got, _, e := p.Get(6, 0)
		ok(t, e)
		if !page.Same(got, old) && !page.Same(got, young) {
			t.Fatalf("operation %d fails: %v", n, got)
		}
		fill(t, p, young)
		wantFlush(t, p, 4, 0, api.OK)
		ok(t, d.Crash(nil))
		wantGet(t, opened(t, d, 3), 0, young)
		if slices.ContainsFunc(sectorsOf(t, d)[:3], func(b api.Block) bool { return b != api.Block{} }) {
			t.Fatal("something was written ahead of the region")
		}
	}
}
