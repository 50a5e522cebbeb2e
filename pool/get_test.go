package pool_test

import (
	"math"
	"slices"
	"testing"

	"gazetteer/api"
	"gazetteer/disk"
	"gazetteer/pool"
)

// used is a frame whose page nobody has, but that was used since the hand came by.
func used(number int) api.Frame {
	return api.Frame{Number: number, Used: true}
}

// unused is a frame whose page nobody has, and whose mark the hand took.
func unused(number int) api.Frame {
	return api.Frame{Number: number}
}

// once gets a page, and lets it go.
func once(t *testing.T, p *pool.Pool, number int) {
	t.Helper()
	if _, _, e := p.Get(number, 0); e != api.OK {
		t.Fatalf("Get(%d): error %d", number, e)
	}
	ok(t, p.Unpin(number))
}

// P8.2, P8.3: a number that is none: ErrArg.
func TestNumberOfNoPage(t *testing.T) {
	d, p := formatted(t, 133, 0)
	ops := d.Ops()
	for _, n := range []int{-1, 32, 33, -32, math.MinInt, math.MaxInt} {
		wantNoGet(t, p, n, math.MaxUint64, 0, api.ErrArg)
		wantErr(t, "Set", p.Set(n, 0, nil, 1), api.ErrArg)
		wantErr(t, "Unpin", p.Unpin(n), api.ErrArg)
	}
	wantNew(t, p)
	if d.Ops() != ops {
		t.Error("something was done on the disk")
	}
	for _, n := range []int{0, 31} {
		wantGet(t, p, 0, api.Page{Number: n})
	}
}

// P8.2: a page that a frame has is pinned once more, and was used, without the disk; the hand stays.
func TestGetOfAPageThatIsThere(t *testing.T) {
	d, p := formatted(t, 133, 0)
	once(t, p, 1)
	wantFrames(t, p, 1, used(1))
	ops := d.Ops()
	for n := range 5 {
		wantGet(t, p, 0, api.Page{Number: 1})
		wantFrames(t, p, 1, api.Frame{Number: 1, Pins: n + 1, Used: true})
	}
	for n := range 5 {
		ok(t, p.Unpin(1))
		wantFrames(t, p, 1, api.Frame{Number: 1, Pins: 4 - n, Used: true})
	}
	wantErr(t, "Unpin", p.Unpin(1), api.ErrNone)
	if d.Ops() != ops {
		t.Error("something was done on the disk")
	}

	// its mark comes again
	for n := 2; n < 6; n++ {
		once(t, p, n)
	}
	wantFrames(t, p, 1, used(5), unused(2), unused(3), unused(4))
	once(t, p, 3)
	wantFrames(t, p, 1, used(5), unused(2), used(3), unused(4))
	once(t, p, 6)
	wantFrames(t, p, 2, used(5), used(6), used(3), unused(4))
	once(t, p, 7)
	wantFrames(t, p, 0, used(5), used(6), unused(3), used(7))
}

// P8.2: a page that is dirty, and whose record does not last, is got where it is.
func TestGetOfADirtyPageThatIsThere(t *testing.T) {
	d, p := formatted(t, 133, 0)
	x := pageOf(4, math.MaxUint64, 2)
	wantGet(t, p, 0, api.Page{Number: 4})
	fill(t, p, x)
	ok(t, d.Arm(0))
	wantErr(t, "Sync", d.Sync(), api.ErrDead)
	wantGet(t, p, 0, x)
	wantFrames(t, p, 1, api.Frame{Number: 4, Pins: 2, Dirty: true, Used: true, Lsn: math.MaxUint64})
}

// P8.2: frames without a page come first, from the hand on; then those that are not pinned, once their marks are gone.
func TestTheHandGoesRound(t *testing.T) {
	_, p := formatted(t, 133, 0)
	for n := range 4 {
		wantFrames(t, p, n, []api.Frame{used(0), used(1), used(2), used(3)}[:n]...)
		once(t, p, n)
	}
	wantFrames(t, p, 0, used(0), used(1), used(2), used(3))
	once(t, p, 4) // all marks go, and the first frame
	wantFrames(t, p, 1, used(4), unused(1), unused(2), unused(3))
	once(t, p, 5)
	once(t, p, 6)
	once(t, p, 7)
	wantFrames(t, p, 0, used(4), used(5), used(6), used(7))
	once(t, p, 5) // is there
	wantFrames(t, p, 0, used(4), used(5), used(6), used(7))
	wantGet(t, p, 0, api.Page{Number: 4})
	once(t, p, 8) // past the first frame, which is pinned
	wantFrames(t, p, 2, api.Frame{Number: 4, Pins: 1, Used: true}, used(8), unused(6), unused(7))
}

// P8.2: pinned frames are passed, and keep their marks; if all are, ErrPinned, and nothing has changed.
func TestPinnedFramesStay(t *testing.T) {
	d, p := formatted(t, 133, 0)
	for n := range 4 {
		wantGet(t, p, 0, api.Page{Number: n})
	}
	ops := d.Ops()
	wantNoGet(t, p, 9, math.MaxUint64, 0, api.ErrPinned)
	wantFrames(t, p, 0, holding(0, 0), holding(1, 0), holding(2, 0), holding(3, 0))
	if d.Ops() != ops {
		t.Error("something was done on the disk")
	}
	ok(t, p.Unpin(3))
	wantGet(t, p, 0, api.Page{Number: 9})
	wantFrames(t, p, 0, holding(0, 0), holding(1, 0), holding(2, 0), holding(9, 0))
	ok(t, p.Unpin(1))
	wantGet(t, p, 0, api.Page{Number: 3})
	wantFrames(t, p, 2, holding(0, 0), holding(3, 0), holding(2, 0), holding(9, 0))
	wantGet(t, p, 0, api.Page{Number: 3})
	ok(t, p.Unpin(3))
	wantNoGet(t, p, 1, 0, 0, api.ErrPinned)
	ok(t, p.Unpin(3))
	wantGet(t, p, 0, api.Page{Number: 1})
}

// dirtied is a pool of which all four frames have dirty pages that nobody has, with the Lsns 10 to 13, all used.
func dirtied(t *testing.T) (*disk.Disk, *pool.Pool) {
	d, p := formatted(t, 133, 0)
	for n := range 4 {
		wantGet(t, p, 0, api.Page{Number: n})
		fill(t, p, pageOf(n, uint64(10+n), n))
		ok(t, p.Unpin(n))
	}
	return d, p
}

// P8.2: ErrWait with the Lsn of the page that would give way, if its record does not last; no mark is gone then, and the disk is as it was.
func TestGetWaits(t *testing.T) {
	d, p := dirtied(t)
	was, ops := sectorsOf(t, d), d.Ops()
	all := p.Frames()
	for _, durable := range []uint64{0, 9, 8} {
		wantNoGet(t, p, 9, durable, 10, api.ErrWait)
		wantFrames(t, p, 0, all...)
	}
	if d.Ops() != ops || !slices.Equal(sectorsOf(t, d), was) {
		t.Error("something was done on the disk")
	}
	wantGet(t, p, 10, api.Page{Number: 9})
	wantFrames(t, p, 1, holding(9, 0),
		api.Frame{Number: 1, Dirty: true, Lsn: 11}, api.Frame{Number: 2, Dirty: true, Lsn: 12}, api.Frame{Number: 3, Dirty: true, Lsn: 13})
	wantNoGet(t, p, 8, 10, 11, api.ErrWait)

	// the next one that gives way is asked, not one that lasts
	ok(t, p.Unpin(9))
	wantNoGet(t, p, 8, 10, 11, api.ErrWait)
	wantGet(t, p, 11, api.Page{Number: 8})
	wantGet(t, p, 12, api.Page{Number: 7})
	wantGet(t, p, math.MaxUint64, api.Page{Number: 6})
}

// P8.2: a page that is not dirty gives way, whatever its Lsn, and is not written.
func TestGetDoesNotWaitForACleanPage(t *testing.T) {
	d, p := dirtied(t)
	wantFlush(t, p, 13, 0, api.OK)
	ops := d.Ops()
	for n := range 4 {
		wantGet(t, p, 0, api.Page{Number: 10 + n})
		ok(t, p.Unpin(10+n))
	}
	if d.Ops() != ops+4*4 {
		t.Errorf("%d operations; want four reads each", d.Ops()-ops)
	}
	for n := range 4 {
		wantGet(t, p, 0, pageOf(n, uint64(10+n), n))
	}
}

// P8.2: where no page stands: ErrPage; the frame has none then, the hand is there, the marks on the way are gone; the pool goes on.
func TestGetOfWhatIsNoPage(t *testing.T) {
	for _, number := range []int{0, 5, 31} {
		other := sectorsFor(t, pageOf((number+1)%32, 3, 1))
		turned := sectorsFor(t, pageOf(number, 3, 1))
		turned[2][7] ^= 4
		for _, wrong := range [][]api.Block{other, turned} {
			d, p := dirtied(t)
			wantFlush(t, p, 13, 0, api.OK)
			for n := range 4 {
				once(t, p, 20+n)
			}
			once(t, p, 24)
			wantFrames(t, p, 1, used(24), unused(21), unused(22), unused(23))
			once(t, p, 21)
			lay(t, d, 5+4*number, wrong...)
			wantNoGet(t, p, number, 0, 0, api.ErrPage)
			wantFrames(t, p, 2, used(24), unused(21), api.Frame{Number: -1}, unused(23))
			if p.Broken() {
				t.Fatal("a page that is none breaks the pool")
			}
			wantNoGet(t, p, number, 0, 0, api.ErrPage)
			wantFrames(t, p, 2, used(24), unused(21), api.Frame{Number: -1}, unused(23))
			wantGet(t, p, 0, api.Page{Number: 9})
			wantFrames(t, p, 3, used(24), unused(21), holding(9, 0), unused(23))
		}
	}
}

// P8.2: a dirty page that gives way is written, though what comes in its place is none.
func TestGetOfWhatIsNoPageWritesWhatGivesWay(t *testing.T) {
	d, p := dirtied(t)
	lay(t, d, 5+4*9, api.Block{1})
	wantNoGet(t, p, 9, 10, 0, api.ErrPage)
	wantFrames(t, p, 0, api.Frame{Number: -1},
		api.Frame{Number: 1, Dirty: true, Lsn: 11}, api.Frame{Number: 2, Dirty: true, Lsn: 12}, api.Frame{Number: 3, Dirty: true, Lsn: 13})
	wantGet(t, p, 0, pageOf(0, 10, 0))
	wantFrames(t, p, 1, holding(0, 10),
		api.Frame{Number: 1, Dirty: true, Lsn: 11}, api.Frame{Number: 2, Dirty: true, Lsn: 12}, api.Frame{Number: 3, Dirty: true, Lsn: 13})
}

// P8.3: of a page that no frame has, or that nobody has got: ErrNone, ahead of what is wrong with the slot and its bytes.
func TestSetAndUnpinOfAPageThatIsNotPinned(t *testing.T) {
	_, p := formatted(t, 133, 0)
	once(t, p, 1)
	for _, n := range []int{0, 1, 2, 31} {
		wantErr(t, "Set", p.Set(n, 0, row(1, 1), 1), api.ErrNone)
		wantErr(t, "Set", p.Set(n, 4, row(53, 1), 1), api.ErrNone)
		wantErr(t, "Unpin", p.Unpin(n), api.ErrNone)
	}
	wantFrames(t, p, 1, used(1))
}

// P8.3: Set takes what page.Set takes; what it refuses changes nothing.
func TestSet(t *testing.T) {
	_, p := formatted(t, 133, 0)
	wantGet(t, p, 0, api.Page{Number: 2})
	for _, slot := range []int{-1, 4, math.MinInt, math.MaxInt} {
		wantErr(t, "Set", p.Set(2, slot, nil, 9), api.ErrArg)
		wantErr(t, "Set", p.Set(2, slot, row(53, 0), 9), api.ErrArg)
	}
	wantErr(t, "Set", p.Set(2, 0, row(53, 0), 9), api.ErrLong)
	wantFrames(t, p, 1, holding(2, 0))
	want := api.Page{Number: 2}
	for i, n := range []int{52, 0, 1, 51} {
		want.Slots[i], want.Lsn = row(n, i), uint64(90-i)
		ok(t, p.Set(2, i, row(n, i), uint64(90-i)))
		wantFrames(t, p, 1, api.Frame{Number: 2, Pins: 1 + i, Dirty: true, Used: true, Lsn: uint64(90 - i)})
		wantGet(t, p, 0, want)
	}
	want.Slots[0], want.Lsn = nil, 0
	ok(t, p.Set(2, 0, nil, 0))
	wantGet(t, p, 0, want)
}

// P8.3: a Set of just what is there makes a page dirty, too.
func TestSetOfTheSame(t *testing.T) {
	_, p := formatted(t, 133, 0)
	wantGet(t, p, 0, api.Page{Number: 2})
	ok(t, p.Set(2, 1, nil, 0))
	wantFrames(t, p, 1, api.Frame{Number: 2, Pins: 1, Dirty: true, Used: true})
}

// P8.4: a Flush writes dirty pages, pinned or not, by rising numbers, and no others; they are dirty no more.
func TestFlush(t *testing.T) {
	d, p := formatted(t, 133, 0)
	for _, n := range []int{31, 7, 0, 16} {
		wantGet(t, p, 0, api.Page{Number: n})
	}
	fill(t, p, pageOf(31, 5, 1))
	fill(t, p, pageOf(0, 3, 2))
	fill(t, p, pageOf(7, 4, 3))
	ok(t, p.Unpin(7))
	ops := d.Ops()
	wantFlush(t, p, 5, 0, api.OK)
	if d.Ops() != ops+3*14 {
		t.Errorf("%d operations; want %d", d.Ops()-ops, 3*14)
	}
	wantFrames(t, p, 0, holding(31, 5), api.Frame{Number: 7, Used: true, Lsn: 4}, holding(0, 3), holding(16, 0))
	l := sectorsOf(t, d)
	if l[0] != plainMark(31) || !slices.Equal(l[1:5], sectorsFor(t, pageOf(31, 5, 1))) {
		t.Error("the page with the greatest number was not written last")
	}
	ops = d.Ops()
	wantFlush(t, p, 0, 0, api.OK)
	if d.Ops() != ops {
		t.Error("a Flush of nothing does something")
	}
	p = opened(t, d, 0)
	for _, x := range []api.Page{pageOf(31, 5, 1), pageOf(7, 4, 3), pageOf(0, 3, 2), {Number: 16}} {
		wantGet(t, p, 0, x)
	}
}

// P8.4: ErrWait with the greatest Lsn, if any dirty page's record does not last; nothing is written then. A page that is not dirty counts for nothing.
func TestFlushWaits(t *testing.T) {
	d, p := dirtied(t)
	was, ops := sectorsOf(t, d), d.Ops()
	all := p.Frames()
	for _, durable := range []uint64{0, 9, 10, 11, 12} {
		wantFlush(t, p, durable, 13, api.ErrWait)
		wantFrames(t, p, 0, all...)
	}
	if d.Ops() != ops || !slices.Equal(sectorsOf(t, d), was) {
		t.Error("something was written")
	}
	wantFlush(t, p, 13, 0, api.OK)
	wantFlush(t, p, 0, 0, api.OK)
	wantGet(t, p, 0, pageOf(1, 11, 1))
	ok(t, p.Set(1, 0, nil, 12))
	wantFlush(t, p, 11, 12, api.ErrWait)
	ok(t, p.Set(1, 0, nil, math.MaxUint64))
	wantFlush(t, p, math.MaxUint64-1, math.MaxUint64, api.ErrWait)
	wantFlush(t, p, math.MaxUint64, 0, api.OK)
}

// P8.4: with Lsn 0 a dirty page waits for nothing.
func TestFlushOfLsnNought(t *testing.T) {
	d, p := formatted(t, 133, 0)
	wantGet(t, p, 0, api.Page{Number: 2})
	ok(t, p.Set(2, 1, []byte{1}, 0))
	wantFlush(t, p, 0, 0, api.OK)
	wantGet(t, opened(t, d, 0), 0, api.Page{Number: 2, Slots: [4][]byte{1: {1}}})
}
