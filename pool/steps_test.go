package pool_test

import (
	"slices"
	"testing"

	"gazetteer/api"
	"gazetteer/disk"
	"gazetteer/pool"
)

// scene makes a disk, and a pool on it where one is there; each time the same.
type scene func(t *testing.T) (*disk.Disk, *pool.Pool)

// call is what is done in a scene.
type call func(d *disk.Disk, p *pool.Pool) api.Errno

func flushes(_ *disk.Disk, p *pool.Pool) api.Errno {
	_, e := p.Flush(1 << 63)
	return e
}

func gets(number int) call {
	return func(_ *disk.Disk, p *pool.Pool) api.Errno {
		_, _, e := p.Get(number, 1<<63)
		return e
	}
}

func makes(m maker, base int) call {
	return func(d *disk.Disk, _ *pool.Pool) api.Errno {
		_, e := m(d, base)
		return e
	}
}

// step is a write of a sector; or a sync, if the sector is below 0.
type step struct {
	sector int
	holds  api.Block
}

var synced = step{sector: -1}

// writes are the steps that write sectors, one behind the other from one on, and sync.
func writes(from int, sectors ...api.Block) []step {
	var list []step
	for i, b := range sectors {
		list = append(list, step{from + i, b})
	}
	return append(list, synced)
}

// pageWrites are the steps that write a page.
func pageWrites(t *testing.T, base int, x api.Page) []step {
	l := sectorsFor(t, x)
	return slices.Concat(
		writes(base, api.Block{}),
		writes(base+1, l...),
		writes(base, plainMark(x.Number)),
		writes(base+5+4*x.Number, l...),
	)
}

// steps tells what a call writes and syncs, in order, if it does anything: the power goes behind one step, behind two, and so on; what is pending then tells what was done last.
func steps(t *testing.T, s scene, c call) []step {
	t.Helper()
	d, _ := s(t)
	was := d.Pending()
	var list []step
	for n := 1; ; n++ {
		d, p := s(t)
		ok(t, d.Arm(n))
		e := c(d, p)
		is := d.Pending()
		switch {
		case len(is) == len(was)+1 && slices.Equal(is[:len(was)], was):
			last := is[len(was)]
			list = append(list, step{last, sectorsOf(t, d)[last]})
		case len(is) == 0:
			list = append(list, synced)
		default:
			t.Fatalf("pending %v, then %v", was, is)
		}
		was = is
		if !d.Dead() {
			ok(t, e)
			return list
		}
		wantErr(t, "without power", e, api.ErrDead)
	}
}

// wantSteps holds what a call writes and syncs against what it must, and how many operations it does in all, with so many reads.
func wantSteps(t *testing.T, s scene, c call, reads int, want ...step) {
	t.Helper()
	if len(want) > 0 {
		if got := steps(t, s, c); !slices.Equal(got, want) {
			t.Errorf("steps %v; want %v", sectorsIn(got), sectorsIn(want))
		}
	}
	d, p := s(t)
	was := d.Ops()
	ok(t, c(d, p))
	if got := d.Ops() - was; got != reads+len(want) {
		t.Errorf("%d operations; want %d", got, reads+len(want))
	}
}

// sectorsIn tells the sectors of steps, which are easier to read than what they hold.
func sectorsIn(list []step) []int {
	var sectors []int
	for _, s := range list {
		sectors = append(sectors, s.sector)
	}
	return sectors
}

// bare is a disk of so many sectors, none of which holds only noughts, with all of it pending.
func bare(sectors int) scene {
	return func(t *testing.T) (*disk.Disk, *pool.Pool) {
		d := newDisk(t, sectors)
		for i := range sectors {
			ok(t, d.Write(i, api.Block(row(64, i+1))))
		}
		return d, nil
	}
}

// with is a pool whose frames have these pages, as they are here and not on the disk, so that the last one was set last; then the frames of the first ones are let go.
func with(base int, let int, list ...api.Page) scene {
	return func(t *testing.T) (*disk.Disk, *pool.Pool) {
		d, p := formatted(t, base+140, base)
		for _, x := range list {
			wantGet(t, p, 0, api.Page{Number: x.Number})
			fill(t, p, x)
		}
		for _, x := range list[:let] {
			ok(t, p.Unpin(x.Number))
		}
		return d, p
	}
}

// marked is a disk on which the mark is set for a page that stands in the spare place, and not in its own.
func marked(base int, x api.Page) scene {
	return func(t *testing.T) (*disk.Disk, *pool.Pool) {
		d := newDisk(t, base+140)
		lay(t, d, base, plainMark(x.Number))
		lay(t, d, base+1, sectorsFor(t, x)...)
		return d, nil
	}
}

// P8.1: a Format writes noughts to all sectors of the region, in order, and syncs; the disk's other sectors stay.
func TestFormatSteps(t *testing.T) {
	for _, base := range []int{0, 4} {
		wantSteps(t, bare(140), makes(pool.Format, base), 0, writes(base, make([]api.Block, 133)...)...)
		d, _ := bare(140)(t)
		ok(t, makes(pool.Format, base)(d, nil))
		for i, b := range sectorsOf(t, d) {
			inside := i >= base && i < base+133
			if !inside && b != api.Block(row(64, i+1)) {
				t.Errorf("Format changed sector %d, which is not the region's", i)
			}
		}
	}
}

// P8.1: an Open reads the mark; where that is set it reads the spare place, writes the page's own one, and syncs.
func TestOpenSteps(t *testing.T) {
	fresh := func(t *testing.T) (*disk.Disk, *pool.Pool) { return formatted(t, 140, 4) }
	wantSteps(t, fresh, makes(pool.Open, 4), 1)
	for _, base := range []int{0, 4} {
		for _, number := range []int{0, 1, 17, 31} {
			x := pageOf(number, 9, number)
			wantSteps(t, marked(base, x), makes(pool.Open, base), 1+4, writes(base+5+4*number, sectorsFor(t, x)...)...)
		}
	}
}

// P8.1: what is pending, and not the region's to mend, is not synced by an Open.
func TestOpenStepsWithPending(t *testing.T) {
	d, _ := formatted(t, 140, 0)
	ok(t, d.Write(139, api.Block{1}))
	ops := d.Ops()
	wantNew(t, opened(t, d, 0))
	if d.Ops() != ops+1 || len(d.Pending()) != 1 {
		t.Error("Open does more than read a mark that is not set")
	}
}

// P8.1: a mark that is set counts, though it is pending yet: the region is mended as if it were safe, without a sync ahead.
func TestOpenStepsWithAPendingMark(t *testing.T) {
	x := pageOf(6, 9, 2)
	pending := func(t *testing.T) (*disk.Disk, *pool.Pool) {
		d, p := with(4, 0, x)(t)
		ok(t, d.Fail(8)) // the sync behind the mark
		wantFlush(t, p, 9, 0, api.ErrIo)
		if !slices.Equal(d.Pending(), []int{4}) {
			t.Fatalf("pending: %v", d.Pending())
		}
		return d, nil
	}
	wantSteps(t, pending, makes(pool.Open, 4), 1+4, writes(4+5+4*6, sectorsFor(t, x)...)...)
}

// P8.4: a page is written so: the mark becomes noughts, the spare place, the mark, its own place; a sync behind each.
func TestFlushSteps(t *testing.T) {
	for _, base := range []int{0, 4} {
		for _, number := range []int{0, 1, 30, 31} {
			x := pageOf(number, 9, number)
			wantSteps(t, with(base, 0, x), flushes, 0, pageWrites(t, base, x)...)
			wantSteps(t, with(base, 1, x), flushes, 0, pageWrites(t, base, x)...)
		}
		a, b, c, e := pageOf(31, 9, 0), pageOf(2, 8, 1), pageOf(16, 7, 2), pageOf(15, 10, 3)
		wantSteps(t, with(base, 2, a, b, c, e), flushes, 0, slices.Concat(
			pageWrites(t, base, b), pageWrites(t, base, e), pageWrites(t, base, c), pageWrites(t, base, a))...)
	}
}

// P8.2: a Get reads the page's own place; a dirty page that gives way is written ahead of that.
func TestGetSteps(t *testing.T) {
	a, b, c, e := pageOf(31, 9, 0), pageOf(2, 8, 1), pageOf(16, 7, 2), pageOf(15, 10, 3)
	for _, base := range []int{0, 4} {
		wantSteps(t, with(base, 0), gets(3), 4)
		wantSteps(t, with(base, 2, a, b, c), gets(3), 4)
		wantSteps(t, with(base, 2, a, b, c), gets(16), 0)
		wantSteps(t, with(base, 1, a, b, c, e), gets(3), 4, pageWrites(t, base, a)...)
		wantSteps(t, with(base, 4, a, b, c, e), gets(3), 4, pageWrites(t, base, a)...)
		wantSteps(t, with(base, 4, b, a, c, e), gets(3), 4, pageWrites(t, base, b)...)
	}
}

// P8.2 to P8.5: what is in the frames is told and changed without the disk.
func TestCallsWithoutTheDisk(t *testing.T) {
	d, p := with(0, 1, pageOf(3, 9, 1), pageOf(4, 8, 2))(t)
	ops := d.Ops()
	p.Frames()
	p.Hand()
	p.Broken()
	ok(t, p.Set(4, 0, nil, 3))
	ok(t, p.Unpin(4))
	ok(t, gets(3)(d, p))
	wantFlush(t, p, 0, 9, api.ErrWait)
	if d.Ops() != ops {
		t.Errorf("%d operations", d.Ops()-ops)
	}
}
