package pool_test

import (
	"math"
	"slices"
	"testing"

	"gazetteer/api"
	"gazetteer/disk"
	"gazetteer/page"
	"gazetteer/pool"
)

func ok(t *testing.T, e api.Errno) {
	t.Helper()
	if e != api.OK {
		t.Fatalf("error %d", e)
	}
}

func wantErr(t *testing.T, name string, got, want api.Errno) {
	t.Helper()
	if got != want {
		t.Fatalf("%s: error %d; want %d", name, got, want)
	}
}

// row is n bytes from first on.
func row(n, first int) []byte {
	b := make([]byte, n)
	for i := range b {
		b[i] = byte(first + i)
	}
	return b
}

func newDisk(t *testing.T, sectors int) *disk.Disk {
	t.Helper()
	d, e := disk.New(sectors)
	ok(t, e)
	return d
}

func formatted(t *testing.T, sectors, base int) (*disk.Disk, *pool.Pool) {
	t.Helper()
	d := newDisk(t, sectors)
	p, e := pool.Format(d, base)
	ok(t, e)
	return d, p
}

func opened(t *testing.T, d *disk.Disk, base int) *pool.Pool {
	t.Helper()
	p, e := pool.Open(d, base)
	ok(t, e)
	return p
}

// sectorsOf is what the sectors of a disk hold, with what is pending, whatever is set on it.
func sectorsOf(t *testing.T, d *disk.Disk) []api.Block {
	t.Helper()
	c := d.Copy()
	all := make([]bool, len(c.Pending()))
	for i := range all {
		all[i] = true
	}
	ok(t, c.Crash(all))
	l := make([]api.Block, c.Len())
	for i := range l {
		b, e := c.Read(i)
		ok(t, e)
		l[i] = b
	}
	return l
}

// pageOf is a page with some bytes in each slot but one.
func pageOf(number int, lsn uint64, seed int) api.Page {
	p := api.Page{Number: number, Lsn: lsn}
	for i := range p.Slots {
		if i != seed%4 {
			p.Slots[i] = row(1+(seed*7+i*13)%52, seed+i)
		}
	}
	return p
}

// sectorsFor is a page's sectors.
func sectorsFor(t *testing.T, p api.Page) []api.Block {
	t.Helper()
	l, e := page.Sectors(p)
	ok(t, e)
	return l
}

// lay writes sectors, one behind the other from one on, and syncs.
func lay(t *testing.T, d *disk.Disk, from int, l ...api.Block) {
	t.Helper()
	for i, b := range l {
		ok(t, d.Write(from+i, b))
	}
	ok(t, d.Sync())
}

// fill sets all slots of a page that is pinned as another one has them.
func fill(t *testing.T, p *pool.Pool, x api.Page) {
	t.Helper()
	for i, s := range x.Slots {
		ok(t, p.Set(x.Number, i, s, x.Lsn))
	}
}

// wantGet gets a page, and wants just it.
func wantGet(t *testing.T, p *pool.Pool, durable uint64, want api.Page) {
	t.Helper()
	got, lsn, e := p.Get(want.Number, durable)
	if e != api.OK || lsn != 0 || !page.Same(got, want) {
		t.Fatalf("Get(%d, %d): %v, %d, error %d; want %v", want.Number, durable, got, lsn, e, want)
	}
}

// wantNoGet wants an error of a Get, and nothing beside it but an Lsn.
func wantNoGet(t *testing.T, p *pool.Pool, number int, durable, lsn uint64, want api.Errno) {
	t.Helper()
	got, l, e := p.Get(number, durable)
	if e != want || l != lsn || got.Number != 0 || !page.Same(got, api.Page{}) {
		t.Fatalf("Get(%d, %d): %v, %d, error %d; want %d, error %d", number, durable, got, l, e, lsn, want)
	}
}

func wantFlush(t *testing.T, p *pool.Pool, durable, lsn uint64, want api.Errno) {
	t.Helper()
	if l, e := p.Flush(durable); l != lsn || e != want {
		t.Fatalf("Flush(%d): %d, error %d; want %d, error %d", durable, l, e, lsn, want)
	}
}

func wantFrames(t *testing.T, p *pool.Pool, hand int, want ...api.Frame) {
	t.Helper()
	for len(want) < 4 {
		want = append(want, api.Frame{Number: -1})
	}
	if got := p.Frames(); !slices.Equal(got, want) || p.Hand() != hand {
		t.Fatalf("frames %v, hand %d; want %v, %d", got, p.Hand(), want, hand)
	}
}

// wantNew wants a pool without pages.
func wantNew(t *testing.T, p *pool.Pool) {
	t.Helper()
	wantFrames(t, p, 0)
	if p.Broken() {
		t.Fatal("a new pool is broken")
	}
}

// holding is a frame that has a page that is pinned once, and is on the disk as it is.
func holding(number int, lsn uint64) api.Frame {
	return api.Frame{Number: number, Pins: 1, Used: true, Lsn: lsn}
}

// P8.1 to P8.5: the chapter's examples.
func TestExamples(t *testing.T) {
	d, p := formatted(t, 133, 0)
	wantGet(t, p, 0, api.Page{Number: 3})
	ok(t, p.Set(3, 0, []byte{7}, 5))
	ok(t, p.Unpin(3))
	for _, n := range []int{4, 5, 6} {
		wantGet(t, p, 9, api.Page{Number: n})
	}
	wantNoGet(t, p, 7, 4, 5, api.ErrWait)
	wantGet(t, p, 5, api.Page{Number: 7})
	wantFrames(t, p, 1, holding(7, 0), holding(4, 0), holding(5, 0), holding(6, 0))
	wantNoGet(t, p, 8, 5, 0, api.ErrPinned)
	wantErr(t, "Unpin", p.Unpin(3), api.ErrNone)
	wantFlush(t, p, 9, 0, api.OK)
	wantNoPool(t, "Format", formats, d, 1, api.ErrArg)
	wantNoPool(t, "Open", opens, nil, 0, api.ErrNil)
	wantGet(t, opened(t, d, 0), 0, api.Page{Number: 3, Lsn: 5, Slots: [4][]byte{{7}}})
}

// maker is Format or Open.
type maker func(d *disk.Disk, base int) (*pool.Pool, api.Errno)

var (
	formats maker = pool.Format
	opens   maker = pool.Open
)

// wantNoPool wants an error, and no pool.
func wantNoPool(t *testing.T, name string, m maker, d *disk.Disk, base int, want api.Errno) {
	t.Helper()
	if p, e := m(d, base); p != nil || e != want {
		t.Fatalf("%s at %d of %d: %v, error %d; want error %d", name, base, d.Len(), p, e, want)
	}
}

// P8.1: without a disk ErrNil, ahead of ErrArg.
func TestNoDisk(t *testing.T) {
	for _, base := range []int{0, 1, -1, math.MinInt, math.MaxInt} {
		wantNoPool(t, "Format", formats, nil, base, api.ErrNil)
		wantNoPool(t, "Open", opens, nil, base, api.ErrNil)
	}
}

// P8.1: a region that does not lie within the disk: ErrArg, ahead of the disk's own errors, and nothing is done.
func TestRegionOutsideTheDisk(t *testing.T) {
	for _, sectors := range []int{1, 132, 133, 134, 200, 2048} {
		bases := []int{-1, -2, -133, math.MinInt, sectors - 132, sectors - 131, sectors, sectors + 1, math.MaxInt, math.MaxInt - 131, math.MaxInt - 132, math.MaxInt - 133}
		if sectors < 133 {
			bases = append(bases, 0)
		}
		for _, base := range bases {
			d := newDisk(t, sectors)
			wantNoPool(t, "Format", formats, d, base, api.ErrArg)
			wantNoPool(t, "Open", opens, d, base, api.ErrArg)
			if d.Ops() != 0 {
				t.Fatalf("%d operations at %d of %d", d.Ops(), base, sectors)
			}
			ok(t, d.Fail(0))
			wantNoPool(t, "Format", formats, d, base, api.ErrArg)
			wantNoPool(t, "Open", opens, d, base, api.ErrArg)
			ok(t, d.Fail(-1))
			ok(t, d.Arm(0))
			wantErr(t, "Sync", d.Sync(), api.ErrDead)
			wantNoPool(t, "Format", formats, d, base, api.ErrArg)
			wantNoPool(t, "Open", opens, d, base, api.ErrArg)
		}
	}
}

// P8.1: a region may lie anywhere within the disk, up to its end.
func TestRegionWithinTheDisk(t *testing.T) {
	for _, at := range [][2]int{{133, 0}, {134, 0}, {134, 1}, {200, 67}, {2048, 1915}, {2048, 7}} {
		d, p := formatted(t, at[0], at[1])
		wantNew(t, p)
		x := pageOf(31, 3, 1)
		wantGet(t, p, 0, api.Page{Number: 31})
		fill(t, p, x)
		wantFlush(t, p, 3, 0, api.OK)
		p = opened(t, d, at[1])
		wantNew(t, p)
		wantGet(t, p, 0, x)
	}
}

// P8.1: without power Format and Open answer ErrDead.
func TestNoPower(t *testing.T) {
	d := newDisk(t, 133)
	ok(t, d.Arm(0))
	wantErr(t, "Sync", d.Sync(), api.ErrDead)
	wantNoPool(t, "Format", formats, d, 0, api.ErrDead)
	wantNoPool(t, "Open", opens, d, 0, api.ErrDead)
}

// P8.1: two regions on one disk have nothing to do with one another.
func TestTwoRegions(t *testing.T) {
	d, p := formatted(t, 266, 0)
	q, e := pool.Format(d, 133)
	ok(t, e)
	a, b := pageOf(31, 1, 2), pageOf(0, 2, 3)
	wantGet(t, p, 0, api.Page{Number: 31})
	wantGet(t, q, 0, api.Page{Number: 0})
	fill(t, p, a)
	fill(t, q, b)
	wantFlush(t, p, 1, 0, api.OK)
	wantFlush(t, q, 2, 0, api.OK)
	p, q = opened(t, d, 0), opened(t, d, 133)
	wantGet(t, p, 0, a)
	wantGet(t, p, 0, api.Page{Number: 0})
	wantGet(t, q, 0, b)
	wantGet(t, q, 0, api.Page{Number: 31})
}

// notSet are marks that are set for no page.
func notSet() []api.Block {
	list := []api.Block{{}, {'P', 'O', 'O', 'L', 0, 3}, {0, 'p', 'o', 'o', 'l', 0, 3}}
	for _, number := range []int{0, 3, 31} {
		for i := range 64 {
			b := plainMark(number)
			b[i] ^= 64
			list = append(list, b)
		}
	}
	high := plainMark(0)
	high[4] = 3 // the lowest byte first
	return append(list, high, plainMark(32), plainMark(33), plainMark(255))
}

// P8.1: a mark that is not set is read, and nothing else.
func TestOpenWithNoMarkSet(t *testing.T) {
	for _, m := range notSet() {
		d := newDisk(t, 140)
		old := pageOf(3, 1, 1)
		lay(t, d, 5, m)
		lay(t, d, 6, sectorsFor(t, pageOf(3, 2, 2))...)
		lay(t, d, 5+5+4*3, sectorsFor(t, old)...)
		was, ops := sectorsOf(t, d), d.Ops()
		p := opened(t, d, 5)
		wantNew(t, p)
		if d.Ops() != ops+1 || !slices.Equal(sectorsOf(t, d), was) {
			t.Fatalf("%d operations, with the mark % x", d.Ops()-ops, m[:8])
		}
		wantGet(t, p, 0, old)
	}
}

// P8.1: where the mark is set for a page that comes from the spare place, whatever stands in its own; also one that was never written.
func TestOpenMends(t *testing.T) {
	for number := range 32 {
		for _, x := range []api.Page{pageOf(number, 1<<63, number), {Number: number}} {
			for _, base := range []int{0, 7} {
				d := newDisk(t, 140)
				for i := range 140 {
					ok(t, d.Write(i, api.Block(row(64, i))))
				}
				l := sectorsFor(t, x)
				if x.Lsn == 0 {
					l = make([]api.Block, 4)
				}
				lay(t, d, base, plainMark(number))
				lay(t, d, base+1, l...)
				want := sectorsOf(t, d)
				copy(want[base+5+4*number:], l)
				p := opened(t, d, base)
				wantNew(t, p)
				if len(d.Pending()) != 0 || !slices.Equal(sectorsOf(t, d), want) {
					t.Fatalf("Open does not mend page %d as it should", number)
				}
				wantGet(t, p, 0, x)
			}
		}
	}
}

// P8.1: ErrPage, if the spare place has not the page for which the mark is set; nothing is written then.
func TestOpenOfAWrongSparePlace(t *testing.T) {
	l := sectorsFor(t, pageOf(3, 4, 1))
	turned := slices.Clone(l)
	turned[3][63] ^= 1
	sparse := make([]api.Block, 4)
	sparse[2][5] = 1
	swapped := []api.Block{l[1], l[0], l[2], l[3]}
	for i, wrong := range [][]api.Block{turned, sparse, swapped, sectorsFor(t, pageOf(4, 4, 1))} {
		d := newDisk(t, 133)
		lay(t, d, 0, plainMark(3))
		lay(t, d, 1, wrong...)
		was, ops := sectorsOf(t, d), d.Ops()
		wantNoPool(t, "Open", opens, d, 0, api.ErrPage)
		if d.Ops() != ops+5 || !slices.Equal(sectorsOf(t, d), was) {
			t.Fatalf("wrong spare place %d: %d operations", i, d.Ops()-ops)
		}
	}
}

// P8.1: a Format makes all pages empty ones, whatever was there.
func TestFormatAnew(t *testing.T) {
	d, p := formatted(t, 133, 0)
	for n := range 4 {
		wantGet(t, p, 0, api.Page{Number: n})
		fill(t, p, pageOf(n, 1, n))
	}
	wantFlush(t, p, 1, 0, api.OK)
	q, e := pool.Format(d, 0)
	ok(t, e)
	wantNew(t, q)
	for n := range 4 {
		wantGet(t, q, 0, api.Page{Number: n})
	}
	ok(t, d.Crash(nil))
	q = opened(t, d, 0)
	for n := range 4 {
		wantGet(t, q, 0, api.Page{Number: n})
	}
}
