package pool_test

import (
	"slices"
	"testing"

	"gazetteer/api"
	"gazetteer/disk"
	"gazetteer/page"
	"gazetteer/pool"
)

// choices tells each choice of n.
func choices(n int) func(yield func([]bool) bool) {
	return func(yield func([]bool) bool) {
		for bits := range 1 << n {
			keep := make([]bool, n)
			for i := range keep {
				keep[i] = bits>>i&1 == 1
			}
			if !yield(keep) {
				return
			}
		}
	}
}

// wantPages wants a disk from whose region these pages are read, and else empty ones.
func wantPages(t *testing.T, p *pool.Pool, want []api.Page) {
	t.Helper()
	for number := range 32 {
		x := api.Page{Number: number}
		if i := slices.IndexFunc(want, func(w api.Page) bool { return w.Number == number }); i >= 0 {
			x = want[i]
		}
		wantGet(t, p, 0, x)
		ok(t, p.Unpin(number))
	}
}

// wantSafe wants a disk on which an Open finds these pages, wherever the power goes in that Open, and whatever lives on.
func wantSafe(t *testing.T, d *disk.Disk, base int, want []api.Page) {
	t.Helper()
	for n := 0; ; n++ {
		c := d.Copy()
		ok(t, c.Arm(n))
		p, e := pool.Open(c, base)
		if !c.Dead() {
			ok(t, e)
			wantPages(t, p, want)
			ok(t, c.Crash(nil))
			wantPages(t, opened(t, c, base), want)
			return
		}
		wantErr(t, "Open without power", e, api.ErrDead)
		for keep := range choices(len(c.Pending())) {
			after := c.Copy()
			ok(t, after.Crash(keep))
			p := opened(t, after, base)
			ok(t, after.Crash(nil))
			wantPages(t, p, want)
			wantPages(t, opened(t, after, base), want)
		}
	}
}

// reached tells whether a page's write makes it anew, with n of its operations done, and what lives on of the pending ones: the mark must be set.
func reached(n int, keep []bool) bool {
	return n > 8 || n == 8 && keep[0]
}

// P8.6: the power goes at each operation of a Flush, with each choice of what lives on, and at each operation of the Open behind that: each page is read whole, as it was on the disk or as its write was to make it; those written ahead of it are as they were set, those behind it as they were.
func TestPowerInAFlush(t *testing.T) {
	old := []api.Page{pageOf(1, 1, 1), pageOf(6, 2, 2), pageOf(31, 3, 3)}
	young := []api.Page{pageOf(1, 4, 4), pageOf(6, 5, 5), pageOf(31, 6, 6)}
	for n := range 3 * 14 {
		d, p := with(3, 0, old...)(t)
		wantFlush(t, p, 3, 0, api.OK)
		for _, x := range young {
			fill(t, p, x)
		}
		ok(t, d.Arm(n))
		wantFlush(t, p, 6, 0, api.ErrDead)
		for keep := range choices(len(d.Pending())) {
			want := slices.Clone(old)
			copy(want, young[:n/14])
			if reached(n%14, keep) {
				want[n/14] = young[n/14]
			}
			after := d.Copy()
			ok(t, after.Crash(keep))
			wantSafe(t, after, 3, want)
		}
	}
}

// P8.6: the same of a Get for which a dirty page gives way; and of a first write of a page.
func TestPowerInAGet(t *testing.T) {
	first := []api.Page{pageOf(0, 1, 1), pageOf(6, 2, 2), pageOf(31, 3, 3), pageOf(7, 4, 0)}
	for n := range 14 {
		d, p := with(0, 4, first...)(t)
		ok(t, d.Arm(n))
		wantNoGet(t, p, 9, 1, 0, api.ErrDead)
		for keep := range choices(len(d.Pending())) {
			var want []api.Page
			if reached(n, keep) {
				want = first[:1]
			}
			after := d.Copy()
			ok(t, after.Crash(keep))
			wantSafe(t, after, 0, want)
		}
	}
}

// P8.6: the power goes in an Open behind a write that was cut off, in the Open behind that, and in a third one.
func TestPowerInOpensOfOpens(t *testing.T) {
	old, young := pageOf(6, 3, 1), pageOf(6, 4, 2)
	for n := 8; n < 14; n++ {
		d, p := with(0, 0, old)(t)
		wantFlush(t, p, 3, 0, api.OK)
		fill(t, p, young)
		ok(t, d.Arm(n))
		wantFlush(t, p, 4, 0, api.ErrDead)
		ok(t, d.Crash([]bool{true, false, true}))
		for m := range 5 {
			first := d.Copy()
			ok(t, first.Arm(m))
			wantNoPool(t, "Open", opens, first, 0, api.ErrDead)
			for keep := range choices(len(first.Pending())) {
				second := first.Copy()
				ok(t, second.Crash(keep))
				wantSafe(t, second, 0, []api.Page{young})
			}
		}
	}
}

// player plays a long row of calls and failures against the words, and against what was set.
type player struct {
	*twin
	seed    uint32
	crashes bool // whether the power goes at times, and does so ahead of each Open; else disks only fail
	durable uint64
	lsn     uint64       // the last one that was given
	now     [32]api.Page // as they were set
	safe    [32]api.Page // as they are on the disk
	pins    [32]int
}

func newPlayer(t *testing.T, seed int, crashes bool) *player {
	base := seed % 3
	d, _ := formatted(t, 133+base, base)
	p := &player{twin: twinOn(t, d, base), seed: uint32(seed), crashes: crashes}
	for number := range 32 {
		p.now[number].Number, p.safe[number].Number = number, number
	}
	return p
}

// pick is a number below n; the row of them is always the same.
func (p *player) pick(n int) int {
	p.seed = p.seed*1664525 + 1013904223
	return int(p.seed>>8) % n
}

// number is one of the pages, mostly of the first ones, perhaps none.
func (p *player) number() int {
	switch p.pick(12) {
	case 0:
		return p.pick(36) - 2
	case 1:
		return 31
	}
	return p.pick(7)
}

// pinned is one of the pages that are pinned, where one is; at times any.
func (p *player) pinned() int {
	from := p.pick(32)
	for i := range 32 {
		number := (from + i) % 32
		if p.pins[number] > 0 && p.pick(16) > 0 {
			return number
		}
	}
	return p.number()
}

// tryGet gets a page, which must be as it was set.
func (p *player) tryGet() {
	number := p.number()
	if p.get(number, p.durable) != api.OK {
		return
	}
	p.pins[number]++
	wantGet(p.t, p.p, 0, p.now[number])
	ok(p.t, p.p.Unpin(number))
	pinned := 0
	for _, n := range p.pins {
		pinned += min(n, 1)
	}
	if pinned > 4 {
		p.t.Fatalf("%d pages are pinned at once", pinned)
	}
}

func (p *player) trySet() {
	number, slot := p.pinned(), p.pick(5)-p.pick(2)
	b := row(p.pick(55)*p.pick(2), p.pick(255))
	if p.set(number, slot, b, p.lsn+1) == api.OK {
		p.lsn++
		p.now[number].Slots[slot], p.now[number].Lsn = b, p.lsn
	}
}

func (p *player) tryUnpin() {
	number := p.pinned()
	if p.unpin(number) == api.OK {
		p.pins[number]--
	}
}

// settle takes note of what is on the disk as it was set: all that is not dirty.
func (p *player) settle() {
	was := p.safe
	p.safe = p.now
	for _, f := range p.p.Frames() {
		if f.Dirty {
			p.safe[f.Number] = was[f.Number]
		}
	}
}

// trip sets something on both disks, perhaps.
func (p *player) trip() {
	n := p.pick(30)
	switch {
	case p.pick(20) > 0:
	case p.crashes && p.pick(2) == 0:
		p.onDisks(func(d *disk.Disk) { d.Arm(n) })
	default:
		p.onDisks(func(d *disk.Disk) { d.Fail(n) })
	}
}

// crash lets some of what is pending live on.
func (p *player) crash() {
	keep := make([]bool, len(p.d.Pending()))
	for i := range keep {
		keep[i] = p.pick(3) > 0
	}
	p.onDisks(func(d *disk.Disk) { d.Crash(keep) })
}

// openings opens the pool anew, with the power gone or a failure on the way at times.
func (p *player) openings() {
	for p.pick(3) == 0 {
		n := p.pick(11)
		if p.crashes {
			p.crash()
			p.onDisks(func(d *disk.Disk) { d.Arm(n) })
		} else {
			p.onDisks(func(d *disk.Disk) { d.Fail(n) })
		}
		p.open()
	}
	if p.crashes {
		p.crash()
	}
	p.onDisks(func(d *disk.Disk) { d.Fail(-1) })
	if !p.open() {
		p.t.Fatal("the pool does not open")
	}
}

// again opens the pool anew, and looks through all pages: each is whole and as it was on the disk, but perhaps one whose write was under way, and its record lasts.
func (p *player) again() {
	p.openings()
	p.pins = [32]int{}
	under := 0
	for number := range 32 {
		got, _, e := p.p.Get(number, 0)
		p.x.get(number, 0)
		ok(p.t, e)
		switch {
		case page.Same(got, p.safe[number]):
		case page.Same(got, p.now[number]):
			under++
		default:
			p.t.Fatalf("page %d: %v; want %v or %v", number, got, p.safe[number], p.now[number])
		}
		if got.Lsn > p.durable || under > 1 {
			p.t.Fatalf("page %d: %v, where %d is durable, and %d pages are anew", number, got, p.durable, under)
		}
		p.now[number], p.safe[number] = got, got
		ok(p.t, p.unpin(number))
	}
}

// turn does one call.
func (p *player) turn() {
	p.trip()
	switch p.pick(32) {
	case 0:
		p.flush(p.durable)
	case 1, 2, 3, 4, 5, 6, 7, 8:
		p.trySet()
	case 9, 10, 11, 12, 13, 14, 15, 16, 17, 18, 19, 20:
		p.tryUnpin()
	default:
		p.tryGet()
	}
	p.settle()
	if p.pick(3) == 0 {
		p.durable = min(p.lsn, p.durable+uint64(p.pick(3)))
	}
	if p.p.Broken() || p.crashes && p.pick(150) == 0 {
		p.again()
	}
}

// P8.2 to P8.6: long rows of calls, some of which fail or lose the power: all is answered, told and written as the words have it, and pages are as they were set, or, behind an Open, as they were on the disk.
func TestLongRows(t *testing.T) {
	for seed := range 50 {
		p := newPlayer(t, seed, true)
		for range 400 {
			p.turn()
		}
	}
}

// P8.2 to P8.6: the same where disks fail with the power on, and pools are opened anew without a crash.
func TestLongRowsOfFailures(t *testing.T) {
	for seed := range 50 {
		p := newPlayer(t, seed, false)
		for range 400 {
			p.turn()
		}
	}
}
