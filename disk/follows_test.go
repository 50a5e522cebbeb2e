package disk_test

import (
	"slices"
	"testing"

	"gazetteer/api"
	"gazetteer/disk"
)

// plain is a disk as the chapter's words have it: what is safe, the pending writes, and what is set; each question goes through them all.
type plain struct {
	safe    []api.Block
	sectors []int
	blocks  []api.Block
	dead    bool
	arm     int // below 0: not armed
	fail    int // below 0: not set to fail
	ops     int
}

func newPlain(sectors int) *plain {
	return &plain{safe: make([]api.Block, sectors), arm: -1, fail: -1}
}

func (p *plain) holds(i int) api.Block {
	b := p.safe[i]
	for k, s := range p.sectors {
		if s == i {
			b = p.blocks[k]
		}
	}
	return b
}

// asked tells why an operation is not done.
func (p *plain) asked(i int, changes bool) api.Errno {
	if p.dead {
		return api.ErrDead
	}
	if i < 0 || i >= len(p.safe) {
		return api.ErrArg
	}
	if p.fail >= 0 {
		p.fail--
		if p.fail < 0 {
			return api.ErrIo
		}
	}
	if changes && p.arm >= 0 {
		p.arm--
		if p.arm < 0 {
			p.dead = true
			return api.ErrDead
		}
	}
	p.ops++
	return api.OK
}

func (p *plain) write(i int, b api.Block) api.Errno {
	err := p.asked(i, true)
	if err == api.OK {
		p.sectors = append(p.sectors, i)
		p.blocks = append(p.blocks, b)
	}
	return err
}

func (p *plain) sync() api.Errno {
	err := p.asked(0, true)
	if err == api.OK {
		all := make([]bool, len(p.sectors))
		for i := range all {
			all[i] = true
		}
		p.keep(all)
	}
	return err
}

// keep makes some of the pending writes safe, and drops the others.
func (p *plain) keep(list []bool) {
	for k, s := range p.sectors {
		if k < len(list) && list[k] {
			p.safe[s] = p.blocks[k]
		}
	}
	p.sectors, p.blocks = nil, nil
}

func (p *plain) crash(list []bool) {
	p.keep(list)
	p.dead, p.arm, p.fail = false, -1, -1
}

func (p *plain) set(what *int, n int) api.Errno {
	if p.dead {
		return api.ErrDead
	}
	*what = max(n, -1)
	return api.OK
}

func (p *plain) copy() *plain {
	other := *p
	other.safe, other.sectors, other.blocks = slices.Clone(p.safe), slices.Clone(p.sectors), slices.Clone(p.blocks)
	return &other
}

// pair is a disk and its words.
type pair struct {
	d *disk.Disk
	p *plain
}

// same holds all that a disk tells without being changed against the words; the sectors are read from a copy, as a read counts.
func (x pair) same(t *testing.T, what string) {
	t.Helper()
	if !slices.Equal(x.d.Pending(), x.p.sectors) || x.d.Dead() != x.p.dead || x.d.Ops() != x.p.ops || x.d.Len() != len(x.p.safe) {
		t.Fatalf("%s: pending %v, dead %v, %d operations; want %v, %v, %d", what, x.d.Pending(), x.d.Dead(), x.d.Ops(), x.p.sectors, x.p.dead, x.p.ops)
	}
	if x.p.dead {
		return
	}
	c := x.d.Copy()
	c.Fail(-1)
	for i := range x.p.safe {
		if b, err := c.Read(i); err != api.OK || b != x.p.holds(i) {
			t.Fatalf("%s: sector %d holds % x, error %d; want % x", what, i, b, err, x.p.holds(i))
		}
	}
}

// numbersFrom is a row of numbers that hangs on its seed alone.
func numbersFrom(seed uint64) func(n int) int {
	x := seed*2862933555777941757 + 3037000493
	return func(n int) int {
		x = x*6364136223846793005 + 1442695040888963407
		return int(x >> 33 % uint64(n))
	}
}

// step does one thing to both.
func (x pair) step(t *testing.T, next func(n int) int) {
	t.Helper()
	var got, wanted api.Errno
	what := "Write"
	switch i := next(len(x.p.safe)+2) - 1; next(12) {
	case 0, 1, 2, 3:
		b := block(byte(next(250) + 1))
		got, wanted = x.d.Write(i, b), x.p.write(i, b)
	case 4, 5:
		what = "Read"
		var b, held api.Block
		b, got = x.d.Read(i)
		if wanted = x.p.asked(i, false); wanted == api.OK {
			held = x.p.holds(i)
		}
		if b != held {
			t.Fatalf("Read(%d): % x; want % x", i, b, held)
		}
	case 6:
		what, got, wanted = "Sync", x.d.Sync(), x.p.sync()
	case 7, 8:
		n := next(9) - 2
		what, got, wanted = "Arm", x.d.Arm(n), x.p.set(&x.p.arm, n)
	case 9, 10:
		n := next(9) - 2
		what, got, wanted = "Fail", x.d.Fail(n), x.p.set(&x.p.fail, n)
	default:
		keep := make([]bool, next(8))
		for k := range keep {
			keep[k] = next(2) == 1
		}
		what = "Crash"
		x.p.crash(keep)
		got = x.d.Crash(keep)
	}
	want(t, what, got, wanted)
	x.same(t, what)
}

// P2.1 to P2.7: long rows of all that can be done, against the words; with copies that go on by themselves.
func TestAgainstTheWords(t *testing.T) {
	for seed := range uint64(60) {
		next := numbersFrom(seed)
		sectors := 1 + next(5)
		all := []pair{{newDisk(t, sectors), newPlain(sectors)}}
		for range 400 {
			x := all[next(len(all))]
			if len(all) < 4 && next(40) == 0 {
				all = append(all, pair{x.d.Copy(), x.p.copy()})
			}
			x.step(t, next)
			for _, y := range all {
				y.same(t, "another disk's step")
			}
			if t.Failed() {
				t.Fatalf("seed %d", seed)
			}
		}
	}
}

// P2.7: with all kept nothing is lost, with none kept all that is not safe; any other crash leaves each sector with something it held since the sync.
func TestWhatCrashesLeave(t *testing.T) {
	d := newDisk(t, 3)
	writes := []int{2, 0, 2, 1, 0, 2}
	held := make([][]api.Block, 3) // what each sector held since the sync
	for i := range held {
		want(t, "Write", d.Write(i, block(byte(100+i))), api.OK)
		held[i] = []api.Block{block(byte(100 + i))}
	}
	want(t, "Sync", d.Sync(), api.OK)
	for n, i := range writes {
		want(t, "Write", d.Write(i, block(byte(n+1))), api.OK)
		held[i] = append(held[i], block(byte(n+1)))
	}
	for bits := range 1 << len(writes) {
		keep := make([]bool, len(writes))
		for k := range keep {
			keep[k] = bits>>k&1 == 1
		}
		c := d.Copy()
		want(t, "Crash", c.Crash(keep), api.OK)
		for i := range held {
			b, err := c.Read(i)
			if err != api.OK || !slices.Contains(held[i], b) {
				t.Errorf("crash %b: sector %d holds % x, which it never did", bits, i, b)
			}
			if bits == 0 && b != held[i][0] {
				t.Errorf("none kept: sector %d holds % x; want what is safe", i, b)
			}
			if bits == 1<<len(writes)-1 && b != held[i][len(held[i])-1] {
				t.Errorf("all kept: sector %d holds % x; want its last write", i, b)
			}
		}
	}
}

// P2.7: what a disk holds behind a sync it holds behind any crash, also where the power goes at any write ahead of the next sync.
func TestSyncedLasts(t *testing.T) {
	for n := range 5 {
		for bits := range 1 << 4 {
			d := newDisk(t, 4)
			want(t, "Write", d.Write(3, block(1)), api.OK)
			want(t, "Sync", d.Sync(), api.OK)
			want(t, "Arm", d.Arm(n), api.OK)
			for i := range 3 { // not sector 3
				d.Write(i, block(byte(i+2)))
			}
			keep := []bool{bits&1 > 0, bits&2 > 0, bits&4 > 0, bits&8 > 0}
			want(t, "Crash", d.Crash(keep), api.OK)
			wantHeld(t, d, 3, block(1))
			for i := range 3 {
				if i < n && keep[i] {
					wantHeld(t, d, i, block(byte(i+2)))
				} else {
					wantHeld(t, d, i, none)
				}
			}
		}
	}
}

// P2.7: an operation that fails changes nothing: the disk tells the same as its copy from ahead of it.
func TestFailingChangesNothing(t *testing.T) {
	operations := []struct {
		name string
		do   func(d *disk.Disk) api.Errno
	}{
		{"Read", func(d *disk.Disk) api.Errno { _, err := d.Read(0); return err }},
		{"Write", func(d *disk.Disk) api.Errno { return d.Write(0, block(7)) }},
		{"Sync", func(d *disk.Disk) api.Errno { return d.Sync() }},
	}
	for _, o := range operations {
		for arm := -1; arm < 3; arm++ {
			d := newDisk(t, 2)
			want(t, "Write", d.Write(0, block(1)), api.OK)
			want(t, "Write", d.Write(1, block(2)), api.OK)
			want(t, "Arm", d.Arm(arm), api.OK)
			before := d.Copy()
			want(t, "Fail", d.Fail(0), api.OK)
			want(t, o.name, o.do(d), api.ErrIo)
			wantPending(t, d, before.Pending()...)
			wantState(t, d, before.Dead(), before.Ops())
			for range 4 { // as many are done on both
				if x, y := d.Write(1, block(9)), before.Write(1, block(9)); x != y {
					t.Errorf("%s failed, armed with %d: error %d; want %d", o.name, arm, x, y)
				}
			}
			want(t, "Crash", d.Crash(nil), api.OK)
			wantHeld(t, d, 0, none)
			wantHeld(t, d, 1, none)
		}
	}
}

// P2.7: reads do not bring an armed disk nearer to its end.
func TestReadsWhileArmed(t *testing.T) {
	d := newDisk(t, 2)
	want(t, "Arm", d.Arm(0), api.OK)
	for range 50 {
		wantHeld(t, d, 1, none)
	}
	wantState(t, d, false, 50)
	want(t, "Sync", d.Sync(), api.ErrDead)
}

// The chapter's examples.
func TestExamples(t *testing.T) {
	x, y, z := block(1), block(2), block(3)
	d := newDisk(t, 4)
	want(t, "Write(1, x)", d.Write(1, x), api.OK)
	want(t, "Write(2, y)", d.Write(2, y), api.OK)
	wantPending(t, d, 1, 2)
	wantHeld(t, d, 1, x)
	want(t, "Crash(false, true)", d.Crash([]bool{false, true}), api.OK)
	wantHeld(t, d, 1, none)
	wantHeld(t, d, 2, y)
	wantPending(t, d)

	d = newDisk(t, 4)
	want(t, "Write(1, x)", d.Write(1, x), api.OK)
	want(t, "Sync", d.Sync(), api.OK)
	want(t, "Write(1, z)", d.Write(1, z), api.OK)
	want(t, "Crash(none)", d.Crash(nil), api.OK)
	wantHeld(t, d, 1, x)

	want(t, "Fail(1)", d.Fail(1), api.OK)
	wantHeld(t, d, 1, x)
	want(t, "Write(1, z)", d.Write(1, z), api.ErrIo)
	want(t, "Write(1, z)", d.Write(1, z), api.OK)

	d = newDisk(t, 4)
	want(t, "Arm(1)", d.Arm(1), api.OK)
	want(t, "Write(0, x)", d.Write(0, x), api.OK)
	want(t, "Write(0, y)", d.Write(0, y), api.ErrDead)
	wantState(t, d, true, 1)
	wantRefused(t, d, 0, api.ErrDead)
}
