package wal_test

import (
	"slices"
	"testing"

	"gazetteer/api"
	"gazetteer/disk"
	"gazetteer/wal"
)

// choices tells each choice of n.
func choices(n int) func(yield func([]bool) bool) {
	return func(yield func([]bool) bool) {
		for bits := range 1 << n {
			keep := make([]bool, n)
			for i := range keep {
				keep[i] = bits>>i&1 == 1
			}
			if !yield(keep) {
				return
			}
		}
	}
}

// P4.5: the power goes at each operation of an Append and of a Checkpoint, with each choice of what lives on: an Open finds the change whole, if all that makes it so lives on, else what was told ahead of it.
func TestPowerInAChange(t *testing.T) {
	eachChange(t, func(t *testing.T, s scene, c change, was, whole told) {
		for n := range c.operations() {
			d, w := s(t)
			ok(t, d.Arm(n))
			wantErr(t, "a change without power", c.call(d, w), api.ErrDead)
			wantTold(t, w, was)
			for keep := range choices(len(d.Pending())) {
				after := d.Copy()
				ok(t, after.Crash(keep))
				want := was
				if n == c.lastWrite() && !slices.Contains(keep, false) {
					want = whole
				}
				wantSafe(t, after, want)
			}
			ok(t, d.Crash(nil))
			wantBroken(t, w, was)
		}
		d, w := s(t)
		ok(t, d.Arm(c.operations()))
		ok(t, c.call(d, w))
		ok(t, d.Crash(nil))
		wantTold(t, w, whole)
		wantSafe(t, d, whole)
	})
}

// wantSafe wants a disk on which an Open finds want, wherever the power goes in that Open, and whatever lives on.
func wantSafe(t *testing.T, d *disk.Disk, want told) {
	t.Helper()
	for n := 0; ; n++ {
		c := d.Copy()
		ok(t, c.Arm(n))
		w, e := wal.Open(c)
		if !c.Dead() {
			ok(t, e)
			wantTold(t, w, want)
			ok(t, c.Crash(nil))
			wantGoesOn(t, c, want)
			return
		}
		wantErr(t, "Open without power", e, api.ErrDead)
		for keep := range choices(len(c.Pending())) {
			after := c.Copy()
			ok(t, after.Crash(keep))
			wantTold(t, opened(t, after), want)
			ok(t, after.Crash(nil))
			wantTold(t, opened(t, after), want)
		}
	}
}

// P4.5: the power goes in an Append, then in the Open, then in the Open behind that, with each choice of what lives on.
func TestPowerInOpensOfOpens(t *testing.T) {
	d, w := formatted(t, 4)
	ok(t, w.Append(nil))
	ok(t, d.Arm(1))
	wantErr(t, "Append", w.Append(bytesOf(92, 0)), api.ErrDead)
	ok(t, d.Crash([]bool{true}))
	ok(t, d.Write(5, plainFrame(0, 2, bytesOf(92, 0))[1]))
	ok(t, d.Write(4, api.Block{}))
	want := told{txs: [][]byte{nil}, left: 2}
	for keep := range choices(2) {
		first := d.Copy()
		ok(t, first.Crash(keep))
		if keep[0] && !keep[1] {
			wantSafe(t, first, want.behind(bytesOf(92, 0)))
			continue
		}
		for n := range 4 {
			second := first.Copy()
			ok(t, second.Arm(n))
			if _, e := wal.Open(second); e == api.OK {
				wantSafe(t, second, want)
				continue
			}
			for keep := range choices(len(second.Pending())) {
				third := second.Copy()
				ok(t, third.Crash(keep))
				wantSafe(t, third, want)
			}
		}
	}
}

// P4.5: the power goes in a Format of a new disk: there is no log then, or, if the head lives on, one that tells nothing.
func TestPowerInAFormat(t *testing.T) {
	fresh := func(t *testing.T) (*disk.Disk, *wal.Wal) { return newDisk(t, 10), nil }
	all := steps(t, fresh, formats(4))
	for n := range all {
		d, _ := fresh(t)
		ok(t, d.Arm(n))
		wantErr(t, "Format without power", formats(4)(d, nil), api.ErrDead)
		for keep := range choices(len(d.Pending())) {
			after := d.Copy()
			ok(t, after.Crash(keep))
			if n == len(all)-1 && keep[0] {
				wantSafe(t, after, told{left: 3})
				continue
			}
			wantErr(t, "Open of what is no log", opens(after, nil), api.ErrWal)
		}
	}
}

// player plays a long row of changes, failures and crashes against what must be told.
type player struct {
	t    *testing.T
	d    *disk.Disk
	w    *wal.Wal
	area int
	want told
	seed uint32
}

// pick is a number below n; the row of them is always the same.
func (p *player) pick(n int) int {
	p.seed = p.seed*1664525 + 1013904223
	return int(p.seed>>8) % n
}

// change tries an Append or a Checkpoint; what it leaves, if it is whole, and its error.
func (p *player) change() (told, api.Errno) {
	b := bytesOf(p.pick(5)*p.pick(40), p.pick(255))
	if p.pick(4) == 0 {
		return p.want.begun(b, p.area), p.w.Checkpoint(b)
	}
	return p.want.behind(b), p.w.Append(b)
}

// open opens the log again, perhaps with the power gone or a failure on the way; what is there is what the sectors say.
func (p *player) open() {
	for {
		found, _, err := plainOpen(sectorsOf(p.t, p.d))
		ok(p.t, err)
		switch p.pick(4) {
		case 0:
			ok(p.t, p.d.Arm(p.pick(6)))
		case 1:
			ok(p.t, p.d.Fail(p.pick(12)))
		}
		w, e := wal.Open(p.d)
		if p.d.Dead() {
			p.crash()
			continue
		}
		ok(p.t, p.d.Arm(-1))
		ok(p.t, p.d.Fail(-1))
		if e == api.OK {
			wantTold(p.t, w, found)
			p.w, p.want = w, found
			return
		}
		wantErr(p.t, "Open", e, api.ErrIo)
	}
}

// crash lets some of what is pending live on.
func (p *player) crash() {
	keep := make([]bool, len(p.d.Pending()))
	for i := range keep {
		keep[i] = p.pick(3) > 0
	}
	ok(p.t, p.d.Crash(keep))
}

// turn does one change with something set on the way, and opens the log again, if that broke it.
func (p *player) turn() {
	switch p.pick(4) {
	case 0:
		ok(p.t, p.d.Arm(p.pick(8)))
	case 1:
		ok(p.t, p.d.Fail(p.pick(8)))
	}
	was := p.want
	whole, e := p.change()
	switch e {
	case api.OK:
		p.want = whole
		wantTold(p.t, p.w, whole)
		if p.pick(8) > 0 {
			return
		}
		p.crash()
		p.open()
		if !p.want.equal(whole) {
			p.t.Fatalf("behind a change: %v; want %v", p.want, whole)
		}
	case api.ErrFull:
		wantTold(p.t, p.w, was)
		if whole.left >= 0 {
			p.t.Fatalf("full, where %d would be left", whole.left)
		}
		ok(p.t, p.d.Arm(-1))
		ok(p.t, p.d.Fail(-1))
		ok(p.t, p.w.Checkpoint(nil))
		p.want = was.begun(nil, p.area)
	case api.ErrIo, api.ErrDead:
		wantBroken(p.t, p.w, was)
		if e == api.ErrDead || p.pick(2) == 0 {
			p.crash()
		}
		p.open()
		if !p.want.equal(was) && !p.want.equal(whole) {
			p.t.Fatalf("behind a cut change: %v; want %v or %v", p.want, was, whole)
		}
	default:
		p.t.Fatalf("error %d", e)
	}
}

// P4.5: long rows of changes, some of which fail or lose the power: what is told is always what was told last, or the change that was under way.
func TestLongRows(t *testing.T) {
	for seed := range 200 {
		area := 4 + seed%7
		d, w := formatted(t, area)
		p := &player{t: t, d: d, w: w, area: area, want: told{left: area - 1}, seed: uint32(seed)}
		for range 60 {
			p.turn()
		}
	}
}
