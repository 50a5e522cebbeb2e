package wal_test

import (
	"slices"
	"testing"

	"gazetteer/api"
	"gazetteer/disk"
	"gazetteer/wal"
)

// change is an Append or a Checkpoint with b: what is told behind it, and how many sectors its frame fills.
type change struct {
	name string
	call call
	b    []byte
}

func (c change) whole(was told, area int) told {
	if c.name == "Append" {
		return was.behind(c.b)
	}
	return was.begun(c.b, area)
}

// lastWrite is how many operations of the change are done ahead of the sync behind the write that makes it whole.
func (c change) lastWrite() int {
	if c.name == "Append" {
		return fills(len(c.b))
	}
	return fills(len(c.b)) + 2
}

// operations is how many operations the change does.
func (c change) operations() int {
	return c.lastWrite() + 1
}

// changes are Appends and Checkpoints that a log with so many sectors left, of so many in an area, has room for.
func changes(left, area int) []change {
	var list []change
	for _, n := range []int{0, 1, 44, 45, 93, 140} {
		b := bytesOf(n, n)
		if fills(n) <= left {
			list = append(list, change{"Append", appends(b), b})
		}
		if fills(n) <= area {
			list = append(list, change{"Checkpoint", checkpoints(b), b})
		}
	}
	return list
}

// scenes are logs with areas of 4 or 6: a new one; one in whose other area stands more than will be written; one that was opened; one with room for nothing.
func scenes() []struct {
	name string
	area int
	scene
} {
	return []struct {
		name string
		area int
		scene
	}{
		{"new", 4, func(t *testing.T) (*disk.Disk, *wal.Wal) { return formatted(t, 4) }},
		{"of turn 3", 6, log},
		{"opened", 6, func(t *testing.T) (*disk.Disk, *wal.Wal) {
			d, _ := log(t)
			return d, opened(t, d)
		}},
		{"with all full", 4, func(t *testing.T) (*disk.Disk, *wal.Wal) {
			d, w := formatted(t, 4)
			ok(t, w.Append(bytesOf(140, 3)))
			ok(t, w.Checkpoint(bytesOf(188, 4)))
			return d, w
		}},
		{"with a checkpoint that was cut off", 4, func(t *testing.T) (*disk.Disk, *wal.Wal) {
			d, w := formatted(t, 4)
			ok(t, w.Append(bytesOf(45, 3)))
			ok(t, d.Arm(5))
			wantErr(t, "Checkpoint", w.Checkpoint(bytesOf(141, 9)), api.ErrDead)
			ok(t, d.Crash(nil))
			return d, opened(t, d)
		}},
	}
}

// eachChange does what is asked with each change in each scene.
func eachChange(t *testing.T, do func(t *testing.T, s scene, c change, was, whole told)) {
	t.Helper()
	for _, s := range scenes() {
		d, w := s.scene(t)
		was := tells(t, w)
		wantTold(t, opened(t, d), was)
		for _, c := range changes(was.left, s.area) {
			t.Run(s.name+", "+c.name, func(t *testing.T) { do(t, s.scene, c, was, c.whole(was, s.area)) })
		}
	}
}

// wantBroken wants a log that tells what it told, and does nothing more.
func wantBroken(t *testing.T, w *wal.Wal, was told) {
	t.Helper()
	wantTold(t, w, was)
	if !w.Broken() {
		t.Fatal("the log is not broken")
	}
	ops := w.Disk().Ops()
	wantErr(t, "Append to a broken log", w.Append(nil), api.ErrIo)
	wantErr(t, "Checkpoint of a broken log", w.Checkpoint(nil), api.ErrIo)
	if w.Disk().Ops() != ops {
		t.Fatal("a broken log does something")
	}
	wantTold(t, w, was)
}

// P4.3: each operation of an Append and of a Checkpoint fails: the disk's error, a broken log; none of those behind it is done. An Open finds the change whole, if all that makes it so was written.
func TestChangeFails(t *testing.T) {
	eachChange(t, func(t *testing.T, s scene, c change, was, whole told) {
		all := steps(t, s, c.call)
		if len(all) != c.operations() {
			t.Fatalf("%d operations; want %d", len(all), c.operations())
		}
		for n := range all {
			d, w := s(t)
			ops := d.Ops()
			ok(t, d.Fail(n))
			wantErr(t, "a change that fails", c.call(d, w), api.ErrIo)
			if d.Ops()-ops != n {
				t.Fatalf("%d operations were done; want %d", d.Ops()-ops, n)
			}
			wantBroken(t, w, was)
			want := was
			if n >= c.lastWrite() {
				want = whole
			}
			again := opened(t, d)
			wantTold(t, again, want)
			wantGoesOn(t, d, want)
			wantBroken(t, w, was)
		}
		d, w := s(t)
		ok(t, d.Fail(len(all)))
		ok(t, c.call(d, w))
		wantTold(t, w, whole)
		if w.Broken() {
			t.Fatal("a log that did not fail is broken")
		}
	})
}

// wantGoesOn wants a disk on which an Open finds want, and writes nothing, and what is put in then lasts.
func wantGoesOn(t *testing.T, d *disk.Disk, want told) {
	t.Helper()
	c := d.Copy()
	ops, before := c.Ops(), sectorsOf(t, c)
	w := opened(t, c)
	wantTold(t, w, want)
	area := (w.Disk().Len() - 2) / 2
	if c.Ops()-ops != 2+area || len(c.Pending()) != 0 || !slices.Equal(sectorsOf(t, c), before) {
		t.Fatal("the Open behind an Open writes something")
	}
	for i := 0; want.left > 0; i++ {
		b := bytesOf(50*(i%2), i)
		if fills(len(b)) > want.left {
			b = nil
		}
		ok(t, w.Append(b))
		want = want.behind(b)
		wantTold(t, w, want)
		ok(t, c.Crash(nil))
		wantTold(t, opened(t, c), want)
	}
	b := bytesOf(60, 7)
	ok(t, w.Checkpoint(b))
	wantTold(t, w, want.begun(b, area))
	ok(t, c.Crash(nil))
	wantTold(t, opened(t, c), want.begun(b, area))
}

// P4.1: each operation of a Format fails: the disk's error, and no log; the next Format does it all.
func TestFormatFails(t *testing.T) {
	all := steps(t, bare(12), formats(5))
	for n := range all {
		d, _ := bare(12)(t)
		ops := d.Ops()
		ok(t, d.Fail(n))
		if w, e := wal.Format(d, 5); w != nil || e != api.ErrIo {
			t.Fatalf("Format that fails: %v, error %d", w, e)
		}
		if d.Ops()-ops != n {
			t.Fatalf("%d operations were done; want %d", d.Ops()-ops, n)
		}
		c := d.Copy()
		_, _, want := plainOpen(sectorsOf(t, c))
		wantErr(t, "Open behind that", opens(c, nil), want)
		w, e := wal.Format(d, 5)
		ok(t, e)
		wantTold(t, w, told{left: 4})
		wantGoesOn(t, d, told{left: 4})

		d, _ = bare(12)(t)
		ok(t, d.Arm(n))
		if w, e := wal.Format(d, 5); w != nil || e != api.ErrDead {
			t.Fatalf("Format without power: %v, error %d", w, e)
		}
	}
	d, _ := bare(12)(t)
	ok(t, d.Fail(len(all)))
	ok(t, formats(5)(d, nil))
	d, _ = bare(12)(t)
	ok(t, d.Arm(len(all)))
	ok(t, formats(5)(d, nil))
}

// P4.2: each operation of an Open fails, reads, noughts and the sync: the disk's error, and no log; the next Open finds it.
func TestOpenFails(t *testing.T) {
	d, w := log(t)
	ok(t, d.Arm(2))
	wantErr(t, "Append", w.Append(bytesOf(93, 1)), api.ErrDead)
	ok(t, d.Crash([]bool{true, true}))
	ok(t, d.Write(5, api.Block{1}))
	const reads, noughts = 2 + 6, 3
	for n := range reads + noughts + 1 {
		c := d.Copy()
		ok(t, c.Fail(n))
		ops := c.Ops()
		if w, e := wal.Open(c); w != nil || e != api.ErrIo {
			t.Fatalf("Open that fails: %v, error %d", w, e)
		}
		if c.Ops()-ops != n {
			t.Fatalf("%d operations were done; want %d", c.Ops()-ops, n)
		}
		wantTold(t, opened(t, c), logTells())
		wantGoesOn(t, c, logTells())
	}
	for n := range noughts + 1 {
		c := d.Copy()
		ok(t, c.Arm(n))
		if w, e := wal.Open(c); w != nil || e != api.ErrDead {
			t.Fatalf("Open without power: %v, error %d", w, e)
		}
	}
	for _, fails := range []bool{true, false} {
		c := d.Copy()
		if fails {
			ok(t, c.Fail(reads+noughts+1))
		} else {
			ok(t, c.Arm(noughts+1))
		}
		wantTold(t, opened(t, c), logTells())
	}
}

// P4.3: a log breaks by what it writes, not by what others do, nor by what is refused.
func TestBreaks(t *testing.T) {
	d, w := log(t)
	ok(t, d.Fail(0))
	if _, e := d.Read(0); e != api.ErrIo {
		t.Fatalf("Read: error %d", e)
	}
	wantErr(t, "too long", w.Append(make([]byte, api.MaxTx+1)), api.ErrLong)
	wantErr(t, "too long", w.Checkpoint(make([]byte, api.MaxTx+1)), api.ErrLong)
	wantErr(t, "too much", w.Append(bytesOf(141, 1)), api.ErrFull)
	wantErr(t, "too much", w.Checkpoint(bytesOf(285, 1)), api.ErrFull)
	if w.Broken() {
		t.Fatal("the log is broken")
	}
	ok(t, w.Append([]byte("a")))
	wantTold(t, w, logTells().behind([]byte("a")))
	// another log of the same disk does not break by this one
	other := opened(t, d)
	ok(t, d.Fail(1))
	wantErr(t, "Append", w.Append([]byte("b")), api.ErrIo)
	if other.Broken() || !w.Broken() {
		t.Error("the wrong log is broken")
	}
}
