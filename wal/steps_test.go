package wal_test

import (
	"slices"
	"testing"

	"gazetteer/api"
	"gazetteer/disk"
	"gazetteer/wal"
)

// scene makes a disk, and a log on it where one is there; each time the same.
type scene func(t *testing.T) (*disk.Disk, *wal.Wal)

// call is what is done in a scene.
type call func(d *disk.Disk, w *wal.Wal) api.Errno

func appends(b []byte) call {
	return func(_ *disk.Disk, w *wal.Wal) api.Errno { return w.Append(b) }
}

func checkpoints(b []byte) call {
	return func(_ *disk.Disk, w *wal.Wal) api.Errno { return w.Checkpoint(b) }
}

func formats(area int) call {
	return func(d *disk.Disk, _ *wal.Wal) api.Errno {
		_, e := wal.Format(d, area)
		return e
	}
}

func opens(d *disk.Disk, _ *wal.Wal) api.Errno {
	_, e := wal.Open(d)
	return e
}

// step is a write of a sector; or a sync, if the sector is below 0.
type step struct {
	sector int
	holds  api.Block
}

var synced = step{sector: -1}

// writes are the steps that write sectors, one behind the other from one on.
func writes(from int, sectors ...api.Block) []step {
	list := make([]step, len(sectors))
	for i, b := range sectors {
		list[i] = step{from + i, b}
	}
	return list
}

// steps tells what a call writes and syncs, in order, if it does anything: the power goes behind one step, behind two, and so on; what is pending then tells what was done last.
func steps(t *testing.T, s scene, c call) []step {
	t.Helper()
	d, _ := s(t)
	was := d.Pending()
	var list []step
	for n := 1; ; n++ {
		d, w := s(t)
		ok(t, d.Arm(n))
		e := c(d, w)
		is := d.Pending()
		switch {
		case len(is) == len(was)+1 && slices.Equal(is[:len(was)], was):
			last := is[len(was)]
			list = append(list, step{last, sectorsOf(t, d)[last]})
		case len(is) == 0:
			list = append(list, synced)
		default:
			t.Fatalf("pending %v, then %v", was, is)
		}
		was = is
		if !d.Dead() {
			ok(t, e)
			return list
		}
		wantErr(t, "without power", e, api.ErrDead)
	}
}

// wantSteps holds what a call writes and syncs against what it must, and how many operations it does in all, with so many reads.
func wantSteps(t *testing.T, s scene, c call, reads int, want ...step) {
	t.Helper()
	if len(want) > 0 {
		if got := steps(t, s, c); !slices.Equal(got, want) {
			t.Errorf("steps %v; want %v", sectorsIn(got), sectorsIn(want))
		}
	}
	d, w := s(t)
	was := d.Ops()
	ok(t, c(d, w))
	if got := d.Ops() - was; got != reads+len(want) {
		t.Errorf("%d operations; want %d", got, reads+len(want))
	}
}

// sectorsIn tells the sectors of steps, which are easier to read than what they hold.
func sectorsIn(list []step) []int {
	var sectors []int
	for _, s := range list {
		sectors = append(sectors, s.sector)
	}
	return sectors
}

// bare is a disk of so many sectors, none of which holds only noughts, with something pending.
func bare(sectors int) scene {
	return func(t *testing.T) (*disk.Disk, *wal.Wal) {
		d := newDisk(t, sectors)
		for i := range sectors {
			ok(t, d.Write(i, api.Block(bytesOf(64, i))))
		}
		return d, nil
	}
}

// log is a log with areas of 6, of turn 3, with two transactions; the sectors that they left hold what was there in turn 1.
func log(t *testing.T) (*disk.Disk, *wal.Wal) {
	d, w := formatted(t, 6)
	ok(t, w.Checkpoint(bytesOf(1, 1)))
	ok(t, w.Append(bytesOf(200, 2)))
	ok(t, w.Checkpoint(bytesOf(100, 3)))
	ok(t, w.Append(bytesOf(100, 4)))
	ok(t, w.Checkpoint(bytesOf(2, 5)))
	ok(t, w.Append(nil))
	ok(t, w.Append(bytesOf(44, 6)))
	return d, w
}

// logTells is what log tells.
func logTells() told {
	return told{turn: 3, snapshot: bytesOf(2, 5), txs: [][]byte{nil, bytesOf(44, 6)}, left: 3}
}

// P4.1: noughts to all sectors that the log has, in order; a sync; the snapshot; a sync; the head; a sync. The disk's other sectors stay.
func TestFormatSteps(t *testing.T) {
	want := writes(0, make([]api.Block, 12)...)
	want = append(want, synced)
	want = append(want, writes(2, plainFrame(0, 0, nil)...)...)
	want = append(want, synced, step{0, plainHead(0, 5)}, synced)
	wantSteps(t, bare(12), formats(5), 0, want...)
	wantSteps(t, bare(15), formats(5), 0, want...)

	d, _ := bare(15)(t)
	ok(t, formats(5)(d, nil))
	if len(d.Pending()) != 0 {
		t.Error("something is pending behind a Format")
	}
	for i, b := range sectorsOf(t, d)[12:] {
		if b != api.Block(bytesOf(64, 12+i)) {
			t.Errorf("Format changed sector %d, which is not the log's", 12+i)
		}
	}
}

// P4.3: an Append writes its parts behind the chain, and syncs.
func TestAppendSteps(t *testing.T) {
	for _, n := range []int{0, 1, 43, 44, 45, 92, 93, 140} {
		b := bytesOf(n, 7)
		wantSteps(t, log, appends(b), 0, append(writes(8+3, plainFrame(3, 3, b)...), synced)...)
	}
	fresh := func(t *testing.T) (*disk.Disk, *wal.Wal) { return formatted(t, 6) }
	wantSteps(t, fresh, appends([]byte{0, 0}), 0, append(writes(3, plainFrame(0, 1, []byte{0, 0})...), synced)...)
}

// P4.3: a Checkpoint writes the snapshot to the other area, syncs, writes the head, and syncs.
func TestCheckpointSteps(t *testing.T) {
	for _, n := range []int{0, 1, 44, 45, 92, 93, 284} {
		b := bytesOf(n, 8)
		wantSteps(t, log, checkpoints(b), 0, append(writes(2, plainFrame(4, 0, b)...), synced, step{0, plainHead(4, 6)}, synced)...)
	}
	fresh := func(t *testing.T) (*disk.Disk, *wal.Wal) { return formatted(t, 6) }
	wantSteps(t, fresh, checkpoints([]byte{1}), 0, append(writes(8, plainFrame(1, 0, []byte{1})...), synced, step{1, plainHead(1, 6)}, synced)...)
}

// P4.2: an Open reads both heads and all of the area; it writes nothing, where nothing is behind the chain, and nothing pending.
func TestOpenSteps(t *testing.T) {
	fresh := func(t *testing.T) (*disk.Disk, *wal.Wal) { return formatted(t, 6) }
	wantSteps(t, fresh, opens, 2+6)
	full := func(t *testing.T) (*disk.Disk, *wal.Wal) {
		d, w := formatted(t, 6)
		ok(t, w.Append(bytesOf(44+4*48, 0)))
		return d, w
	}
	wantSteps(t, full, opens, 2+6)
}

// P4.2: an Open lays noughts over each sector behind the chain that is not all noughts, in order, over no other, and syncs.
func TestOpenStepsOverWhatIsBehind(t *testing.T) {
	nought := api.Block{}
	wantSteps(t, log, opens, 2+6, step{11, nought}, step{12, nought}, step{13, nought}, synced)

	last := api.Block{63: 1}
	spots := func(t *testing.T) (*disk.Disk, *wal.Wal) {
		d, w := formatted(t, 6)
		for _, i := range []int{4, 6, 7, 8, 13} {
			ok(t, d.Write(i, last))
		}
		ok(t, d.Sync())
		return d, w
	}
	wantSteps(t, spots, opens, 2+6, step{4, nought}, step{6, nought}, step{7, nought}, synced)
}

// P4.2: something pending, of whatever sector, is synced by an Open; noughts go ahead of that.
func TestOpenStepsWithPending(t *testing.T) {
	nought := api.Block{}
	for _, i := range []int{3, 9, 14} {
		// noughts where there are noughts: nothing is to be laid over
		pending := func(t *testing.T) (*disk.Disk, *wal.Wal) {
			d := newDisk(t, 15)
			w, e := wal.Format(d, 6)
			ok(t, e)
			ok(t, d.Write(i, nought))
			return d, w
		}
		wantSteps(t, pending, opens, 2+6, synced)
	}
	both := func(t *testing.T) (*disk.Disk, *wal.Wal) {
		d, w := formatted(t, 6)
		ok(t, d.Write(7, api.Block{1}))
		return d, w
	}
	wantSteps(t, both, opens, 2+6, step{7, nought}, synced)
	frame := func(t *testing.T) (*disk.Disk, *wal.Wal) {
		d, w := formatted(t, 6)
		ok(t, d.Write(3, plainFrame(0, 1, []byte{9})[0]))
		return d, w
	}
	wantSteps(t, frame, opens, 2+6, synced)
	d, _ := frame(t)
	wantTold(t, opened(t, d), told{txs: [][]byte{{9}}, left: 4})
}
