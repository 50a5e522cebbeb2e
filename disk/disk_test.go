package disk_test

import (
	"math"
	"slices"
	"testing"

	"gazetteer/api"
	"gazetteer/disk"
)

// block is a sector's bytes: n at both ends, so that a part of a write would be seen.
func block(n byte) api.Block {
	var b api.Block
	b[0], b[api.Sector/2], b[api.Sector-1] = n, ^n, n
	return b
}

// none is what a sector holds at first.
var none api.Block

// newDisk is a disk with so many sectors.
func newDisk(t *testing.T, sectors int) *disk.Disk {
	t.Helper()
	d, err := disk.New(sectors)
	if err != api.OK || d == nil {
		t.Fatalf("New(%d): %v, error %d", sectors, d, err)
	}
	return d
}

// want holds a call's error against the one that is wanted.
func want(t *testing.T, what string, got, wanted api.Errno) {
	t.Helper()
	if got != wanted {
		t.Errorf("%s: error %d; want %d", what, got, wanted)
	}
}

// wantHeld reads a sector.
func wantHeld(t *testing.T, d *disk.Disk, i int, wanted api.Block) {
	t.Helper()
	if b, err := d.Read(i); err != api.OK || b != wanted {
		t.Errorf("sector %d holds % x, error %d; want % x", i, b, err, wanted)
	}
}

// wantRefused reads a sector, and wants an error, and noughts beside it.
func wantRefused(t *testing.T, d *disk.Disk, i int, wanted api.Errno) {
	t.Helper()
	if b, err := d.Read(i); err != wanted || b != none {
		t.Errorf("Read(%d): % x, error %d; want noughts, error %d", i, b, err, wanted)
	}
}

// wantPending holds the pending writes against a list.
func wantPending(t *testing.T, d *disk.Disk, wanted ...int) {
	t.Helper()
	if got := d.Pending(); !slices.Equal(got, wanted) {
		t.Errorf("pending %v; want %v", got, wanted)
	}
}

// wantState holds power and Ops against what is wanted.
func wantState(t *testing.T, d *disk.Disk, dead bool, ops int) {
	t.Helper()
	if d.Dead() != dead || d.Ops() != ops {
		t.Errorf("dead %v, %d operations; want %v, %d", d.Dead(), d.Ops(), dead, ops)
	}
}

// P2.1: from 1 to 2048 sectors, of noughts.
func TestNew(t *testing.T) {
	for _, sectors := range []int{1, 2, 3, 64, 2047, 2048} {
		d := newDisk(t, sectors)
		if d.Len() != sectors {
			t.Errorf("New(%d): %d sectors", sectors, d.Len())
		}
		wantPending(t, d)
		wantState(t, d, false, 0)
		for i := range sectors {
			wantHeld(t, d, i, none)
		}
	}
}

// P2.1: none, less, and one more than there may be.
func TestNewRefuses(t *testing.T) {
	for _, sectors := range []int{0, -1, 2049, 2050, 1 << 16, math.MaxInt, math.MinInt} {
		if d, err := disk.New(sectors); err != api.ErrArg || d != nil {
			t.Errorf("New(%d): %v, error %d; want none, error %d", sectors, d, err, api.ErrArg)
		}
	}
}

// P2.1, P2.4: a new disk is neither armed nor set to fail.
func TestNewGoesOn(t *testing.T) {
	d := newDisk(t, 2)
	for n := range 300 {
		want(t, "Write", d.Write(n%2, block(byte(n))), api.OK)
		want(t, "Sync", d.Sync(), api.OK)
		wantHeld(t, d, n%2, block(byte(n)))
	}
	wantState(t, d, false, 900)
}

// P2.1: two disks share nothing.
func TestNewDisksAreTheirOwn(t *testing.T) {
	a, b := newDisk(t, 2), newDisk(t, 2)
	want(t, "Write", a.Write(0, block(1)), api.OK)
	want(t, "Arm", a.Arm(0), api.OK)
	want(t, "Fail", a.Fail(9), api.OK)
	want(t, "Sync", a.Sync(), api.ErrDead)
	wantHeld(t, b, 0, none)
	wantPending(t, b)
	wantState(t, b, false, 1)
}

// P2.2: the first and the last sector, and those beside them.
func TestSectorsThereAre(t *testing.T) {
	for _, sectors := range []int{1, 2, 3, 2047, 2048} {
		d := newDisk(t, sectors)
		ends := []int{0, sectors / 2, sectors - 1}
		for n, i := range ends {
			want(t, "Write", d.Write(i, block(byte(n+1))), api.OK)
			wantHeld(t, d, i, block(byte(n+1)))
		}
		wantPending(t, d, ends...)
		want(t, "Sync", d.Sync(), api.OK)
		wantHeld(t, d, sectors-1, block(3))
		for i := 1; i < sectors-1; i++ {
			if i != sectors/2 {
				wantHeld(t, d, i, none)
			}
		}
	}
}

// P2.2: a sector that there is not.
func TestSectorsThereAreNot(t *testing.T) {
	for _, sectors := range []int{1, 4, 2048} {
		d := newDisk(t, sectors)
		for _, i := range []int{-1, sectors, sectors + 1, 2049, math.MaxInt, math.MinInt} {
			want(t, "Write", d.Write(i, block(1)), api.ErrArg)
			wantRefused(t, d, i, api.ErrArg)
		}
		wantPending(t, d)
		wantState(t, d, false, 0)
		wantHeld(t, d, 0, none)
		wantHeld(t, d, sectors-1, none)
	}
}

// P2.2: what is asked of a sector that there is not is no operation: it neither brings a failing nor the power's end nearer.
func TestSectorsThereAreNotCount(t *testing.T) {
	d := newDisk(t, 4)
	want(t, "Arm", d.Arm(1), api.OK)
	want(t, "Fail", d.Fail(1), api.OK)
	for range 3 {
		want(t, "Write", d.Write(4, block(1)), api.ErrArg)
		wantRefused(t, d, -1, api.ErrArg)
	}
	want(t, "Write", d.Write(3, block(1)), api.OK)
	want(t, "Write", d.Write(4, block(1)), api.ErrArg) // ahead of ErrIo
	wantRefused(t, d, 4, api.ErrArg)
	want(t, "Write", d.Write(3, block(2)), api.ErrIo)
	want(t, "Write", d.Write(4, block(1)), api.ErrArg) // ahead of the power
	want(t, "Write", d.Write(3, block(2)), api.ErrDead)
	want(t, "Write", d.Write(4, block(1)), api.ErrDead) // without power that is told first
	wantRefused(t, d, -1, api.ErrDead)
	wantState(t, d, true, 1)
}

// P2.2: a sector holds what the last write of it said, pending or not, all of it.
func TestWriteAndRead(t *testing.T) {
	d := newDisk(t, 3)
	full := api.Block{}
	for i := range full {
		full[i] = byte(i + 1)
	}
	want(t, "Write", d.Write(1, full), api.OK)
	wantHeld(t, d, 1, full)
	want(t, "Write", d.Write(1, block(2)), api.OK)
	wantHeld(t, d, 1, block(2))
	want(t, "Sync", d.Sync(), api.OK)
	wantHeld(t, d, 1, block(2))
	want(t, "Write", d.Write(1, none), api.OK)
	wantHeld(t, d, 1, none)
	wantHeld(t, d, 0, none)
	wantHeld(t, d, 2, none)
	wantPending(t, d, 1)
}

// P2.2, P2.7: behind a sync nothing is pending, and what sectors hold is safe.
func TestSync(t *testing.T) {
	d := newDisk(t, 3)
	want(t, "Sync of nothing", d.Sync(), api.OK)
	want(t, "Write", d.Write(0, block(1)), api.OK)
	want(t, "Write", d.Write(2, block(2)), api.OK)
	want(t, "Write", d.Write(0, block(3)), api.OK)
	want(t, "Sync", d.Sync(), api.OK)
	wantPending(t, d)
	want(t, "Sync anew", d.Sync(), api.OK)
	want(t, "Write", d.Write(2, block(4)), api.OK)
	want(t, "Crash", d.Crash(nil), api.OK)
	wantHeld(t, d, 0, block(3))
	wantHeld(t, d, 1, none)
	wantHeld(t, d, 2, block(2))
}

// P2.3: in their order, each as often as it was written, also what was there before.
func TestPending(t *testing.T) {
	d := newDisk(t, 4)
	for _, i := range []int{3, 1, 1, 0, 3, 2, 1} {
		want(t, "Write", d.Write(i, none), api.OK)
	}
	wantPending(t, d, 3, 1, 1, 0, 3, 2, 1)
	wantHeld(t, d, 3, none)
	wantPending(t, d, 3, 1, 1, 0, 3, 2, 1)
	want(t, "Sync", d.Sync(), api.OK)
	want(t, "Write", d.Write(2, block(1)), api.OK)
	wantPending(t, d, 2)
	want(t, "Crash", d.Crash(nil), api.OK)
	wantPending(t, d)
	want(t, "Write", d.Write(1, block(1)), api.OK)
	wantPending(t, d, 1)
}

// P2.3: those that failed, or that the power did not let through, are not pending; what is pending stays so till the crash.
func TestPendingWithoutPower(t *testing.T) {
	d := newDisk(t, 4)
	want(t, "Arm", d.Arm(2), api.OK)
	want(t, "Fail", d.Fail(1), api.OK)
	want(t, "Write", d.Write(1, block(1)), api.OK)
	want(t, "Write", d.Write(2, block(2)), api.ErrIo)
	want(t, "Write", d.Write(3, block(3)), api.OK)
	want(t, "Write", d.Write(0, block(4)), api.ErrDead)
	wantPending(t, d, 1, 3)
	want(t, "Sync", d.Sync(), api.ErrDead)
	wantPending(t, d, 1, 3)
}

// P2.3, R3: a list is new each time.
func TestPendingIsNew(t *testing.T) {
	d := newDisk(t, 4)
	want(t, "Write", d.Write(1, block(1)), api.OK)
	want(t, "Write", d.Write(2, block(2)), api.OK)
	list := d.Pending()
	list[0], list[1] = 3, 3
	_ = append(list[:0], 0)
	wantPending(t, d, 1, 2)
	want(t, "Crash", d.Crash([]bool{true, true}), api.OK)
	wantHeld(t, d, 1, block(1))
	wantHeld(t, d, 2, block(2))
	wantHeld(t, d, 3, none)
}

// P2.4: armed with n, n more writes and syncs are done, and the power goes with the one behind.
func TestArm(t *testing.T) {
	for n := range 6 {
		for last := range 2 { // a write or a sync, at which the power goes
			d := newDisk(t, 2)
			want(t, "Write", d.Write(0, block(100)), api.OK)
			want(t, "Arm", d.Arm(n), api.OK)
			pending := []int{0}
			for k := range n {
				wantHeld(t, d, 1, none) // brings nothing nearer
				if k%2 == 1 {
					want(t, "Sync", d.Sync(), api.OK)
					pending = nil
				} else {
					want(t, "Write", d.Write(0, block(byte(k))), api.OK)
					pending = append(pending, 0)
				}
				wantState(t, d, false, 2*k+3)
			}
			if last == 0 {
				want(t, "Write", d.Write(1, block(9)), api.ErrDead)
			} else {
				want(t, "Sync", d.Sync(), api.ErrDead)
			}
			wantState(t, d, true, 2*n+1)
			wantPending(t, d, pending...)
			wantRefused(t, d, 0, api.ErrDead)
			want(t, "Write", d.Write(0, block(9)), api.ErrDead)
			want(t, "Sync", d.Sync(), api.ErrDead)
			wantState(t, d, true, 2*n+1)
		}
	}
}

// P2.4: below 0 a disk is not armed any more; a later number is the one that holds.
func TestArmAnew(t *testing.T) {
	for _, off := range []int{-1, -2, math.MinInt} {
		d := newDisk(t, 2)
		want(t, "Arm below 0 of a disk that is not armed", d.Arm(off), api.OK)
		want(t, "Arm", d.Arm(0), api.OK)
		want(t, "Arm below 0", d.Arm(off), api.OK)
		for range 5 {
			want(t, "Write", d.Write(1, block(1)), api.OK)
		}
		want(t, "Arm with many", d.Arm(math.MaxInt), api.OK)
		want(t, "Sync", d.Sync(), api.OK)
		want(t, "Arm", d.Arm(1), api.OK)
		want(t, "Write", d.Write(1, block(1)), api.OK)
		want(t, "Arm anew", d.Arm(1), api.OK)
		want(t, "Sync", d.Sync(), api.OK)
		want(t, "Sync", d.Sync(), api.ErrDead)
	}
}

// P2.4: with n a disk fails at the operation behind n more, whatever these are, and at that one alone.
func TestFail(t *testing.T) {
	done := func(t *testing.T, d *disk.Disk, k int, wanted api.Errno) {
		t.Helper()
		switch k % 3 {
		case 0:
			want(t, "Write", d.Write(1, block(byte(k+1))), wanted)
		case 1:
			want(t, "Sync", d.Sync(), wanted)
		default:
			if b, err := d.Read(0); err != wanted || b != none {
				t.Errorf("Read: % x, error %d; want noughts, error %d", b, err, wanted)
			}
		}
	}
	for n := range 7 {
		for last := range 3 {
			d := newDisk(t, 2)
			want(t, "Fail", d.Fail(n), api.OK)
			for k := range n {
				done(t, d, k, api.OK)
			}
			pending := d.Pending()
			done(t, d, last, api.ErrIo)
			wantPending(t, d, pending...)
			wantState(t, d, false, n)
			for k := range 9 {
				done(t, d, k, api.OK)
			}
			wantState(t, d, false, n+9)
		}
	}
}

// P2.4: below 0 a disk is not set to fail any more; a later number is the one that holds.
func TestFailAnew(t *testing.T) {
	for _, off := range []int{-1, -2, math.MinInt} {
		d := newDisk(t, 2)
		want(t, "Fail below 0 of a disk that is not set to", d.Fail(off), api.OK)
		want(t, "Fail", d.Fail(0), api.OK)
		want(t, "Fail below 0", d.Fail(off), api.OK)
		for range 5 {
			want(t, "Write", d.Write(1, block(1)), api.OK)
		}
		want(t, "Fail with many", d.Fail(math.MaxInt), api.OK)
		want(t, "Sync", d.Sync(), api.OK)
		want(t, "Fail", d.Fail(1), api.OK)
		wantHeld(t, d, 1, block(1))
		want(t, "Fail anew", d.Fail(1), api.OK)
		wantHeld(t, d, 1, block(1))
		wantRefused(t, d, 1, api.ErrIo)
		wantHeld(t, d, 1, block(1))
	}
}

// P2.2, P2.4, P2.7: a failing operation of an armed disk uses up no power, also where the power would go with it.
func TestFailWhileArmed(t *testing.T) {
	for n := range 3 {
		d := newDisk(t, 2)
		want(t, "Arm", d.Arm(n), api.OK)
		want(t, "Fail", d.Fail(0), api.OK)
		want(t, "Write", d.Write(0, block(9)), api.ErrIo)
		wantState(t, d, false, 0)
		wantPending(t, d)
		want(t, "Fail", d.Fail(0), api.OK)
		want(t, "Sync", d.Sync(), api.ErrIo)
		for k := range n {
			want(t, "Write", d.Write(0, block(byte(k+1))), api.OK)
		}
		want(t, "Fail", d.Fail(0), api.OK)
		want(t, "Sync", d.Sync(), api.ErrIo)
		wantState(t, d, false, n)
		want(t, "Sync", d.Sync(), api.ErrDead)
		wantState(t, d, true, n)
	}
}

// P2.4: neither Arm nor Fail of a disk without power, whatever the number; behind the crash neither holds.
func TestSetWithoutPower(t *testing.T) {
	d := newDisk(t, 2)
	want(t, "Arm", d.Arm(0), api.OK)
	want(t, "Write", d.Write(0, block(1)), api.ErrDead)
	for _, n := range []int{-1, 0, 1, math.MaxInt, math.MinInt} {
		want(t, "Arm", d.Arm(n), api.ErrDead)
		want(t, "Fail", d.Fail(n), api.ErrDead)
	}
	wantState(t, d, true, 0)
	want(t, "Crash", d.Crash(nil), api.OK)
	wantState(t, d, false, 0)
	for range 3 {
		want(t, "Write", d.Write(0, block(1)), api.OK)
	}
}

// P2.4: neither Arm nor Fail is an operation, and neither touches the other.
func TestSetsAreNoOperations(t *testing.T) {
	d := newDisk(t, 2)
	want(t, "Fail", d.Fail(1), api.OK)
	want(t, "Arm", d.Arm(1), api.OK)
	want(t, "Arm", d.Arm(-1), api.OK)
	want(t, "Arm", d.Arm(0), api.OK)
	wantHeld(t, d, 0, none)
	wantRefused(t, d, 0, api.ErrIo)
	want(t, "Fail", d.Fail(5), api.OK)
	want(t, "Fail", d.Fail(-1), api.OK)
	want(t, "Write", d.Write(0, block(1)), api.ErrDead)
	wantState(t, d, true, 1)
}

// P2.5: which of the pending writes live on, for every list as long as they are, and the shorter and longer ones.
func TestCrashKeeps(t *testing.T) {
	writes := []int{0, 1, 0, 2, 1}
	for bits := range 1 << 7 {
		for length := range 8 {
			keep := make([]bool, length)
			for i := range keep {
				keep[i] = bits>>i&1 == 1
			}
			d := newDisk(t, 4)
			want(t, "Write", d.Write(1, block(50)), api.OK)
			want(t, "Sync", d.Sync(), api.OK)
			wanted := []api.Block{none, block(50), none, none}
			for n, i := range writes {
				want(t, "Write", d.Write(i, block(byte(n+1))), api.OK)
				if n < length && keep[n] {
					wanted[i] = block(byte(n + 1))
				}
			}
			was := slices.Clone(keep)
			want(t, "Crash", d.Crash(keep), api.OK)
			if !slices.Equal(keep, was) {
				t.Errorf("a crash changed its list to %v", keep)
			}
			wantPending(t, d)
			wantState(t, d, false, 7)
			want(t, "Crash anew", d.Crash([]bool{true, true}), api.OK) // what lives on is safe
			for i, b := range wanted {
				wantHeld(t, d, i, b)
			}
		}
	}
}

// P2.5: the room behind a list's end is no part of it.
func TestCrashWithRoom(t *testing.T) {
	d := newDisk(t, 2)
	want(t, "Write", d.Write(0, block(1)), api.OK)
	want(t, "Write", d.Write(1, block(2)), api.OK)
	keep := []bool{true, true, true}
	want(t, "Crash", d.Crash(keep[:1]), api.OK)
	wantHeld(t, d, 0, block(1))
	wantHeld(t, d, 1, none)
	if !slices.Equal(keep, []bool{true, true, true}) {
		t.Errorf("a crash changed the room behind its list: %v", keep)
	}
}

// P2.5: a crash of a disk without power brings it again; what was pending when it went is what may live on.
func TestCrashWithoutPower(t *testing.T) {
	d := newDisk(t, 4)
	want(t, "Arm", d.Arm(2), api.OK)
	want(t, "Write", d.Write(0, block(1)), api.OK)
	want(t, "Write", d.Write(1, block(2)), api.OK)
	want(t, "Write", d.Write(2, block(3)), api.ErrDead)
	want(t, "Write", d.Write(3, block(4)), api.ErrDead)
	want(t, "Crash", d.Crash([]bool{false, true, true, true}), api.OK)
	wantHeld(t, d, 0, none)
	wantHeld(t, d, 1, block(2))
	wantHeld(t, d, 2, none)
	wantHeld(t, d, 3, none)
	for range 5 {
		want(t, "Write", d.Write(3, block(5)), api.OK) // not armed any more
	}
	wantState(t, d, false, 11)
}

// P2.5: behind a crash with power a disk is neither armed nor set to fail.
func TestCrashWithPower(t *testing.T) {
	d := newDisk(t, 2)
	want(t, "Arm", d.Arm(0), api.OK)
	want(t, "Fail", d.Fail(0), api.OK)
	want(t, "Crash", d.Crash(nil), api.OK)
	wantState(t, d, false, 0)
	want(t, "Write", d.Write(0, block(1)), api.OK)
	want(t, "Sync", d.Sync(), api.OK)
	wantHeld(t, d, 0, block(1))
}

// P2.6: only what was done counts, ever.
func TestOps(t *testing.T) {
	d := newDisk(t, 2)
	want(t, "Write", d.Write(0, block(1)), api.OK)
	want(t, "Sync", d.Sync(), api.OK)
	wantHeld(t, d, 0, block(1))
	wantState(t, d, false, 3)
	want(t, "Write", d.Write(2, block(1)), api.ErrArg)
	want(t, "Fail", d.Fail(0), api.OK)
	wantRefused(t, d, 0, api.ErrIo)
	d.Pending()
	d.Len()
	d.Copy()
	wantState(t, d, false, 3)
	want(t, "Crash", d.Crash(nil), api.OK)
	wantState(t, d, false, 3)
	want(t, "Arm", d.Arm(0), api.OK)
	want(t, "Write", d.Write(0, block(1)), api.ErrDead)
	wantRefused(t, d, 0, api.ErrDead)
	wantState(t, d, true, 3)
	want(t, "Crash", d.Crash(nil), api.OK)
	want(t, "Sync", d.Sync(), api.OK)
	wantState(t, d, false, 4)
}

// P2.6: a copy has what the disk has, and neither tells what comes to the other.
func TestCopy(t *testing.T) {
	d := newDisk(t, 3)
	want(t, "Write", d.Write(0, block(1)), api.OK)
	want(t, "Sync", d.Sync(), api.OK)
	want(t, "Write", d.Write(1, block(2)), api.OK)
	want(t, "Write", d.Write(2, block(3)), api.OK)
	want(t, "Arm", d.Arm(2), api.OK)
	want(t, "Fail", d.Fail(3), api.OK)
	a, b := d.Copy(), d.Copy()
	if a == d || a == b || a.Len() != 3 {
		t.Fatal("a copy is no disk of its own")
	}
	wantState(t, a, false, 4)
	wantPending(t, a, 1, 2)

	want(t, "Write", a.Write(1, block(4)), api.OK)
	want(t, "Write", b.Write(0, block(5)), api.OK)
	wantPending(t, a, 1, 2, 1)
	wantPending(t, b, 1, 2, 0)
	wantPending(t, d, 1, 2)
	wantHeld(t, a, 0, block(1))
	wantHeld(t, b, 1, block(2))
	wantHeld(t, d, 1, block(2))
	wantHeld(t, d, 0, block(1))
	want(t, "Crash", a.Crash([]bool{false, true, true}), api.OK)
	want(t, "Sync", b.Sync(), api.OK)
	want(t, "Sync", b.Sync(), api.ErrIo)
	want(t, "Sync", b.Sync(), api.ErrDead)
	wantState(t, a, false, 6)
	wantState(t, b, true, 7)
	wantHeld(t, a, 1, block(4))
	wantHeld(t, a, 2, block(3))

	wantState(t, d, false, 6)
	want(t, "Sync", d.Sync(), api.OK)
	want(t, "Sync", d.Sync(), api.ErrIo)
	want(t, "Crash", d.Crash(nil), api.OK)
	wantHeld(t, d, 0, block(1))
	wantHeld(t, d, 1, block(2))
	wantHeld(t, d, 2, block(3))
}

// P2.6: a copy of a disk without power has none.
func TestCopyWithoutPower(t *testing.T) {
	d := newDisk(t, 2)
	want(t, "Arm", d.Arm(1), api.OK)
	want(t, "Write", d.Write(0, block(1)), api.OK)
	want(t, "Sync", d.Sync(), api.ErrDead)
	c := d.Copy()
	wantState(t, c, true, 1)
	wantPending(t, c, 0)
	want(t, "Crash", c.Crash([]bool{true}), api.OK)
	wantHeld(t, c, 0, block(1))
	wantState(t, d, true, 1)
	want(t, "Crash", d.Crash(nil), api.OK)
	wantHeld(t, d, 0, none)
}

// P2.1 to P2.6, R4: a disk that is not there, also where something else is wrong.
func TestNil(t *testing.T) {
	var d *disk.Disk
	if d.Len() != 0 || d.Ops() != 0 || d.Dead() || len(d.Pending()) != 0 || d.Copy() != nil {
		t.Error("a nil disk tells something")
	}
	for _, n := range []int{0, -1, math.MaxInt, math.MinInt} {
		wantRefused(t, d, n, api.ErrNil)
		want(t, "Write", d.Write(n, block(1)), api.ErrNil)
		want(t, "Arm", d.Arm(n), api.ErrNil)
		want(t, "Fail", d.Fail(n), api.ErrNil)
	}
	want(t, "Sync", d.Sync(), api.ErrNil)
	want(t, "Crash", d.Crash(nil), api.ErrNil)
	want(t, "Crash", d.Crash([]bool{true}), api.ErrNil)
}
