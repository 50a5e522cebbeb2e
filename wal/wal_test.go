package wal_test

import (
	"bytes"
	"math"
	"slices"
	"testing"

	"gazetteer/api"
	"gazetteer/wal"
)

// P4.1 to P4.4: the chapter's examples.
func TestExamples(t *testing.T) {
	d, w := formatted(t, 4)
	wantTold(t, w, told{left: 3})
	wantErr(t, "Append of 44 bytes", w.Append(make([]byte, 44)), api.OK)
	wantErr(t, "Append of 45 bytes", w.Append(make([]byte, 45)), api.OK)
	wantErr(t, "Append of 1 byte", w.Append([]byte{7}), api.ErrFull)
	wantTold(t, w, told{txs: [][]byte{make([]byte, 44), make([]byte, 45)}})
	wantErr(t, "Checkpoint", w.Checkpoint([]byte{5}), api.OK)
	wantTold(t, w, told{turn: 1, snapshot: []byte{5}, left: 3})

	d, w = formatted(t, 4)
	ok(t, d.Arm(1))
	wantErr(t, "Append without power", w.Append(make([]byte, 45)), api.ErrDead)
	ok(t, d.Crash([]bool{true, true}))
	w = opened(t, d)
	if w.Len() != 0 || w.Left() != 3 {
		t.Errorf("Len %d, Left %d; want 0, 3", w.Len(), w.Left())
	}
	for i, b := range sectorsOf(t, d)[3:] {
		if b != (api.Block{}) {
			t.Errorf("sector %d holds something", 3+i)
		}
	}

	w, e := wal.Open(newDisk(t, 10))
	if e != api.ErrWal || w != nil {
		t.Errorf("Open of a new disk: %v, error %d", w, e)
	}
}

// P4.1 to P4.4, R4: a nil disk goes ahead of all else; a nil log tells nothing.
func TestNil(t *testing.T) {
	for _, area := range []int{4, 3, -1, 1001} {
		if w, e := wal.Format(nil, area); w != nil || e != api.ErrNil {
			t.Errorf("Format of nil: %v, error %d", w, e)
		}
	}
	if w, e := wal.Open(nil); w != nil || e != api.ErrNil {
		t.Errorf("Open of nil: %v, error %d", w, e)
	}
	var w *wal.Wal
	for _, n := range []int{0, 1, api.MaxTx, api.MaxTx + 1} {
		wantErr(t, "Append of nil", w.Append(make([]byte, n)), api.ErrNil)
		wantErr(t, "Checkpoint of nil", w.Checkpoint(make([]byte, n)), api.ErrNil)
	}
	if b := w.Snapshot(); len(b) != 0 {
		t.Errorf("Snapshot of nil: % x", b)
	}
	for i, b := range w.All() {
		t.Errorf("All of nil: %d, % x", i, b)
	}
	if w.Len() != 0 || w.Left() != 0 || w.Turn() != 0 || w.Broken() || w.Disk() != nil {
		t.Errorf("nil: Len %d, Left %d, Turn %d, Broken %t, Disk %v", w.Len(), w.Left(), w.Turn(), w.Broken(), w.Disk())
	}
}

// P4.1: areas at their limits, and disks that have just room, or one sector too few.
func TestFormatArguments(t *testing.T) {
	for _, c := range []struct {
		sectors, area int
		want          api.Errno
	}{
		{2048, 3, api.ErrArg},
		{2048, 4, api.OK},
		{2048, 1000, api.OK},
		{2048, 1001, api.ErrArg},
		{10, 4, api.OK},
		{9, 4, api.ErrArg},
		{8, 3, api.ErrArg},
		{12, 5, api.OK},
		{11, 5, api.ErrArg},
		{2002, 1000, api.OK},
		{2001, 1000, api.ErrArg},
		{1, 4, api.ErrArg},
		{2048, 0, api.ErrArg},
		{2048, -1, api.ErrArg},
		{2048, -4, api.ErrArg},
		{2048, math.MaxInt, api.ErrArg},
		{2048, math.MaxInt/2 + 5, api.ErrArg},
		{2048, math.MinInt, api.ErrArg},
		{2048, math.MinInt/2 + 4, api.ErrArg},
	} {
		d := newDisk(t, c.sectors)
		w, e := wal.Format(d, c.area)
		if e != c.want {
			t.Errorf("Format of %d sectors with areas of %d: error %d; want %d", c.sectors, c.area, e, c.want)
			continue
		}
		if e != api.OK {
			if w != nil || d.Ops() != 0 {
				t.Errorf("Format of %d sectors with areas of %d is refused, and answers %v with %d operations", c.sectors, c.area, w, d.Ops())
			}
			continue
		}
		wantTold(t, w, told{left: c.area - 1})
		wantTold(t, opened(t, d), told{left: c.area - 1})
		if w.Disk() != d || w.Broken() {
			t.Errorf("Disk %v, Broken %t", w.Disk(), w.Broken())
		}
	}
}

// P4.1, P4.3: what stands on the disk, byte by byte.
func TestBytes(t *testing.T) {
	d, w := formatted(t, 4)
	ok(t, w.Append(bytesOf(45, 0)))
	ok(t, w.Checkpoint([]byte{1}))
	want := make([]api.Block, 10)
	copy(want[0][:], "gazetwal\x00\x00\x00\x00\x00\x00\x00\x04")
	copy(want[0][60:], "\x1f\xa9\x8d\x3a")
	copy(want[1][:], "gazetwal\x00\x00\x00\x01\x00\x00\x00\x04")
	copy(want[1][60:], "\xd8\x2f\x33\x38")
	copy(want[2][:], "\x00\x00\x00\x00\x00\x00\x00\x00\x00\x00\x00\x01\x9d\x8d\xbb\x33")
	copy(want[3][:], "\x00\x00\x00\x00\x00\x00\x00\x01\x00\x00\x00\x02\x9d\x33\x6f\x41\x00\x00\x00\x2d")
	copy(want[3][20:], bytesOf(44, 0))
	copy(want[4][:], "\x00\x00\x00\x00\x00\x00\x00\x01\x00\x01\x00\x02\x26\x1d\x7c\x8f\x2d")
	copy(want[6][:], "\x00\x00\x00\x01\x00\x00\x00\x00\x00\x00\x00\x01\xea\x65\xc6\xda\x00\x00\x00\x01\x01")
	for i, b := range sectorsOf(t, d) {
		if b != want[i] {
			t.Errorf("sector %d: % x; want % x", i, b, want[i])
		}
	}
}

// P4.3: what fills just what is left goes in, what fills one sector more does not, and changes nothing.
func TestAppendFull(t *testing.T) {
	for _, area := range []int{4, 7} {
		for ahead := range area {
			left := area - 1 - ahead
			d, w := formatted(t, area)
			for range ahead {
				ok(t, w.Append(nil))
			}
			was, ops := tells(t, w), d.Ops()
			wantErr(t, "one sector more", w.Append(make([]byte, max(0, 48*left-4+1))), api.ErrFull)
			wantTold(t, w, was)
			if w.Broken() || d.Ops() != ops {
				t.Errorf("what is refused breaks the log (%t), or does %d operations", w.Broken(), d.Ops()-ops)
			}
			if left == 0 {
				continue
			}
			b := bytesOf(48*left-4, 3)
			ok(t, w.Append(b))
			wantTold(t, w, was.behind(b))
			wantTold(t, opened(t, d), was.behind(b))
			wantErr(t, "none is left", w.Append(nil), api.ErrFull)
			ok(t, w.Checkpoint(nil))
		}
	}
}

// P4.3: a snapshot that fills just an area goes in, one sector more does not; what is left of the area that counts does not matter.
func TestCheckpointFull(t *testing.T) {
	d, w := formatted(t, 4)
	ok(t, w.Append(bytesOf(100, 0)))
	was, ops := tells(t, w), d.Ops()
	wantErr(t, "one sector more", w.Checkpoint(make([]byte, 4*48-4+1)), api.ErrFull)
	wantTold(t, w, was)
	if w.Broken() || d.Ops() != ops {
		t.Errorf("what is refused breaks the log (%t), or does %d operations", w.Broken(), d.Ops()-ops)
	}
	b := bytesOf(4*48-4, 9)
	ok(t, w.Checkpoint(b))
	wantTold(t, w, told{turn: 1, snapshot: b})
	wantTold(t, opened(t, d), told{turn: 1, snapshot: b})
	wantErr(t, "none is left", w.Append(nil), api.ErrFull)
	ok(t, w.Checkpoint(b))
	wantTold(t, w, told{turn: 2, snapshot: b})
}

// P4.3: a turn of 2^32 - 1 has none behind it; what is appended still goes in.
func TestLastTurn(t *testing.T) {
	const last = math.MaxUint32
	sectors := slices.Concat([]api.Block{plainHead(last-1, 4), {}}, plainTurn(last-1, 4, []byte("a"), []byte("b")), make([]api.Block, 4))
	d := holding(t, sectors)
	w := opened(t, d)
	wantTold(t, w, told{turn: last - 1, snapshot: []byte("a"), txs: [][]byte{[]byte("b")}, left: 2})
	ok(t, w.Checkpoint([]byte("c")))
	ops := d.Ops()
	wantErr(t, "Checkpoint of the last turn", w.Checkpoint(nil), api.ErrFull)
	if d.Ops() != ops || w.Broken() {
		t.Error("what is refused does something")
	}
	wantErr(t, "what is too long", w.Checkpoint(make([]byte, api.MaxTx+1)), api.ErrLong)
	ok(t, w.Append([]byte("d")))
	want := told{turn: last, snapshot: []byte("c"), txs: [][]byte{[]byte("d")}, left: 2}
	wantTold(t, w, want)
	wantTold(t, opened(t, d), want)
}

// P4.3: MaxTx bytes go in where there is room, one more never do; that is told ahead of a lack of room, and of what broke the log.
func TestLong(t *testing.T) {
	d, w := formatted(t, 1000)
	most, more := bytesOf(api.MaxTx, 1), make([]byte, api.MaxTx+1)
	wantErr(t, "Append of too much", w.Append(more), api.ErrLong)
	wantErr(t, "Checkpoint of too much", w.Checkpoint(more), api.ErrLong)
	wantTold(t, w, told{left: 999})
	ok(t, w.Append(most))
	wantTold(t, w, told{txs: [][]byte{most}, left: 999 - 834})
	ok(t, w.Checkpoint(most))
	wantTold(t, w, told{turn: 1, snapshot: most, left: 1000 - 834})
	wantErr(t, "as much again", w.Append(most), api.ErrFull)
	wantTold(t, opened(t, d), told{turn: 1, snapshot: most, left: 1000 - 834})

	d, w = formatted(t, 4)
	wantErr(t, "Append of more than an area has", w.Append(most), api.ErrFull)
	wantErr(t, "Checkpoint of more than an area has", w.Checkpoint(most), api.ErrFull)
	wantErr(t, "Append of too much", w.Append(more), api.ErrLong)
	wantErr(t, "Checkpoint of too much", w.Checkpoint(more), api.ErrLong)
	ok(t, d.Fail(0))
	wantErr(t, "Append that fails", w.Append(nil), api.ErrIo)
	wantErr(t, "Append of too much to a broken log", w.Append(more), api.ErrLong)
	wantErr(t, "Checkpoint of too much of a broken log", w.Checkpoint(more), api.ErrLong)
	wantErr(t, "Append to a broken log without room", w.Append(most), api.ErrIo)
	wantErr(t, "Checkpoint of a broken log without room", w.Checkpoint(most), api.ErrIo)
}

// P4.4: how many sectors a frame fills.
func TestSectors(t *testing.T) {
	for _, c := range []struct{ n, want int }{
		{-1, 0}, {0, 1}, {1, 1}, {43, 1}, {44, 1}, {45, 2}, {92, 2}, {93, 3}, {140, 3}, {141, 4},
		{39979, 833}, {39980, 833}, {39981, 834}, {40000, 834}, {40001, 0}, {40028, 0},
		{math.MaxInt, 0}, {math.MaxInt - 3, 0}, {math.MinInt, 0}, {-4, 0}, {-47, 0}, {-100, 0},
	} {
		if got := wal.Sectors(c.n); got != c.want {
			t.Errorf("Sectors(%d): %d; want %d", c.n, got, c.want)
		}
	}
	for n := range api.MaxTx + 1 {
		if got := wal.Sectors(n); got != fills(n) {
			t.Fatalf("Sectors(%d): %d; want %d", n, got, fills(n))
		}
	}
}

// P4.4, R6: All is left early, and gone through again.
func TestAllAgain(t *testing.T) {
	_, w := log(t)
	all := w.All()
	for range 2 {
		for i, b := range all {
			if i != 1 || len(b) != 0 {
				t.Errorf("the first one is %d, % x", i, b)
			}
			break
		}
		var got []int
		for i := range all {
			got = append(got, i)
		}
		if !slices.Equal(got, []int{1, 2}) {
			t.Errorf("All tells %v", got)
		}
	}
}

// P4.4: All tells what there was when it was called, whatever comes then, also while it is gone through.
func TestAllAsItWas(t *testing.T) {
	_, w := formatted(t, 20)
	none := w.All()
	var want [][]byte
	for i := range 5 {
		b := bytesOf(i, i)
		ok(t, w.Append(b))
		want = append(want, b)
	}
	five := w.All()
	same := func(what string) {
		t.Helper()
		var got [][]byte
		for i, b := range five {
			if i != len(got)+1 {
				t.Errorf("%s: number %d stands at place %d", what, i, len(got)+1)
			}
			got = append(got, b)
		}
		if !slices.EqualFunc(got, want, bytes.Equal) {
			t.Errorf("%s: %v; want %v", what, got, want)
		}
	}
	same("at once")
	for i := range five {
		ok(t, w.Append([]byte{byte(i)}))
	}
	if w.Len() != 10 {
		t.Errorf("Len %d; want 10", w.Len())
	}
	same("behind more")
	ok(t, w.Checkpoint([]byte("x")))
	same("behind a Checkpoint")
	for i := range 7 {
		ok(t, w.Append([]byte{byte(40 + i)}))
	}
	same("behind those of the next turn")
	for i, b := range none {
		t.Errorf("of none %d is told, % x", i, b)
	}
}

// R3: what is handed in is not changed and not kept, the room behind its end neither.
func TestKeepsNothing(t *testing.T) {
	d, w := formatted(t, 20)
	whole := bytesOf(200, 1)
	b := whole[:50]
	ok(t, w.Append(b))
	ok(t, w.Append(whole[:0]))
	if !bytes.Equal(whole, bytesOf(200, 1)) {
		t.Error("Append changed what it was given")
	}
	clear(whole)
	want := told{txs: [][]byte{bytesOf(50, 1), nil}, left: 16}
	wantTold(t, w, want)
	wantTold(t, opened(t, d), want)

	whole = bytesOf(200, 2)
	ok(t, w.Checkpoint(whole[:50]))
	if !bytes.Equal(whole, bytesOf(200, 2)) {
		t.Error("Checkpoint changed what it was given")
	}
	clear(whole)
	want = told{turn: 1, snapshot: bytesOf(50, 2), left: 18}
	wantTold(t, w, want)
	wantTold(t, opened(t, d), want)
}

// R3: what is told is new memory each time, whether it was put in or was opened.
func TestTellsNewMemory(t *testing.T) {
	d, w := log(t)
	for _, w := range []*wal.Wal{w, opened(t, d)} {
		all := w.All()
		for range 2 {
			s := w.Snapshot()
			clear(s)
			_ = append(s, 1, 2, 3)
			for _, b := range all {
				clear(b)
				_ = append(b, 1, 2, 3)
			}
			wantTold(t, w, logTells())
		}
		for i, b := range all {
			if !bytes.Equal(b, logTells().txs[i-1]) {
				t.Errorf("All, gone through again, tells % x", b)
			}
		}
	}
}

// P4.4: two logs that were opened of one disk, or of copies of it, tell what they do themselves.
func TestOpenedApart(t *testing.T) {
	d, w := log(t)
	c := d.Copy()
	other := opened(t, c)
	ok(t, other.Append([]byte("other")))
	wantTold(t, w, logTells())
	wantTold(t, other, logTells().behind([]byte("other")))
	ok(t, w.Append([]byte("this")))
	wantTold(t, other, logTells().behind([]byte("other")))
	if w.Disk() != d || other.Disk() != c {
		t.Error("a log tells another disk than its own")
	}
}

// P4.3, P4.4: what is put in is told, by the log and by an Open, in many sizes.
func TestPutAndTold(t *testing.T) {
	d, w := formatted(t, 400)
	want := told{left: 399}
	for n := range 150 {
		b := bytesOf(n, n)
		if want.left < fills(n) {
			wantErr(t, "Append", w.Append(b), api.ErrFull)
			continue
		}
		ok(t, w.Append(b))
		want = want.behind(b)
		wantTold(t, w, want)
		wantTold(t, opened(t, d), want)
	}
	for n := range 300 {
		b := make([]byte, n)
		ok(t, w.Checkpoint(b))
		want = want.begun(b, 400)
		wantTold(t, w, want)
		wantTold(t, opened(t, d), want)
	}
}

// P4.3: an area of the greatest size takes as many transactions as it has sectors behind the snapshot.
func TestMany(t *testing.T) {
	d, w := formatted(t, 1000)
	want := told{left: 999}
	for i := range 999 {
		b := []byte{byte(i), byte(i >> 8)}
		ok(t, w.Append(b))
		want.txs, want.left = append(want.txs, b), want.left-1
	}
	wantErr(t, "one more", w.Append(nil), api.ErrFull)
	wantTold(t, w, want)
	wantTold(t, opened(t, d), want)
}

// P4.4: a log tells what it told, without power, too.
func TestTellsWithoutPower(t *testing.T) {
	d, w := log(t)
	ok(t, d.Arm(0))
	wantErr(t, "Sync", d.Sync(), api.ErrDead)
	wantTold(t, w, logTells())
	if w.Broken() {
		t.Error("a log breaks without a write of its own")
	}
	wantErr(t, "Append", w.Append(nil), api.ErrDead)
	wantTold(t, w, logTells())
	if !w.Broken() {
		t.Error("a log whose write was not done is not broken")
	}
	ok(t, d.Crash(nil))
	wantErr(t, "Append", w.Append(nil), api.ErrIo)
	wantErr(t, "Checkpoint", w.Checkpoint(nil), api.ErrIo)

	ok(t, d.Arm(0))
	wantErr(t, "Sync", d.Sync(), api.ErrDead)
	if w, e := wal.Open(d); w != nil || e != api.ErrDead {
		t.Errorf("Open without power: %v, error %d", w, e)
	}
	if w, e := wal.Format(d, 4); w != nil || e != api.ErrDead {
		t.Errorf("Format without power: %v, error %d", w, e)
	}
	if w, e := wal.Format(d, 3); w != nil || e != api.ErrArg {
		t.Errorf("Format without power with a wrong area: %v, error %d", w, e)
	}
}
