package wal_test

import (
	"math"
	"slices"
	"testing"

	"gazetteer/api"
	"gazetteer/wal"
)

// wantOpen opens a disk of such sectors: it must find what the plain reading finds, lay noughts over what that says, and find the same once more, writing nothing.
func wantOpen(t *testing.T, sectors []api.Block) {
	t.Helper()
	want, cut, err := plainOpen(sectors)
	d := holding(t, sectors)
	ops := d.Ops()
	w, e := wal.Open(d)
	if e != err {
		t.Fatalf("Open: error %d; want %d", e, err)
	}
	after := slices.Clone(sectors)
	for _, i := range cut {
		after[i] = api.Block{}
	}
	if !slices.Equal(sectorsOf(t, d), after) || len(d.Pending()) != 0 {
		t.Fatalf("Open left other sectors, or something pending (%v)", d.Pending())
	}
	if e != api.OK {
		if w != nil {
			t.Fatal("a log beside an error")
		}
		return
	}
	wantTold(t, w, want)
	area := want.left + fills(len(want.snapshot))
	for _, b := range want.txs {
		area += fills(len(b))
	}
	if len(cut) > 0 {
		ops += len(cut) + 1
	}
	if got := d.Ops() - ops; got != 2+area {
		t.Fatalf("Open read %d sectors; want %d", got, 2+area)
	}
	ops = d.Ops()
	wantTold(t, opened(t, d), want)
	if got := d.Ops() - ops; got != 2+area {
		t.Fatalf("the Open behind it did %d operations; want %d", got, 2+area)
	}
}

// wantNone opens a disk of such sectors, on which there is no log.
func wantNone(t *testing.T, what string, sectors []api.Block) {
	t.Helper()
	d := holding(t, sectors)
	if w, e := wal.Open(d); w != nil || e != api.ErrWal {
		t.Errorf("%s: %v, error %d; want error %d", what, w, e, api.ErrWal)
	}
	wantOpen(t, sectors)
}

// wantFound opens a disk of such sectors, on which there is a log that tells want.
func wantFound(t *testing.T, what string, sectors []api.Block, want told) {
	t.Helper()
	w, e := wal.Open(holding(t, sectors))
	if e != api.OK {
		t.Fatalf("%s: error %d", what, e)
	}
	if got := tells(t, w); !got.equal(want) {
		t.Errorf("%s: %v; want %v", what, got, want)
	}
	wantOpen(t, sectors)
}

// twoTurns is a disk with areas of 4, on which turn 6 and turn 7 stand whole.
func twoTurns() []api.Block {
	return slices.Concat([]api.Block{plainHead(6, 4), plainHead(7, 4)}, plainTurn(6, 4, []byte("six"), []byte("a")), plainTurn(7, 4, []byte("seven"), nil, []byte("b")))
}

func turnSix() told {
	return told{turn: 6, snapshot: []byte("six"), txs: [][]byte{[]byte("a")}, left: 2}
}

func turnSeven() told {
	return told{turn: 7, snapshot: []byte("seven"), txs: [][]byte{nil, []byte("b")}, left: 1}
}

// turned is sectors with one of them changed.
func turned(sectors []api.Block, i int, change func(b *api.Block)) []api.Block {
	list := slices.Clone(sectors)
	change(&list[i])
	return list
}

// P4.2: the right head with the greater turn counts, whether it stands first or second.
func TestHeadThatCounts(t *testing.T) {
	both := twoTurns()
	wantFound(t, "both right", both, turnSeven())
	spoil := func(b *api.Block) { b[20] = 1 }
	none := func(b *api.Block) { *b = api.Block{} }
	wantFound(t, "the older one alone is right", turned(both, 1, spoil), turnSix())
	wantFound(t, "the older one alone is there", turned(both, 1, none), turnSix())
	wantFound(t, "the newer one alone is right", turned(both, 0, spoil), turnSeven())
	wantNone(t, "neither is right", turned(turned(both, 0, spoil), 1, spoil))
	wantNone(t, "neither is there", turned(turned(both, 0, none), 1, none))
	wantNone(t, "nothing is there", make([]api.Block, 10))

	eight := turned(both, 0, func(b *api.Block) { *b = plainHead(8, 4) })
	copy(eight[2:], plainTurn(8, 4, []byte("eight")))
	wantFound(t, "the newer one stands first", eight, told{turn: 8, snapshot: []byte("eight"), left: 3})
	wantFound(t, "the older one stands second", turned(eight, 0, none), turnSeven())

	last := turned(both, 1, func(b *api.Block) { *b = plainHead(math.MaxUint32, 4) })
	copy(last[6:], plainTurn(math.MaxUint32, 4, nil))
	wantFound(t, "the greatest turn", last, told{turn: math.MaxUint32, left: 3})
}

// P4.2: a head that stands in the other sector is not right.
func TestHeadInTheOtherSector(t *testing.T) {
	both := twoTurns()
	both[0], both[1] = both[1], both[0]
	wantNone(t, "both in the other sector", both)
	wantFound(t, "an older one in the newer one's", turned(twoTurns(), 1, func(b *api.Block) { *b = plainHead(8, 4) }), turnSix())
	wantFound(t, "the newer one in both", turned(twoTurns(), 0, func(b *api.Block) { *b = plainHead(7, 4) }), turnSeven())
	wantFound(t, "the older one in both", turned(twoTurns(), 1, func(b *api.Block) { *b = plainHead(6, 4) }), turnSix())
}

// P4.2: a head whose area may not be, or has no room on the disk, is not right.
func TestHeadWithAnotherArea(t *testing.T) {
	for _, area := range []uint32{0, 1, 3, 5, 6, 1000, 1001, 1 << 16, 1<<30 + 4, 1<<31 - 1, 1 << 31, 1<<31 + 4, math.MaxUint32} {
		change := func(b *api.Block) { *b = plainHead(7, area) }
		wantFound(t, "the newer head has another area", turned(twoTurns(), 1, change), turnSix())
		wantNone(t, "and the older one is not right", turned(turned(twoTurns(), 1, change), 0, func(b *api.Block) { b[0]++ }))
	}
	// an area above the limit, for which there is room, and one below it
	for area, right := range map[int]bool{1001: false, 1000: true, 3: false, 4: true} {
		sectors := make([]api.Block, 2048)
		sectors[0] = plainHead(0, uint32(area))
		sectors[2] = plainFrame(0, 0, nil)[0]
		if right {
			wantFound(t, "an area at the limit", sectors, told{left: area - 1})
		} else {
			wantNone(t, "an area beyond the limit", sectors)
		}
	}
	// room for just the areas, and for one sector less
	sectors := make([]api.Block, 13)
	sectors[1] = plainHead(1, 5)
	sectors[7] = plainFrame(1, 0, nil)[0]
	for n := 8; n <= 13; n++ {
		if n >= 12 {
			wantFound(t, "just room", sectors[:n], told{turn: 1, left: 4})
		} else {
			wantNone(t, "less than room", sectors[:n])
		}
	}
}

// P4.2: heads of two areas: the one that counts says how great they are, and where.
func TestHeadsOfTwoAreas(t *testing.T) {
	sectors := make([]api.Block, 20)
	sectors[0], sectors[1] = plainHead(4, 9), plainHead(5, 4)
	copy(sectors[6:], plainTurn(5, 4, []byte("e")))
	copy(sectors[2:], plainTurn(4, 4, []byte("d")))
	wantFound(t, "the newer one with less", sectors, told{turn: 5, snapshot: []byte("e"), left: 3})
	sectors[0] = plainHead(6, 9)
	copy(sectors[2:], plainTurn(6, 9, []byte("f")))
	wantFound(t, "the newer one with more", sectors, told{turn: 6, snapshot: []byte("f"), left: 8})
}

// P4.2: where the snapshot of the head that counts does not stand, there is no log, whatever the other head has.
func TestNoSnapshot(t *testing.T) {
	for what, change := range map[string]func(b *api.Block){
		"noughts":        func(b *api.Block) { *b = api.Block{} },
		"another turn":   func(b *api.Block) { *b = plainFrame(5, 0, []byte("seven"))[0] },
		"another number": func(b *api.Block) { *b = plainFrame(7, 1, []byte("seven"))[0] },
		"another sum":    func(b *api.Block) { b[15]++ },
		"another byte":   func(b *api.Block) { b[63]++ },
		"part 0 of two":  func(b *api.Block) { *b = plainFrame(7, 0, bytesOf(45, 0))[0] },
		"part 1 of two":  func(b *api.Block) { *b = plainFrame(7, 0, bytesOf(45, 0))[1] },
	} {
		wantNone(t, what, turned(twoTurns(), 6, change))
	}
}

// P4.2: a snapshot stands in an area's sectors alone, and may fill them all.
func TestSnapshotWithinTheArea(t *testing.T) {
	all, more := bytesOf(4*48-4, 1), bytesOf(4*48-3, 1)
	sectors := make([]api.Block, 12)
	sectors[1] = plainHead(1, 4)
	copy(sectors[6:], plainFrame(1, 0, all))
	wantFound(t, "all of the area", sectors, told{turn: 1, snapshot: all})
	copy(sectors[6:], plainFrame(1, 0, more))
	wantNone(t, "one sector behind the area", sectors)
	sectors = make([]api.Block, 12)
	sectors[0] = plainHead(0, 4)
	copy(sectors[2:], plainFrame(0, 0, more))
	wantNone(t, "one sector in the other area", sectors)
	sectors = make([]api.Block, 12)
	sectors[0] = plainHead(0, 4)
	copy(sectors[2:], plainTurn(0, 4, nil, bytesOf(92, 0)))
	copy(sectors[5:], plainFrame(0, 2, bytesOf(92, 1)))
	wantFound(t, "a transaction that goes into the other area", sectors, told{txs: [][]byte{bytesOf(92, 0)}, left: 1})
}

// P4.2: a frame has at most MaxTx bytes.
func TestFrameTooLong(t *testing.T) {
	for _, n := range []int{api.MaxTx, api.MaxTx + 1, api.MaxTx + 28, api.MaxTx + 29} {
		snapshot, tx := make([]api.Block, 2048), make([]api.Block, 2048)
		snapshot[0], tx[0] = plainHead(0, 1000), plainHead(0, 1000)
		copy(snapshot[2:], plainFrame(0, 0, bytesOf(n, 0)))
		tx[2] = plainFrame(0, 0, nil)[0]
		copy(tx[3:], plainFrame(0, 1, bytesOf(n, 0)))
		if n == api.MaxTx {
			wantFound(t, "a snapshot of MaxTx", snapshot, told{snapshot: bytesOf(n, 0), left: 1000 - 834})
			wantFound(t, "a transaction of MaxTx", tx, told{txs: [][]byte{bytesOf(n, 0)}, left: 999 - 834})
			continue
		}
		wantNone(t, "a snapshot of more", snapshot)
		wantFound(t, "a transaction of more", tx, told{left: 999})
	}
	// counts that would go beyond a number of 32 bits
	for _, n := range []uint32{1 << 31, 1<<31 - 1, math.MaxUint32, math.MaxUint32 - 3, math.MaxUint32 - 4, math.MaxUint32 - 50} {
		change := func(b *api.Block) {
			lay(b[:], 16, 4, n)
			sealPart(b)
		}
		wantNone(t, "a snapshot with such a count", turned(twoTurns(), 6, change))
		wantFound(t, "a transaction with such a count", turned(twoTurns(), 7, change), told{turn: 7, snapshot: []byte("seven"), left: 3})
	}
}

// chained is a disk with areas of 9, on which turn 2 stands: a snapshot of two parts, transactions of one, of three and of one; and its first area sector.
func chained() ([]api.Block, int) {
	sectors := make([]api.Block, 20)
	sectors[0], sectors[1] = plainHead(2, 9), plainHead(1, 9)
	copy(sectors[2:], plainTurn(2, 9, bytesOf(45, 0), bytesOf(9, 1), bytesOf(110, 2), bytesOf(3, 3)))
	copy(sectors[11:], plainTurn(1, 9, nil))
	return sectors, 2
}

// chainedTells is what is told of the first so many transactions of chained.
func chainedTells(n int) told {
	a := told{turn: 2, snapshot: bytesOf(45, 0), left: 7}
	for i, b := range [][]byte{bytesOf(9, 1), bytesOf(110, 2), bytesOf(3, 3)} {
		if i < n {
			a = a.behind(b)
		}
	}
	return a
}

// wantChain opens what was made of chained: the first n transactions are told; with n below 0 there is no log.
func wantChain(t *testing.T, what string, sectors []api.Block, n int) {
	t.Helper()
	if n < 0 {
		wantNone(t, what, sectors)
		return
	}
	wantFound(t, what, sectors, chainedTells(n))
}

// P4.2: the chain ends where a frame is missing, or a part of one; what stands behind that does not count.
func TestChainEnds(t *testing.T) {
	sectors, at := chained()
	wantFound(t, "all of it", sectors, chainedTells(3))
	for i, n := range []int{-1, -1, 0, 1, 1, 1, 2} {
		for what, change := range map[string]func(b *api.Block){
			"missing":      func(b *api.Block) { *b = api.Block{} },
			"torn":         func(b *api.Block) { b[40] ^= 0x10 },
			"another turn": func(b *api.Block) { lay(b[:], 0, 4, 4); sealPart(b) },
			"the last one's": func(b *api.Block) {
				*b = sectors[at+(i+6)%7]
			},
		} {
			wantChain(t, what, turned(sectors, at+i, change), n)
		}
	}
}

// P4.2: a frame counts behind the last one alone: right behind it, and with the next number.
func TestChainNumbers(t *testing.T) {
	for _, c := range []struct {
		what   string
		at     int
		number uint32
		n      int
	}{
		{"the next number", 9, 4, 4},
		{"the same number", 9, 3, 3},
		{"number 0", 9, 0, 3},
		{"one number left out", 9, 5, 3},
		{"one sector left out", 10, 4, 3},
		{"a number that differs in its highest byte", 9, 4 + 1<<24, 3},
	} {
		sectors, _ := chained()
		copy(sectors[c.at:], plainFrame(2, c.number, []byte("d"))[:1])
		want := chainedTells(3)
		if c.n == 4 {
			want = want.behind([]byte("d"))
		}
		wantFound(t, c.what, sectors, want)
	}
	// frames with the right numbers, the first of them one sector too far behind
	sectors := make([]api.Block, 10)
	sectors[0] = plainHead(0, 4)
	copy(sectors[2:], plainTurn(0, 4, nil))
	sectors[4] = plainFrame(0, 1, []byte("a"))[0]
	sectors[5] = plainFrame(0, 2, []byte("b"))[0]
	wantFound(t, "none right behind the snapshot", sectors, told{left: 3})
}

// P4.2: each bit of the heads and of the area that counts is looked at.
func TestEveryBit(t *testing.T) {
	sectors, _ := chained()
	for i := range 11 {
		for bit := range 8 * api.Sector {
			wantOpen(t, turned(sectors, i, func(b *api.Block) { b[bit/8] ^= 1 << (bit % 8) }))
		}
	}
}

// P4.2: each byte of a sector is looked at where the sum is right, too.
func TestEveryByteSealed(t *testing.T) {
	sectors, at := chained()
	for i := range 9 {
		for place := range api.Sector {
			for _, turn := range []byte{1, 2, 3, 4, 7, 0x80, 0xff} {
				wantOpen(t, turned(sectors, at+i, func(b *api.Block) {
					b[place] ^= turn
					sealPart(b)
				}))
			}
		}
	}
	for i := range 2 {
		for place := range 60 {
			for _, turn := range []byte{1, 2, 3, 0x0d, 0x80, 0xff} {
				wantOpen(t, turned(sectors, i, func(b *api.Block) {
					b[place] ^= turn
					sealHead(b)
				}))
			}
		}
	}
}

// P4.2: each field of a part by itself: a sector whose sum is right, and whose bytes are those of a frame of another turn, number, part or count of parts, is not its part.
func TestFields(t *testing.T) {
	sectors, at := chained()
	for _, c := range []struct{ from, size int }{{0, 4}, {4, 4}, {8, 2}, {10, 2}} {
		for i, n := range []int{-1, -1, 0, 1, 1, 1, 2} {
			for _, by := range []uint32{1, 2, math.MaxUint32, 1 << 8} {
				wantChain(t, "another field", turned(sectors, at+i, func(b *api.Block) {
					lay(b[:], c.from, c.size, number(b[c.from:c.from+c.size])+by)
					sealPart(b)
				}), n)
			}
		}
	}
}

// P4.2: a part has noughts behind the frame's bytes.
func TestNoughtsBehind(t *testing.T) {
	sectors, at := chained()
	for i, n := range map[int]int{1: -1, 2: 0, 5: 1, 6: 2} {
		for _, place := range []int{34, 40, 63} {
			wantChain(t, "more behind the bytes", turned(sectors, at+i, func(b *api.Block) {
				b[place] = 1
				sealPart(b)
			}), n)
		}
	}
}

// P4.2: a disk that has no sector 1, or that fails while it is read.
func TestOpenReads(t *testing.T) {
	if w, e := wal.Open(newDisk(t, 1)); w != nil || e != api.ErrArg {
		t.Errorf("Open of a disk of one sector: %v, error %d", w, e)
	}
	if w, e := wal.Open(newDisk(t, 2)); w != nil || e != api.ErrWal {
		t.Errorf("Open of a disk of two sectors: %v, error %d", w, e)
	}
	ops := func(sectors []api.Block) int {
		d := holding(t, sectors)
		was := d.Ops()
		wantErr(t, "Open", opens(d, nil), api.ErrWal)
		return d.Ops() - was
	}
	if got := ops(make([]api.Block, 10)); got != 2 {
		t.Errorf("without a head %d operations; want 2", got)
	}
	torn := turned(twoTurns(), 6, func(b *api.Block) { b[0]++ })
	if got := ops(torn); got != 2+4 {
		t.Errorf("without a snapshot %d operations; want %d", got, 2+4)
	}
	for n := range 2 + 4 {
		d := holding(t, torn)
		ok(t, d.Fail(n))
		if w, e := wal.Open(d); w != nil || e != api.ErrIo {
			t.Errorf("Open that fails behind %d operations: %v, error %d", n, w, e)
		}
		wantErr(t, "Open without a snapshot", opens(d, nil), api.ErrWal)
	}
	for n := range 2 {
		d := newDisk(t, 10)
		ok(t, d.Fail(n))
		if w, e := wal.Open(d); w != nil || e != api.ErrIo {
			t.Errorf("Open that fails behind %d operations: %v, error %d", n, w, e)
		}
	}
}

// P4.2: the last sector that is read fails, where an area is great.
func TestOpenReadsAllOfAGreatArea(t *testing.T) {
	d, _ := formatted(t, 1000)
	for n, want := range map[int]api.Errno{0: api.ErrIo, 1: api.ErrIo, 2: api.ErrIo, 500: api.ErrIo, 1001: api.ErrIo, 1002: api.OK} {
		c := d.Copy()
		ok(t, c.Fail(n))
		wantErr(t, "Open", opens(c, nil), want)
	}
}

// P4.2: what is read is what the sectors hold, pending or not; the disk is as it was, but for what an Open writes.
func TestOpenOfWhatIsPending(t *testing.T) {
	sectors, _ := chained()
	d := newDisk(t, len(sectors))
	for i, b := range sectors {
		ok(t, d.Write(i, b))
	}
	wantTold(t, opened(t, d), chainedTells(3))
	if len(d.Pending()) != 0 {
		t.Error("something is still pending")
	}
	ok(t, d.Crash(nil))
	if !slices.Equal(sectorsOf(t, d), sectors) {
		t.Error("what was told is not safe")
	}
	wantTold(t, opened(t, d), chainedTells(3))
}
