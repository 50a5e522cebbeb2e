package wal_test

import (
	"bytes"
	"slices"
	"testing"

	"gazetteer/api"
	"gazetteer/disk"
	"gazetteer/sum"
	"gazetteer/wal"
)

// told is all that a log tells of what it keeps.
type told struct {
	turn     uint32
	snapshot []byte
	txs      [][]byte
	left     int
}

func (a told) equal(b told) bool {
	return a.turn == b.turn && bytes.Equal(a.snapshot, b.snapshot) && slices.EqualFunc(a.txs, b.txs, bytes.Equal) && a.left == b.left
}

// tells is what w tells.
func tells(t *testing.T, w *wal.Wal) told {
	t.Helper()
	a := told{turn: w.Turn(), snapshot: w.Snapshot(), left: w.Left()}
	for i, b := range w.All() {
		if i != len(a.txs)+1 {
			t.Fatalf("transaction %d stands at place %d", i, len(a.txs)+1)
		}
		a.txs = append(a.txs, b)
	}
	if w.Len() != len(a.txs) {
		t.Fatalf("Len: %d; %d were told", w.Len(), len(a.txs))
	}
	return a
}

// wantTold holds what w tells against want.
func wantTold(t *testing.T, w *wal.Wal, want told) {
	t.Helper()
	if got := tells(t, w); !got.equal(want) {
		t.Fatalf("the log tells %v; want %v", got, want)
	}
}

// behind is what is told behind an Append of b.
func (a told) behind(b []byte) told {
	a.txs = append(slices.Clone(a.txs), b)
	a.left -= fills(len(b))
	return a
}

// begun is what is told behind a Checkpoint with b of a log of such areas.
func (a told) begun(b []byte, area int) told {
	return told{turn: a.turn + 1, snapshot: b, left: area - fills(len(b))}
}

// fills is how many sectors a frame of n bytes fills.
func fills(n int) int {
	sectors := 0
	for got := 0; got < 4+n; got += 48 {
		sectors++
	}
	return sectors
}

// lay lays a number of size bytes, the highest first.
func lay(b []byte, at, size int, x uint32) {
	for i := range size {
		b[at+i] = byte(x >> (8 * (size - 1 - i)))
	}
}

// number is the number that such bytes say.
func number(b []byte) uint32 {
	x := uint32(0)
	for _, c := range b {
		x = x*256 + uint32(c)
	}
	return x
}

// sealHead gives a head the sum that it must have.
func sealHead(b *api.Block) {
	lay(b[:], 60, 4, sum.Sum32(b[:60]))
}

// sealPart gives a part's sector the sum that it must have.
func sealPart(b *api.Block) {
	lay(b[:], 12, 4, partSum(*b))
}

func partSum(b api.Block) uint32 {
	return sum.Sum32(append(slices.Clone(b[:12]), b[16:]...))
}

// plainHead is the head of a turn.
func plainHead(turn, area uint32) api.Block {
	var b api.Block
	copy(b[:], "gazetwal")
	lay(b[:], 8, 4, turn)
	lay(b[:], 12, 4, area)
	sealHead(&b)
	return b
}

// plainFrame is a frame as its parts' sectors.
func plainFrame(turn, frame uint32, b []byte) []api.Block {
	list := make([]api.Block, fills(len(b)))
	for i := range list {
		s := &list[i]
		lay(s[:], 0, 4, turn)
		lay(s[:], 4, 4, frame)
		lay(s[:], 8, 2, uint32(i))
		lay(s[:], 10, 2, uint32(len(list)))
		if i == 0 {
			lay(s[:], 16, 4, uint32(len(b)))
			b = b[copy(s[20:], b):]
		} else {
			b = b[copy(s[16:], b):]
		}
		sealPart(s)
	}
	return list
}

// plainTurn is the area of a turn, whose frames stand one behind the other, the snapshot first.
func plainTurn(turn uint32, area int, frames ...[]byte) []api.Block {
	var list []api.Block
	for i, b := range frames {
		list = append(list, plainFrame(turn, uint32(i), b)...)
	}
	return append(list, make([]api.Block, area-len(list))...)
}

// plainStands reads the frame that stands at a sector of an area, field by field.
func plainStands(area []api.Block, at int, turn, frame uint32) ([]byte, bool) {
	if at >= len(area) {
		return nil, false
	}
	size, parts := number(area[at][16:20]), int(number(area[at][10:12]))
	if size > 40000 || parts != fills(int(size)) || at+parts > len(area) {
		return nil, false
	}
	var all []byte
	for i, s := range area[at : at+parts] {
		if number(s[0:4]) != turn || number(s[4:8]) != frame || number(s[8:10]) != uint32(i) || int(number(s[10:12])) != parts || number(s[12:16]) != partSum(s) {
			return nil, false
		}
		all = append(all, s[16:]...)
	}
	for _, c := range all[4+size:] {
		if c != 0 {
			return nil, false
		}
	}
	return all[4 : 4+size], true
}

// plainHeadRight tells whether the head in sector i is right, field by field.
func plainHeadRight(sectors []api.Block, i int) bool {
	b := sectors[i]
	turn, area := number(b[8:12]), number(b[12:16])
	if string(b[:8]) != "gazetwal" || number(b[60:]) != sum.Sum32(b[:60]) || turn%2 != uint32(i) {
		return false
	}
	for _, c := range b[16:60] {
		if c != 0 {
			return false
		}
	}
	return area >= 4 && area <= 1000 && len(sectors) >= int(2+2*area)
}

// plainOpen is what Open finds on such sectors, and which ones it lays noughts over.
func plainOpen(sectors []api.Block) (told, []int, api.Errno) {
	zero, one := plainHeadRight(sectors, 0), plainHeadRight(sectors, 1)
	if !zero && !one {
		return told{}, nil, api.ErrWal
	}
	head := sectors[0]
	if !zero || one && number(sectors[1][8:12]) > number(head[8:12]) {
		head = sectors[1]
	}
	turn, n := number(head[8:12]), int(number(head[12:16]))
	first := 2
	if turn%2 == 1 {
		first = 2 + n
	}
	area := sectors[first : first+n]
	snapshot, ok := plainStands(area, 0, turn, 0)
	if !ok {
		return told{}, nil, api.ErrWal
	}
	found := told{turn: turn, snapshot: snapshot}
	end := fills(len(snapshot))
	for {
		b, ok := plainStands(area, end, turn, uint32(len(found.txs)+1))
		if !ok {
			break
		}
		found.txs = append(found.txs, b)
		end += fills(len(b))
	}
	found.left = n - end
	var cut []int
	for i := end; i < n; i++ {
		if area[i] != (api.Block{}) {
			cut = append(cut, first+i)
		}
	}
	return found, cut, api.OK
}

// bytesOf is n bytes that are all other than 0, from a number on.
func bytesOf(n, from int) []byte {
	b := make([]byte, n)
	for i := range b {
		b[i] = byte((from+i)%255 + 1)
	}
	return b
}

// ok wants no error.
func ok(t *testing.T, e api.Errno) {
	t.Helper()
	if e != api.OK {
		t.Fatalf("error %d", e)
	}
}

// wantErr holds an error against what it must be.
func wantErr(t *testing.T, what string, got, want api.Errno) {
	t.Helper()
	if got != want {
		t.Fatalf("%s: error %d; want %d", what, got, want)
	}
}

// newDisk is a disk of so many sectors.
func newDisk(t *testing.T, sectors int) *disk.Disk {
	t.Helper()
	d, e := disk.New(sectors)
	ok(t, e)
	return d
}

// formatted is a log with such areas, on a disk that has just room for it.
func formatted(t *testing.T, area int) (*disk.Disk, *wal.Wal) {
	t.Helper()
	d := newDisk(t, 2+2*area)
	w, e := wal.Format(d, area)
	ok(t, e)
	return d, w
}

// opened is the log on d.
func opened(t *testing.T, d *disk.Disk) *wal.Wal {
	t.Helper()
	w, e := wal.Open(d)
	ok(t, e)
	return w
}

// holding is a disk of such sectors, all of them safe.
func holding(t *testing.T, sectors []api.Block) *disk.Disk {
	t.Helper()
	d := newDisk(t, len(sectors))
	for i, b := range sectors {
		ok(t, d.Write(i, b))
	}
	ok(t, d.Sync())
	return d
}

// sectorsOf is what the sectors of d hold.
func sectorsOf(t *testing.T, d *disk.Disk) []api.Block {
	t.Helper()
	c := d.Copy()
	if c.Dead() {
		ok(t, c.Crash(slices.Repeat([]bool{true}, len(c.Pending()))))
	}
	ok(t, c.Fail(-1))
	list := make([]api.Block, c.Len())
	for i := range list {
		b, e := c.Read(i)
		ok(t, e)
		list[i] = b
	}
	return list
}
