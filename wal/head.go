package wal

import (
	"gazetteer/api"
	"gazetteer/disk"
	"gazetteer/octet"
	"gazetteer/sum"
)

// How many heads stand ahead of how many areas.
const (
	heads = 2
	areas = 2
)

// What a head says besides its numbers.
const (
	letters = "gazetwal"
	noughts = 44
)

// head is what a head says: a turn, and how many sectors an area has.
type head struct {
	turn, area uint32
}

// place is the sector in which the head stands.
func (h head) place() int {
	return int(h.turn % heads)
}

// sector is the head as a sector. Its sum has the highest byte first, other than what sum seals.
func (h head) sector() api.Block {
	b := octet.Put32(octet.Put32([]byte(letters), h.turn), h.area)
	b = append(b, make([]byte, noughts)...)
	return api.Block(octet.Put32(b, sum.Sum32(b)))
}

// fits tells whether a disk of so many sectors has room for what the head says. The area is held against its limits first, as those of a wrong head could go beyond an int.
func (h head) fits(sectors int) bool {
	return h.area >= api.MinArea && h.area <= api.MaxArea && needed(int(h.area)) <= sectors
}

// headIn is the head in a sector: what it would say is made a sector again, which must be the same.
func headIn(sector api.Block) (head, bool) {
	r := octet.Read(sector[len(letters):])
	h := head{turn: r.U32(), area: r.U32()}
	return h, h.sector() == sector
}

// headThatCounts is the right head of the greater turn; ErrWal, if none is right.
func headThatCounts(d *disk.Disk) (head, api.Errno) {
	sectors, err := read(d, 0, heads)
	if err != api.OK {
		return head{}, err
	}
	found := false
	var most head
	for i, s := range sectors {
		h, whole := headIn(s)
		right := whole && h.place() == i && h.fits(d.Len())
		if right && (!found || h.turn > most.turn) {
			found, most = true, h
		}
	}
	if !found {
		return head{}, api.ErrWal
	}
	return most, api.OK
}

// needed is how many sectors a log with areas of so many takes.
func needed(area int) int {
	return heads + areas*area
}

// read reads n sectors, from one on.
func read(d *disk.Disk, from, n int) ([]api.Block, api.Errno) {
	sectors := make([]api.Block, n)
	for i := range sectors {
		b, err := d.Read(from + i)
		if err != api.OK {
			return nil, err
		}
		sectors[i] = b
	}
	return sectors, api.OK
}
