package wal

import (
	"iter"
	"slices"

	"gazetteer/api"
	"gazetteer/octet"
	"gazetteer/sum"
)

// How many bytes of a part's sector stand ahead of the frame's, how many are the frame's, and how many of part 0's of these are the count.
const (
	front = 16
	share = api.Sector - front
	count = 4
)

// frame is the snapshot of a turn, or a transaction behind it.
type frame struct {
	turn, number uint32
	bytes        []byte
}

// chain is the frames of a turn that stand one behind the other, from the snapshot on, and how many sectors they use.
type chain struct {
	turn   uint32
	frames [][]byte
	used   int
}

// Sectors: P4.4.
func Sectors(n int) int {
	if n < 0 || n > api.MaxTx {
		return 0
	}
	return (count + n + share - 1) / share
}

// parts tells the frame's parts, each as its sector.
func (f frame) parts() iter.Seq2[int, api.Block] {
	return func(yield func(int, api.Block) bool) {
		n := Sectors(len(f.bytes))
		rest := append(octet.Put32(nil, uint32(len(f.bytes))), f.bytes...)
		for i := range n {
			var body [share]byte
			rest = rest[copy(body[:], rest):]
			if !yield(i, f.part(i, n, body)) {
				return
			}
		}
	}
}

// part is part i of n as a sector.
func (f frame) part(i, n int, body [share]byte) api.Block {
	b := octet.Put32(octet.Put32(nil, f.turn), f.number)
	b = octet.Put16(octet.Put16(b, uint16(i)), uint16(n))
	s := sum.Sum32(slices.Concat(b, body[:]))
	return api.Block(append(octet.Put32(b, s), body[:]...))
}

// next is the frame of b behind the chain.
func (c chain) next(b []byte) frame {
	return frame{turn: c.turn, number: uint32(len(c.frames)), bytes: slices.Clone(b)}
}

// with is the chain with the frame behind it.
func (c chain) with(f frame) chain {
	c.frames = append(c.frames, f.bytes)
	c.used += Sectors(len(f.bytes))
	return c
}

// chainIn is the chain of a turn in its area.
func chainIn(turn uint32, area []api.Block) chain {
	c := chain{turn: turn}
frames:
	for {
		b, ok := claimed(area[c.used:])
		if !ok {
			break
		}
		f := c.next(b)
		for i, part := range f.parts() {
			if area[c.used+i] != part {
				break frames
			}
		}
		c = c.with(f)
	}
	return c
}

// claimed is the bytes of a frame, if one stands where the sectors begin; false, if none of as many bytes as these say can stand there. Whether it is a frame is seen when its parts are held against the sectors.
func claimed(sectors []api.Block) ([]byte, bool) {
	if len(sectors) == 0 {
		return nil, false
	}
	size := octet.Read(sectors[0][front:]).U32()
	if size > api.MaxTx {
		return nil, false
	}
	n := Sectors(int(size))
	if n > len(sectors) {
		return nil, false
	}
	var b []byte
	for _, s := range sectors[:n] {
		b = append(b, s[front:]...)
	}
	return b[count : count+size], true
}

// written tells whether a sector holds anything but noughts.
func written(b api.Block) bool {
	return b != api.Block{}
}

// noughtsFor tells noughts for each of the sectors that holds anything else.
func noughtsFor(sectors []api.Block) iter.Seq2[int, api.Block] {
	return func(yield func(int, api.Block) bool) {
		for i, b := range sectors {
			if written(b) && !yield(i, api.Block{}) {
				return
			}
		}
	}
}
