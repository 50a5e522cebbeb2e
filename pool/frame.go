package pool

import (
	"slices"

	"gazetteer/api"
)

// rounds is how often the hand goes round at most: the first time it may do no more than take marks, the second time it finds one without.
const rounds = 2

// frame has a page, if it is taken; else it is all zero.
type frame struct {
	taken       bool
	page        api.Page
	pins        int
	dirty, used bool
}

// frames is all frames of a pool. They go by value, so that a search can take marks from frames of its own.
type frames [api.MaxFrames]frame

// of is the frame that has a page; nil, if none has it.
func (l *frames) of(number int) *frame {
	for i := range l {
		if l[i].taken && l[i].page.Number == number {
			return &l[i]
		}
	}
	return nil
}

// givesWay tells which frame gives way, looked for from the hand on, and whether there is one; and what the frames are without the marks that were taken on the way.
func (l frames) givesWay(hand int) (passed frames, at int, found bool) {
search:
	for range rounds {
		for i := range l {
			at = (hand + i) % len(l)
			f := &l[at]
			found = !f.taken || f.pins == 0 && !f.used
			if found {
				break search
			}
			if f.pins == 0 {
				f.used = false
			}
		}
	}
	return l, at, found
}

// lastDirty is the greatest Lsn of a dirty page; 0, if there is none.
func (l *frames) lastDirty() uint64 {
	var most uint64
	for _, f := range l {
		if f.dirty {
			most = max(most, f.page.Lsn)
		}
	}
	return most
}

// told is a frame as it is told.
func (f frame) told() api.Frame {
	if !f.taken {
		return api.Frame{Number: -1}
	}
	return api.Frame{Number: f.page.Number, Pins: f.pins, Dirty: f.dirty, Used: f.used, Lsn: f.page.Lsn}
}

// copied is a page in memory of its own.
func copied(p api.Page) api.Page {
	for i, s := range p.Slots {
		p.Slots[i] = slices.Clone(s)
	}
	return p
}
