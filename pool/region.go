package pool

import (
	"gazetteer/api"
	"gazetteer/disk"
	"gazetteer/page"
)

// Where things stand in a region, from its base on: the mark, the spare place, the own places of the pages.
const (
	pageSectors = api.PageBytes / api.Sector
	mark        = 0
	spare       = mark + 1
	own         = spare + pageSectors
	sectors     = own + api.MaxPages*pageSectors
)

// letters is what a mark that is set begins with.
const letters = "pool"

// region is the sectors of a disk from a base on.
type region struct {
	disk *disk.Disk
	base int
}

// regionOn is a region, if the disk has it. The base is held against the disk's end less a region, as the sum of both could wrap round.
func regionOn(d *disk.Disk, base int) (region, api.Errno) {
	switch {
	case d == nil:
		return region{}, api.ErrNil
	case base < 0 || base > d.Len()-sectors:
		return region{}, api.ErrArg
	}
	return region{disk: d, base: base}, api.OK
}

// markFor is the mark, set for a page.
func markFor(number int) api.Block {
	var b api.Block
	copy(b[:], letters)
	b[len(letters)], b[len(letters)+1] = byte(number>>8), byte(number)
	return b
}

// markedIn tells the page for which a mark is set, and whether it is for one.
func markedIn(b api.Block) (int, bool) {
	for number := range api.MaxPages {
		if b == markFor(number) {
			return number, true
		}
	}
	return 0, false
}

// ownPlace is where a page stands in a region.
func ownPlace(number int) int {
	return own + number*pageSectors
}

// clear makes all of the region noughts.
func (r region) clear() api.Errno {
	return r.lay(mark, make([]api.Block, sectors)...)
}

// write writes a page. Of its two places there is always one that is whole: the spare place is not touched while the mark is set, the own place only then.
func (r region) write(p api.Page) api.Errno {
	l, err := page.Sectors(p)
	if err != api.OK {
		return err
	}
	steps := []struct {
		place int
		holds []api.Block
	}{
		{mark, []api.Block{{}}},
		{spare, l},
		{mark, []api.Block{markFor(p.Number)}},
		{ownPlace(p.Number), l},
	}
	for _, s := range steps {
		if err := r.lay(s.place, s.holds...); err != api.OK {
			return err
		}
	}
	return api.OK
}

// read reads a page.
func (r region) read(number int) (api.Page, api.Errno) {
	l, err := r.load(ownPlace(number), pageSectors)
	if err != api.OK {
		return api.Page{}, err
	}
	return page.Of(number, l)
}

// mend brings the page for which the mark is set from the spare place to its own, which may be half written. A mark that is pending yet counts, too, without a sync ahead, as the chapter names none there.
func (r region) mend() api.Errno {
	m, err := r.load(mark, 1)
	if err != api.OK {
		return err
	}
	number, set := markedIn(m[0])
	if !set {
		return api.OK
	}
	l, err := r.load(spare, pageSectors)
	if err != api.OK {
		return err
	}
	if _, err := page.Of(number, l); err != api.OK {
		return api.ErrPage
	}
	return r.lay(ownPlace(number), l...)
}

// lay writes sectors from a place of the region on, one by one, and syncs.
func (r region) lay(place int, l ...api.Block) api.Errno {
	for i, b := range l {
		if err := r.disk.Write(r.base+place+i, b); err != api.OK {
			return err
		}
	}
	return r.disk.Sync()
}

// load reads n sectors from a place of the region on.
func (r region) load(place, n int) ([]api.Block, api.Errno) {
	l := make([]api.Block, n)
	for i := range l {
		b, err := r.disk.Read(r.base + place + i)
		if err != api.OK {
			return nil, err
		}
		l[i] = b
	}
	return l, api.OK
}
