package pred

import (
	"slices"

	"gazetteer/api"
)

// draft is marks while others are attached: none goes. Of a node's marks those that count are lent to others; lent is how many marks there were when one node had lent to another one last.
type draft struct {
	list   []api.Pred
	counts func(x api.Pred) bool
	lent   map[lending]int
}

// lending is that one node lends its marks to another one.
type lending struct {
	from, to uint32
}

// attach lets a mark be there.
func (d *draft) attach(x api.Pred) {
	place, there := slices.BinarySearchFunc(d.list, x, inOrder)
	if !there {
		d.list = slices.Insert(d.list, place, x)
	}
}

// full tells whether there are too many marks. As none goes they stay too many.
func (d *draft) full() bool {
	return len(d.list) > api.MaxPreds
}

// lend attaches those marks of a node that count to another one. What was lent when there were as many marks as now is there still, and of too many none are told: so it is little work, however long a way is.
func (d *draft) lend(from, to uint32) {
	l := lending{from, to}
	if len(d.list) == 0 || d.full() || d.lent[l] == len(d.list) {
		return
	}
	var marks []api.Pred
	for x := range at(d.list, from) {
		if d.counts(x) {
			x.Node = to
			marks = append(marks, x)
		}
	}
	for _, x := range marks {
		d.attach(x)
	}
	if len(marks) > 0 {
		d.lent[l] = len(d.list)
	}
}

// told is the marks of a draft, unless they are too many. They take the draft's memory with them.
func (d *draft) told() (api.Preds, api.Errno) {
	if d.full() {
		return api.Preds{}, api.ErrFull
	}
	return api.Preds{List: d.list}, api.OK
}
