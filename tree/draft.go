package tree

import (
	"iter"
	"maps"
	"slices"

	"gazetteer/api"
	"gazetteer/key"
)

// draft is a tree while it is read or changed: its nodes by their Ids, the greatest of which is top; and the Ids of those that went.
type draft struct {
	nodes     map[uint32]*api.Node
	root, top uint32
	count     uint64
	gone      []uint32
}

// lay is t as a draft, whether it may be or not. Its entries are those of t, so that it is for reading alone.
func lay(t api.Tree) *draft {
	d := &draft{nodes: map[uint32]*api.Node{}, root: t.Root, count: t.Count}
	for _, n := range t.Nodes {
		d.nodes[n.Id], d.top = &n, n.Id
	}
	return d
}

// open is t as a draft in memory of its own, if it may be.
func open(t api.Tree) (*draft, api.Errno) {
	if err := Check(t); err != api.OK {
		return nil, err
	}
	d := lay(t)
	for _, n := range d.nodes {
		n.Entries = slices.Clone(n.Entries)
	}
	return d, api.OK
}

// told is the tree that a draft is. It takes the draft's memory with it.
func (d *draft) told() api.Tree {
	t := api.Tree{Root: d.root, Count: d.count}
	for _, id := range slices.Sorted(maps.Keys(d.nodes)) {
		t.Nodes = append(t.Nodes, *d.nodes[id])
	}
	return t
}

// anywhere lets all entries be told.
func anywhere(api.Key) bool {
	return true
}

// entries tells those entries of leaves to which one comes by Keys of which leads is true, each with the way from the root to its leaf. A way holds till the next one is told.
func (d *draft) entries(leads func(api.Key) bool) iter.Seq2[api.Link, []uint32] {
	return func(yield func(api.Link, []uint32) bool) {
		d.descend([]uint32{d.root}, leads, yield)
	}
}

// descend tells the entries below the end of a way, and whether to go on.
func (d *draft) descend(way []uint32, leads func(api.Key) bool, yield func(api.Link, []uint32) bool) bool {
	n := d.nodes[way[len(way)-1]]
	for _, e := range n.Entries {
		more := true
		switch {
		case !leads(e.Key):
		case n.Leaf:
			more = yield(e, way)
		default:
			more = d.descend(append(way, e.Child), leads, yield)
		}
		if !more {
			return false
		}
	}
	return true
}

// find is the entry of a row, and the way to its leaf; none, if there is no such row.
func (d *draft) find(row uint32) (api.Link, []uint32) {
	for e, way := range d.entries(anywhere) {
		if e.Child == row {
			return e, way
		}
	}
	return api.Link{}, nil
}

// way is the nodes through which a row with that key is put in, from the root to the leaf. Only what grows less than the best one ahead of it is better; so the first of several stays.
func (d *draft) way(k api.Key) []uint32 {
	way := []uint32{d.root}
	n := d.nodes[d.root]
	for !n.Leaf {
		best := n.Entries[0]
		for _, e := range n.Entries {
			if key.Less(e.Key, best.Key, k) {
				best = e
			}
		}
		way = append(way, best.Child)
		n = d.nodes[best.Child]
	}
	return way
}

// link is the entry of a node in the one above it. A node without entries has no Key.
func link(n *api.Node) api.Link {
	bound, _ := key.Bound(keys(n))
	return api.Link{Key: bound, Child: n.Id}
}

// keys is the Keys of a node's entries.
func keys(n *api.Node) []api.Key {
	var l []api.Key
	for _, e := range n.Entries {
		l = append(l, e.Key)
	}
	return l
}
