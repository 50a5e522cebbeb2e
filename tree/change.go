package tree

import (
	"math"
	"slices"

	"gazetteer/api"
	"gazetteer/key"
)

// maxTop is the greatest Id behind which there are two more, of a new node and of a new root. It is asked at each split: so no Id comes round to 0.
const maxTop = math.MaxUint32 - 2

// put puts an entry into the leaf where it goes, and is the splits that come of it. Behind an error the draft is no tree any more.
func (d *draft) put(e api.Link) ([]api.Split, api.Errno) {
	way := d.way(e.Key)
	leaf := d.nodes[way[len(way)-1]]
	leaf.Entries = append(leaf.Entries, e)
	var splits []api.Split
	full := false
	settle := func(n *api.Node) []api.Link {
		if len(n.Entries) <= api.MaxItems {
			return []api.Link{link(n)}
		}
		if d.count == math.MaxUint64 || d.top > maxTop {
			full = true
			return []api.Link{link(n)}
		}
		right := d.split(n)
		splits = append(splits, api.Split{Old: n.Id, New: right.Id})
		return []api.Link{link(n), link(right)}
	}
	d.climb(way, settle)
	if both := settle(d.nodes[d.root]); len(both) > 1 {
		d.raise(both)
		splits[len(splits)-1].Root = true
		full = full || len(way) == api.MaxLevel
	}
	if full || len(d.nodes) > api.MaxNodes {
		return nil, api.ErrFull
	}
	return splits, api.OK
}

// take takes a row out of the leaf at the end of a way.
func (d *draft) take(row uint32, way []uint32) {
	d.instead(way[len(way)-1], row)
	d.climb(way, func(n *api.Node) []api.Link {
		if len(n.Entries) > 0 {
			return []api.Link{link(n)}
		}
		d.drop(n)
		return nil
	})
	d.lower()
}

// climb goes a way up from its leaf: in the node above each one its entry gives way to those that settle tells of it. The root has none above it, and is not told.
func (d *draft) climb(way []uint32, settle func(n *api.Node) []api.Link) {
	for i := len(way) - 1; i > 0; i-- {
		d.instead(way[i-1], way[i], settle(d.nodes[way[i]])...)
	}
}

// instead lets, in a node, the entry with a Child give way to others.
func (d *draft) instead(id, child uint32, others ...api.Link) {
	n := d.nodes[id]
	at := slices.IndexFunc(n.Entries, func(e api.Link) bool { return e.Child == child })
	n.Entries = slices.Replace(n.Entries, at, at+1, others...)
}

// split lets what is parted to the right go from a node to a new one, which it is.
func (d *draft) split(n *api.Node) *api.Node {
	left, right, _ := key.Part(keys(n))
	d.count++
	other := d.add(api.Node{Leaf: n.Leaf, Entries: picked(n.Entries, right), Seal: d.count, Right: n.Right})
	n.Entries, n.Seal, n.Right = picked(n.Entries, left), d.count, other.Id
	return other
}

// raise sets a new root above all.
func (d *draft) raise(entries []api.Link) {
	d.root = d.add(api.Node{Entries: entries, Seal: d.count}).Id
}

// add gives a node the Id behind the greatest one.
func (d *draft) add(n api.Node) *api.Node {
	d.top++
	n.Id = d.top
	d.nodes[n.Id] = &n
	return &n
}

// drop lets a node go; whose Right it was, that has its Right.
func (d *draft) drop(n *api.Node) {
	delete(d.nodes, n.Id)
	d.gone = append(d.gone, n.Id)
	for _, other := range d.nodes {
		if other.Right == n.Id {
			other.Right = n.Right
		}
	}
}

// lower lets the root go as long as it stands above one node, or above none.
func (d *draft) lower() {
	for root := d.nodes[d.root]; !root.Leaf; root = d.nodes[d.root] {
		switch len(root.Entries) {
		case 0:
			d.empty(root)
		case 1:
			d.drop(root)
			d.root = root.Entries[0].Child
		default:
			return
		}
	}
}

// empty lets a root that is alone give way to that of the tree Empty. One of the same Id has not gone: it is the root still.
func (d *draft) empty(root *api.Node) {
	leaf := Empty().Nodes[0]
	if root.Id != leaf.Id {
		d.drop(root)
	}
	d.root, d.nodes[leaf.Id] = leaf.Id, &leaf
}

// picked is the entries at some places.
func picked(l []api.Link, places []int) []api.Link {
	var some []api.Link
	for _, at := range places {
		some = append(some, l[at])
	}
	return some
}
