package tree

import (
	"gazetteer/api"
	"gazetteer/key"
)

// Check: P11.1. What is asked later leans on what was asked ahead of it.
func Check(t api.Tree) api.Errno {
	if !filled(t) {
		return api.ErrTree
	}
	d := lay(t)
	depths := d.depths()
	if len(depths) != len(t.Nodes) || !d.covered() || !d.once() || !d.linked(depths) || d.circles() {
		return api.ErrTree
	}
	return api.OK
}

// filled tells whether each node of a tree may be, without regard to the others. There is at least one.
func filled(t api.Tree) bool {
	if len(t.Nodes) == 0 || len(t.Nodes) > api.MaxNodes {
		return false
	}
	last := uint32(0)
	for _, n := range t.Nodes {
		none := len(n.Entries) == 0 && !(n.Leaf && n.Id == t.Root)
		if n.Id <= last || n.Seal > t.Count || none || len(n.Entries) > api.MaxItems {
			return false
		}
		for _, e := range n.Entries {
			if e.Child == 0 || key.Check(api.ClassBox, e.Key) != api.OK {
				return false
			}
		}
		last = n.Id
	}
	return true
}

// depths is how deep each node stands, the root at 1, as far as they are reached level by level; none, if the levels are no tree's. A level has leaves alone, or none: below a node that is no leaf there are leaves, and these would be deeper.
func (d *draft) depths() map[uint32]int {
	depths := map[uint32]int{}
	level := []uint32{d.root}
	for depth := 1; len(level) > 0; depth++ {
		if depth > api.MaxLevel {
			return nil
		}
		var next []uint32
		for _, id := range level {
			n := d.nodes[id]
			if n == nil || depths[id] != 0 || n.Leaf != d.nodes[level[0]].Leaf {
				return nil
			}
			depths[id] = depth
			if n.Leaf {
				continue
			}
			for _, e := range n.Entries {
				next = append(next, e.Child)
			}
		}
		level = next
	}
	return depths
}

// covered tells whether the Key of each entry of an inner node is what covers its Child.
func (d *draft) covered() bool {
	for _, n := range d.nodes {
		for _, e := range n.Entries {
			if !n.Leaf && e != link(d.nodes[e.Child]) {
				return false
			}
		}
	}
	return true
}

// once tells whether no row stands twice.
func (d *draft) once() bool {
	times := map[uint32]int{}
	for e := range d.entries(anywhere) {
		times[e.Child]++
		if times[e.Child] > 1 {
			return false
		}
	}
	return true
}

// linked tells whether each Right is that of a node as deep; of an Id that no node has the depth is 0.
func (d *draft) linked(depths map[uint32]int) bool {
	for id, n := range d.nodes {
		if n.Right != 0 && depths[n.Right] != depths[id] {
			return false
		}
	}
	return true
}

// circles tells whether one comes back to a node by Rights. From each node it goes on to where one was already: a circle, if that was by the same way, and none, if by an earlier one, which was gone to its end.
func (d *draft) circles() bool {
	from := map[uint32]uint32{}
	for id := range d.nodes {
		at := id
		for at != 0 && from[at] == 0 {
			from[at] = id
			at = d.nodes[at].Right
		}
		if at != 0 && from[at] == id {
			return true
		}
	}
	return false
}
