package cursor_test

import (
	"slices"

	"gazetteer/api"
	"gazetteer/tree"
)

// picker tells numbers from 0 to n - 1, one at a call; those of other seeds are others.
func picker(seed uint64) func(n int) int {
	return func(n int) int {
		seed = seed*6364136223846793005 + 1442695040888963407
		return int(seed>>33) % n
	}
}

// places tells boxes all over, one at a call; how far they lie about, and whether they are points, hangs on what pick tells first.
func places(pick func(n int) int) func() api.Key {
	far, class := []int64{3, 12, 60, 1 << 40}[pick(4)], pick(3)
	number := func() int64 {
		return (int64(pick(1<<30))<<20^int64(pick(1<<30)))%far - far/3
	}
	return func() api.Key {
		x0, x1, y0, y1 := number(), number(), number(), number()
		if class == 0 || class == 1 && pick(2) == 0 {
			return at(x0, y0)
		}
		return box(min(x0, x1), max(x0, x1), min(y0, y1), max(y0, y1))
	}
}

// row is the tree of so many points in a row, put in one behind the other: row i at i, 0.
func row(n int) api.Tree {
	x := tree.Empty()
	for i := range n {
		x, _, _ = tree.Put(x, uint32(i+1), at(int64(i+1), 0))
	}
	return x
}

// five is the tree of five rows of chapter 11: the root 3 over 1 and 2.
func five() api.Tree {
	x := four()
	x, _, _ = tree.Put(x, 5, at(9, 9))
	return x
}

// four is the tree of four rows of chapter 11: a leaf.
func four() api.Tree {
	x := tree.Empty()
	for i := range 4 {
		x, _, _ = tree.Put(x, uint32(i+1), at(int64(i), 0))
	}
	return x
}

// fan is the tree of a root 9 above the leaves 1, 2, .., as many as is said, of which leaf i has rows 10 i and 10 i + 1 at i, 0 and i, 1. Count is 7; no node was split.
func fan(leaves uint32) api.Tree {
	x := api.Tree{Root: 9, Count: 7}
	root := api.Node{Id: 9}
	for i := uint32(1); i <= leaves; i++ {
		at0, at1 := at(int64(i), 0), at(int64(i), 1)
		x.Nodes = append(x.Nodes, api.Node{Id: i, Leaf: true, Entries: []api.Link{{Key: at0, Child: 10 * i}, {Key: at1, Child: 10*i + 1}}})
		root.Entries = append(root.Entries, api.Link{Key: box(int64(i), int64(i), 0, 1), Child: i})
	}
	x.Nodes = append(x.Nodes, root)
	return x
}

// with is a tree whose node of an Id has another Seal and Right.
func with(x api.Tree, id uint32, seal uint64, right uint32) api.Tree {
	x.Nodes = slices.Clone(x.Nodes)
	for i := range x.Nodes {
		if x.Nodes[i].Id == id {
			x.Nodes[i].Seal, x.Nodes[i].Right = seal, right
		}
	}
	return x
}

// raised is the tree of leaves with these entries, and of nodes above them, each of which stands above as many as size says, up to a root. Ids rise from the leaves on; Count and Seals are 0.
func raised(leaves [][]api.Link, size func() int) api.Tree {
	var x api.Tree
	var level []uint32
	add := func(leaf bool, entries []api.Link) {
		id := uint32(len(x.Nodes) + 1)
		x.Nodes = append(x.Nodes, api.Node{Id: id, Leaf: leaf, Entries: entries})
		x.Root, level = id, append(level, id)
	}
	for _, entries := range leaves {
		add(true, entries)
	}
	for below := level; len(below) > 1; below = level {
		level = nil
		for len(below) > 0 {
			var entries []api.Link
			n := min(size(), len(below))
			for _, id := range below[:n] {
				entries = append(entries, api.Link{Child: id})
			}
			below = below[n:]
			add(false, entries)
		}
	}
	bound(x, x.Root)
	return x
}

// bound makes the Keys of inner nodes at and below one cover what they stand for, and is what covers that one.
func bound(x api.Tree, id uint32) api.Key {
	n := nodeOf(x, id)
	k := box(most, least, most, least)
	for i := range n.Entries {
		if !n.Leaf {
			n.Entries[i].Key = bound(x, n.Entries[i].Child)
		}
		e := n.Entries[i].Key
		k = box(min(k.X0, e.X0), max(k.X1, e.X1), min(k.Y0, e.Y0), max(k.Y1, e.Y1))
	}
	return k
}

// odd is a tree that may be, which no Put and Take make: its nodes have one entry up to four, its Ids are any, its Seals up to its Count, and of each level any have Rights, which lead to no circle.
func odd(pick func(n int) int) api.Tree {
	next, row := places(pick), uint32(0)
	leaves := make([][]api.Link, 1+pick(16))
	for i := range leaves {
		for range 1 + pick(4) {
			row += 1 + uint32(pick(3))
			leaves[i] = append(leaves[i], api.Link{Key: next(), Child: row})
		}
	}
	if len(leaves) == 1 && pick(3) == 0 {
		leaves[0] = nil
	}
	made := 0
	x := raised(leaves, func() int {
		made++
		return 1 + min(3, max(pick(4), made/12))
	})
	ids, last := map[uint32]uint32{}, uint32(0)
	for _, n := range shuffled(x.Nodes, pick) {
		last += 1 + uint32(pick(3))
		ids[n.Id] = last
	}
	x.Root, x.Count = ids[x.Root], uint64(pick(9))
	if pick(20) == 0 {
		x.Count = topCount
	}
	for i, n := range x.Nodes {
		x.Nodes[i].Id, x.Nodes[i].Seal = ids[n.Id], x.Count-min(x.Count, uint64(pick(10)))
		for j := range n.Entries {
			if !n.Leaf {
				n.Entries[j].Child = ids[n.Entries[j].Child]
			}
		}
	}
	slices.SortFunc(x.Nodes, func(m, n api.Node) int { return int(m.Id) - int(n.Id) })
	link(x, pick)
	return x
}

// link gives Rights to nodes of each level: to each none, or one that stands behind it in some order.
func link(x api.Tree, pick func(n int) int) {
	for level := []uint32{x.Root}; len(level) > 0; {
		var below []uint32
		order := shuffled(level, pick)
		for i, id := range order {
			n := nodeOf(x, id)
			if rest := order[i+1:]; len(rest) > 0 && pick(4) > 0 {
				n.Right = rest[pick(min(3, len(rest)))]
			}
			for _, e := range n.Entries {
				if !n.Leaf {
					below = append(below, e.Child)
				}
			}
		}
		level = below
	}
}

// nodeOf is the node of an Id, which is there.
func nodeOf(x api.Tree, id uint32) *api.Node {
	return &x.Nodes[slices.IndexFunc(x.Nodes, func(n api.Node) bool { return n.Id == id })]
}

// shuffled is a list in some order.
func shuffled[T any](l []T, pick func(n int) int) []T {
	var other []T
	for _, v := range l {
		other = slices.Insert(other, pick(len(other)+1), v)
	}
	return other
}

// ids is the Ids of a tree's nodes.
func ids(x api.Tree) []uint32 {
	var l []uint32
	for _, n := range x.Nodes {
		l = append(l, n.Id)
	}
	return l
}

// some is a cursor that may be, for a tree: nodes of it are open, and Ids that none has, with Counts of all kinds.
func some(x api.Tree, pick func(n int) int) api.Cursor {
	c := api.Cursor{Window: places(pick)()}
	if pick(3) == 0 {
		c.Window = wide
	}
	open := pick(6)
	if pick(4) == 0 {
		open = 120 + pick(9)
	}
	for range open {
		s := api.Seen{Id: x.Nodes[pick(len(x.Nodes))].Id, Count: uint64(pick(11))}
		if pick(6) == 0 {
			s = api.Seen{Id: 1 + uint32(pick(200)), Count: topCount - uint64(pick(2))}
		}
		c.Open = append(c.Open, s)
	}
	for i := range uint32(70) {
		if pick(4) == 0 {
			c.Rows = append(c.Rows, i+1)
		}
	}
	return c
}

// others is so many of Open whose Ids no tree here has.
func others(n int) []api.Seen {
	var l []api.Seen
	for i := range n {
		l = append(l, api.Seen{Id: 5000 + uint32(i), Count: uint64(i)})
	}
	return l
}
