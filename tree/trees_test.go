package tree_test

import (
	"slices"

	"gazetteer/api"
	"gazetteer/tree"
)

// box and at are keys: a box, and a point.
func box(x0, x1, y0, y1 int64) api.Key {
	return api.Key{X0: x0, X1: x1, Y0: y0, Y1: y1}
}

func at(x, y int64) api.Key {
	return box(x, x, y, y)
}

// wide is the box that covers all others.
var wide = box(least, most, least, most)

// picker tells numbers from 0 to n - 1, one at a call; those of other seeds are others.
func picker(seed uint64) func(n int) int {
	return func(n int) int {
		seed = seed*6364136223846793005 + 1442695040888963407
		return int(seed>>33) % n
	}
}

// boxes tells boxes all over, one at a call: how far they lie about, and whether they are points, hangs on what pick tells first.
func boxes(pick func(n int) int) func() api.Key {
	far := []int64{2, 3, 5, 12, 40, 1000, 1 << 33, 1 << 62, most}[pick(9)]
	class := pick(3)
	number := func() int64 {
		x := (int64(pick(1<<30))<<33 ^ int64(pick(1<<30))<<12 ^ int64(pick(1<<30))) % far
		if pick(2) == 0 {
			return -x - 1
		}
		return x
	}
	return func() api.Key {
		x0, x1, y0, y1 := number(), number(), number(), number()
		switch {
		case class == 1 || class == 2 && pick(2) == 0:
			return at(x0, y0)
		case pick(40) == 0:
			x0, y1 = least, most
		}
		return box(min(x0, x1), max(x0, x1), min(y0, y1), max(y0, y1))
	}
}

// grown is the tree of points in a row, put in one behind the other: row i at i, 0.
func grown(n int) api.Tree {
	t := tree.Empty()
	for i := range n {
		t, _, _ = tree.Put(t, uint32(i+1), at(int64(i+1), 0))
	}
	return t
}

// node is an inner node above others, and leaf one with rows: row i at i, 0. They have Ids when they are numbered.
func node(below ...*limb) *limb {
	return &limb{limbs: below}
}

func leaf(rows ...uint32) *limb {
	l := &limb{leaf: true}
	for _, row := range rows {
		l.rows = append(l.rows, api.Link{Key: at(int64(row), 0), Child: row})
	}
	return l
}

// numbered gives Ids to all nodes, the root's first, each one behind the one ahead of it; so it is a tree, whose Count is 0.
func numbered(root *limb, first uint32) api.Tree {
	for i, l := range root.all() {
		l.id = first + uint32(i)
	}
	return plain{root: root}.tree()
}

// chain is so many nodes, each above the next one, above a leaf.
func chain(n int, below *limb) *limb {
	for range n {
		below = node(below)
	}
	return below
}

// steep is a tree of so many levels, in which the way to row 1 has so many nodes of four entries at its end, and of three above them; all others have one. A row at 1, 0 goes that way.
func steep(levels, full int) *limb {
	var l *limb
	row := uint32(1)
	for level := range levels {
		entries := 3
		if level < full {
			entries = 4
		}
		if level == 0 {
			l = leaf([]uint32{1, 2, 3, 4}[:entries]...)
			continue
		}
		l = node(l)
		for len(l.limbs) < entries {
			row += 1000
			l.limbs = append(l.limbs, chain(level-1, leaf(row)))
		}
	}
	return l
}

// filled is a tree with rows far away, and nodes above them, till it has as many nodes as is said; those on the way to row 1 get none. It is as deep as it was.
func filled(root *limb, nodes int) *limb {
	row := uint32(1000000)
	missing := nodes - len(root.all())
	var fill func(l *limb, levels int)
	fill = func(l *limb, levels int) {
		for len(l.limbs) < 4 && !l.leaf && levels-1 <= missing {
			row += 10
			l.limbs = append(l.limbs, chain(levels-2, leaf(row)))
			missing -= levels - 1
		}
		for _, below := range l.limbs {
			fill(below, levels-1)
		}
	}
	levels := len(plain{root: root}.way(at(1, 0)))
	for l := root; !l.leaf; l = l.limbs[0] {
		levels--
		for _, beside := range l.limbs[1:] {
			fill(beside, levels)
		}
	}
	return root
}

// bushy is a tree whose levels have so many nodes each, spread evenly, the last ones leaves with as many rows as is said.
func bushy(rows int, levels ...int) *limb {
	row := uint32(0)
	var below []*limb
	for range levels[len(levels)-1] {
		var l []uint32
		for range rows {
			row++
			l = append(l, row)
		}
		below = append(below, leaf(l...))
	}
	for _, n := range slices.Backward(levels[:len(levels)-1]) {
		var level []*limb
		for i := range n {
			level = append(level, node(below[i*len(below)/n:(i+1)*len(below)/n]...))
		}
		below = level
	}
	return below[0]
}

// odd tells trees that may be, one at a call, many of which no Put makes: nodes with one entry, Ids with gaps, Seals of all kinds, Rights that several nodes have.
func odd(pick func(n int) int) func() api.Tree {
	return func() api.Tree {
		next := boxes(pick)
		var row uint32
		var sprout func(levels int) *limb
		sprout = func(levels int) *limb {
			l := &limb{leaf: levels == 1}
			for range 1 + pick(4)*min(1, pick(3)) {
				if row += 1 + uint32(pick(5)); l.leaf {
					l.rows = append(l.rows, api.Link{Key: next(), Child: row})
				} else {
					l.limbs = append(l.limbs, sprout(levels-1))
				}
			}
			return l
		}
		p := plain{root: sprout(1 + pick(4) + pick(9)/8*pick(9)), count: uint64(pick(50))}
		if p.root.leaf && pick(3) == 0 {
			p.root.rows = nil
		}
		if pick(30) == 0 {
			p.count = topCount - uint64(pick(3))
		}
		all := p.root.all()
		if len(all) > 512 {
			return grown(pick(20))
		}
		number(p, pick)
		return p.tree()
	}
}

// number gives Ids, Seals and Rights: of each level the nodes are put in some order, and each has none, or a later one to its right.
func number(p plain, pick func(n int) int) {
	var order []*limb
	for _, l := range p.root.all() {
		order = slices.Insert(order, pick(len(order)+1), l)
	}
	last := uint32(0)
	for _, l := range order {
		last += 1 + uint32(pick(3))
		l.id = last
		l.seal = uint64(pick(60)) % (p.count/2 + 1)
		if pick(4) == 0 {
			l.seal = p.count
		}
	}
	if pick(20) == 0 {
		for i, l := range order {
			l.id = topId - uint32(len(order)-1-i) - uint32(p.count%6)
		}
	}
	for level := []*limb{p.root}; len(level) > 0; {
		var below, shuffled []*limb
		for _, l := range level {
			shuffled = slices.Insert(shuffled, pick(len(shuffled)+1), l)
			below = append(below, l.limbs...)
		}
		for i, l := range shuffled {
			if rest := shuffled[i+1:]; len(rest) > 0 && pick(4) > 0 {
				l.right = rest[pick(min(2, len(rest)))].id
			}
		}
		level = below
	}
}
