package tree_test

import (
	"slices"
	"testing"

	"gazetteer/api"
	"gazetteer/tree"
)

// entry is one of a node, or of a row.
func entry(child uint32, k api.Key) api.Link {
	return api.Link{Key: k, Child: child}
}

// P11.4: the first splits, written out.
func TestPutKnown(t *testing.T) {
	x := five()
	wantTree(t, "five", x, api.Tree{Root: 3, Count: 1, Nodes: []api.Node{
		{Id: 1, Leaf: true, Seal: 1, Right: 2, Entries: []api.Link{entry(1, at(0, 0)), entry(2, at(1, 0)), entry(3, at(2, 0))}},
		{Id: 2, Leaf: true, Seal: 1, Entries: []api.Link{entry(4, at(3, 0)), entry(5, at(9, 9))}},
		{Id: 3, Seal: 1, Entries: []api.Link{entry(1, box(0, 2, 0, 0)), entry(2, box(3, 9, 0, 9))}},
	}})

	x = wantPut(t, x, 6, at(-1, 0)) // into 1, which is full then
	x = wantPut(t, x, 7, at(9, 8))
	wantTree(t, "seven", x, api.Tree{Root: 3, Count: 1, Nodes: []api.Node{
		{Id: 1, Leaf: true, Seal: 1, Right: 2, Entries: []api.Link{entry(1, at(0, 0)), entry(2, at(1, 0)), entry(3, at(2, 0)), entry(6, at(-1, 0))}},
		{Id: 2, Leaf: true, Seal: 1, Entries: []api.Link{entry(4, at(3, 0)), entry(5, at(9, 9)), entry(7, at(9, 8))}},
		{Id: 3, Seal: 1, Entries: []api.Link{entry(1, box(-1, 2, 0, 0)), entry(2, box(3, 9, 0, 9))}},
	}})

	x, splits, err := tree.Put(x, 8, at(-2, 0)) // 1 splits, ahead of others: 4 comes ahead of 2, in the root and by Rights
	if err != api.OK || !slices.Equal(splits, []api.Split{{Old: 1, New: 4}}) {
		t.Errorf("Put(8): %v, error %d", splits, err)
	}
	wantTree(t, "eight", x, api.Tree{Root: 3, Count: 2, Nodes: []api.Node{
		{Id: 1, Leaf: true, Seal: 2, Right: 4, Entries: []api.Link{entry(1, at(0, 0)), entry(2, at(1, 0)), entry(3, at(2, 0))}},
		{Id: 2, Leaf: true, Seal: 1, Entries: []api.Link{entry(4, at(3, 0)), entry(5, at(9, 9)), entry(7, at(9, 8))}},
		{Id: 3, Seal: 1, Entries: []api.Link{entry(1, box(0, 2, 0, 0)), entry(4, box(-2, -1, 0, 0)), entry(2, box(3, 9, 0, 9))}},
		{Id: 4, Leaf: true, Seal: 2, Right: 2, Entries: []api.Link{entry(6, at(-1, 0)), entry(8, at(-2, 0))}},
	}})
}

// P11.4: what is there, and what is no row, is refused, whatever the key.
func TestPutRefuses(t *testing.T) {
	for _, x := range []api.Tree{five(), grown(60)} {
		for row, want := range map[uint32]api.Errno{0: api.ErrArg, 1: api.ErrThere, 3: api.ErrThere, 5: api.ErrThere, 61: api.OK, topId: api.OK} {
			for _, k := range []api.Key{at(0, 0), at(9, 9), at(most, least), wide} {
				if _, _, err := tree.Put(x, row, k); err != want {
					t.Errorf("Put(%d, %v): error %d; want %d", row, k, err, want)
				}
				wantPut(t, x, row, k)
			}
		}
	}
}

// P11.4: what is refused of a row or a key is so ahead of what is full.
func TestPutRefusesAheadOfFull(t *testing.T) {
	deep := numbered(steep(12, 12), 1)
	many := numbered(bushy(4, 1, 4, 16, 64, 171, 256), 1)
	counted := numbered(leaf(1, 2, 3, 4), 1)
	counted.Count = topCount
	for _, x := range []api.Tree{deep, many, counted, numbered(leaf(1, 2, 3, 4), topId)} {
		wantFull(t, "full", x, at(1, 0), api.ErrFull)
		for row, want := range map[uint32]api.Errno{0: api.ErrArg, 1: api.ErrThere, 4: api.ErrThere} {
			if _, _, err := tree.Put(x, row, at(1, 0)); err != want {
				t.Errorf("Put(%d) where it is full: error %d; want %d", row, err, want)
			}
		}
		if _, _, err := tree.Put(x, 1, api.Key{X0: 1}); err != api.ErrArg {
			t.Errorf("Put of no box where it is full: error %d; want %d", err, api.ErrArg)
		}
	}
}

// P11.4: a Put that goes through all levels, none of which has room.
func TestPutSplitsAll(t *testing.T) {
	for levels := 1; levels < 12; levels++ {
		x := numbered(steep(levels, levels), 1)
		top := x.Nodes[len(x.Nodes)-1].Id
		way, _ := tree.Leaf(x, at(1, 0))
		y, splits, err := tree.Put(x, topId, at(1, 0))
		if err != api.OK || len(splits) != levels || y.Count != uint64(levels) || y.Root != top+uint32(levels)+1 {
			t.Fatalf("Put through %d levels: %v, error %d, root %d, Count %d", levels, splits, err, y.Root, y.Count)
		}
		for i, s := range splits {
			want := api.Split{Old: way[levels-1-i], New: top + 1 + uint32(i), Root: i == levels-1}
			if s != want || nodeOf(y, s.Old).Seal != uint64(i+1) || nodeOf(y, s.New).Seal != uint64(i+1) || nodeOf(y, s.Old).Right != s.New {
				t.Errorf("Put through %d levels: split %d is %v; want %v", levels, i, s, want)
			}
		}
		if root := nodeOf(y, y.Root); root.Seal != uint64(levels) || root.Right != 0 || len(root.Entries) != 2 || root.Leaf {
			t.Errorf("Put through %d levels: the root is %+v", levels, root)
		}
		wantPut(t, x, topId, at(1, 0))
	}
}

// wantFull wants of Put what is said, and what the chapter's words say.
func wantFull(t *testing.T, what string, x api.Tree, k api.Key, want api.Errno) {
	t.Helper()
	if err := tree.Check(x); err != api.OK {
		t.Fatalf("%s: Check: error %d", what, err)
	}
	y, splits, err := tree.Put(x, topId, k)
	if err != want {
		t.Errorf("%s: error %d; want %d", what, err, want)
	}
	if err != api.OK && (len(splits) > 0 || !tree.Same(y, api.Tree{})) {
		t.Errorf("%s: %v, %v beside an error", what, y, splits)
	}
	wantPut(t, x, topId, k)
}

// P11.4: leaves as deep as may be, and one level more.
func TestPutTooDeep(t *testing.T) {
	wantFull(t, "a new root over 11 levels", numbered(steep(11, 11), 1), at(1, 0), api.OK)
	wantFull(t, "a new root over 12 levels", numbered(steep(12, 12), 1), at(1, 0), api.ErrFull)
	wantFull(t, "12 levels, a root with room", numbered(steep(12, 11), 1), at(1, 0), api.OK)
	wantFull(t, "12 levels, a leaf with room", numbered(steep(12, 12), 1), at(5000, 0), api.OK)
	wantFull(t, "12 levels, one each", numbered(chain(11, leaf(7)), 1), at(1, 0), api.OK)
	wantFull(t, "12 levels, one each, a leaf of four", numbered(chain(11, leaf(7, 8, 9, 10)), 1), at(1, 0), api.OK)
}

// sized is a steep tree with as many nodes as is said.
func sized(levels, full, nodes int) api.Tree {
	return numbered(filled(steep(levels, full), nodes), 1)
}

// P11.4: as many nodes as may be, and one more, or two.
func TestPutTooMany(t *testing.T) {
	for _, c := range []struct {
		what  string
		x     api.Tree
		nodes int
		want  api.Errno
	}{
		{"no split", numbered(bushy(3, 1, 4, 16, 64, 171, 256), 1), 512, api.OK},
		{"one split", numbered(bushy(4, 1, 4, 16, 64, 171, 256), 1), 512, api.ErrFull},
		{"one split", numbered(bushy(4, 1, 4, 16, 64, 170, 256), 1), 511, api.OK},
		{"two splits", sized(6, 2, 511), 511, api.ErrFull},
		{"two splits", sized(6, 2, 510), 510, api.OK},
		{"six splits, and a root", sized(6, 6, 506), 506, api.ErrFull},
		{"six splits, and a root", sized(6, 6, 505), 505, api.OK},
	} {
		if len(c.x.Nodes) != c.nodes {
			t.Errorf("%s: %d nodes; want %d", c.what, len(c.x.Nodes), c.nodes)
		}
		wantFull(t, c.what, c.x, at(1, 0), c.want)
	}
}

// P11.4: Counts and Ids at their ends: a split is refused when it is its turn and there is none left, not ahead of that; no split, no error.
func TestPutAtTheEnds(t *testing.T) {
	count := func(root *limb, count uint64) api.Tree {
		x := numbered(root, 1)
		x.Count = count
		return x
	}
	wantFull(t, "the greatest Count, no split", count(leaf(1, 2, 3), topCount), at(1, 0), api.OK)
	wantFull(t, "the greatest Count, one split", count(leaf(1, 2, 3, 4), topCount), at(1, 0), api.ErrFull)
	wantFull(t, "one below, one split", count(leaf(1, 2, 3, 4), topCount-1), at(1, 0), api.OK)
	wantFull(t, "one below, two splits", count(steep(2, 2), topCount-1), at(1, 0), api.ErrFull)
	wantFull(t, "two below, two splits", count(steep(2, 2), topCount-2), at(1, 0), api.OK)
	wantFull(t, "two below, three splits", count(steep(3, 3), topCount-2), at(1, 0), api.ErrFull)
	wantFull(t, "three below, three splits", count(steep(3, 3), topCount-3), at(1, 0), api.OK)
	wantFull(t, "one below, two splits, no root", count(steep(3, 2), topCount-1), at(1, 0), api.ErrFull)

	ids := func(root *limb, top uint32) api.Tree {
		return numbered(root, top-uint32(len(root.all()))+1)
	}
	wantFull(t, "the greatest Id, no split", ids(leaf(1, 2, 3), topId), at(1, 0), api.OK)
	for below := range uint32(8) {
		want := func(splits uint32) api.Errno {
			if below < 1+splits {
				return api.ErrFull
			}
			return api.OK
		}
		wantFull(t, "a root that splits", ids(leaf(1, 2, 3, 4), topId-below), at(1, 0), want(1))
		wantFull(t, "one split, no root", ids(node(leaf(1, 2, 3, 4), leaf(50)), topId-below), at(1, 0), want(1))
		wantFull(t, "two splits, a root", ids(steep(2, 2), topId-below), at(1, 0), want(2))
		wantFull(t, "two splits, no root", ids(steep(3, 2), topId-below), at(1, 0), want(2))
		wantFull(t, "five splits, a root", ids(steep(5, 5), topId-below), at(1, 0), want(5))
	}
}

// P11.4: an Id that comes round would be that of a node on the way: it is refused, not made.
func TestPutIdsDoNotComeRound(t *testing.T) {
	for levels := 2; levels < 8; levels++ {
		p := plain{root: steep(levels, levels)}
		all := p.root.all()
		for i, l := range all {
			l.id = topId - uint32(len(all)-1-i)
		}
		for i, id := range p.way(at(1, 0)) {
			for _, l := range all {
				if l.id == id {
					l.id = uint32(levels - i)
				}
			}
		}
		wantFull(t, "Ids 1 up on the way", p.tree(), at(1, 0), api.ErrFull)
	}
}
