package tree_test

import (
	"slices"
	"testing"

	"gazetteer/api"
	"gazetteer/tree"
)

// wantGone wants of Take what went, and what the chapter's words say.
func wantGone(t *testing.T, x api.Tree, row uint32, gone ...uint32) api.Tree {
	t.Helper()
	if _, got, err := tree.Take(x, row); err != api.OK || !slices.Equal(got, gone) {
		t.Errorf("Take(%d) of %+v: %v, error %d; want %v", row, x, got, err, gone)
	}
	return wantTake(t, x, row)
}

// P11.5: the chapter's tree, taken out row by row.
func TestTakeKnown(t *testing.T) {
	x := wantGone(t, five(), 1)
	wantTree(t, "without 1", x, api.Tree{Root: 3, Count: 1, Nodes: []api.Node{
		{Id: 1, Leaf: true, Seal: 1, Right: 2, Entries: []api.Link{entry(2, at(1, 0)), entry(3, at(2, 0))}},
		{Id: 2, Leaf: true, Seal: 1, Entries: []api.Link{entry(4, at(3, 0)), entry(5, at(9, 9))}},
		{Id: 3, Seal: 1, Entries: []api.Link{entry(1, box(1, 2, 0, 0)), entry(2, box(3, 9, 0, 9))}},
	}})
	x = wantGone(t, wantGone(t, x, 4), 5, 2, 3)
	wantTree(t, "without 1, 4, 5", x, api.Tree{Root: 1, Count: 1, Nodes: []api.Node{
		{Id: 1, Leaf: true, Seal: 1, Entries: []api.Link{entry(2, at(1, 0)), entry(3, at(2, 0))}},
	}})
	x = wantGone(t, wantGone(t, x, 3), 2)
	wantTree(t, "without all", x, api.Tree{Root: 1, Count: 1, Nodes: []api.Node{{Id: 1, Leaf: true, Seal: 1}}})

	x = wantGone(t, wantGone(t, wantGone(t, five(), 1), 3), 2, 1, 3)
	wantTree(t, "without 1, 2, 3", x, api.Tree{Root: 2, Count: 1, Nodes: []api.Node{
		{Id: 2, Leaf: true, Seal: 1, Entries: []api.Link{entry(4, at(3, 0)), entry(5, at(9, 9))}},
	}})
	for _, row := range []uint32{0, 1, 2, 3, 6, topId} {
		if y, gone, err := tree.Take(x, row); err != api.ErrNone || gone != nil || !tree.Same(y, api.Tree{}) {
			t.Errorf("Take(%d): %v, %v, error %d", row, y, gone, err)
		}
	}
}

// P11.5: nodes above go, too, and whose Right went has its Right.
func TestTakeNodesAbove(t *testing.T) {
	x := numbered(node(node(leaf(10, 20), leaf(30)), node(leaf(40)), node(leaf(50), leaf(60))), 1) // 2 over 3, 4; 5 over 6; 7 over 8, 9
	right(&x, 3, 4)
	right(&x, 4, 6)
	right(&x, 8, 6)
	right(&x, 9, 6)
	right(&x, 2, 5)
	right(&x, 5, 7)
	y := wantGone(t, x, 40, 5, 6)
	for id, want := range map[uint32]uint32{2: 7, 3: 4, 4: 0, 7: 0, 8: 0, 9: 0} {
		if got := nodeOf(y, id).Right; got != want {
			t.Errorf("without 5 and 6, the Right of %d is %d; want %d", id, got, want)
		}
	}
	right(&x, 6, 3)
	right(&x, 4, 0)
	right(&x, 3, 0)
	y = wantGone(t, x, 40, 5, 6)
	for id, want := range map[uint32]uint32{2: 7, 3: 0, 4: 0, 7: 0, 8: 3, 9: 3} {
		if got := nodeOf(y, id).Right; got != want {
			t.Errorf("without 5 and 6, which led to 3, the Right of %d is %d; want %d", id, got, want)
		}
	}
	wantGone(t, x, 20)
	wantGone(t, x, 30, 4)
	wantGone(t, x, 50, 8)
	wantGone(t, wantGone(t, x, 50, 8), 60, 7, 9)
	z := wantGone(t, wantGone(t, wantGone(t, x, 50, 8), 60, 7, 9), 40, 1, 5, 6)
	if z.Root != 2 {
		t.Errorf("the root is %d; want 2", z.Root)
	}
}

// P11.5: a root over one node goes, and so does the next one, whatever was taken.
func TestTakeRoots(t *testing.T) {
	for levels := range 12 {
		x := numbered(chain(levels, leaf(7, 8, 9)), 20)
		var went []uint32
		for i := range levels {
			went = append(went, 20+uint32(i))
		}
		y := wantGone(t, x, 8, went...)
		if last := 20 + uint32(levels); y.Root != last || len(y.Nodes) != 1 || y.Nodes[0].Id != last {
			t.Errorf("%d above one: %+v", levels, y)
		}
	}
	x := numbered(chain(3, node(leaf(1), chain(0, leaf(2, 3)))), 1)
	if y := wantGone(t, x, 3, 1, 2, 3); y.Root != 4 || len(y.Nodes) != 3 {
		t.Errorf("three above one that has two: %+v", y)
	}
	if y := wantGone(t, x, 1, 1, 2, 3, 4, 5); y.Root != 6 || len(y.Nodes) != 1 {
		t.Errorf("four above one: %+v", y)
	}
}

// P11.5: a tree of inner nodes that have nothing left is Empty, but for its Count: all nodes went, but a root 1, which is the root still.
func TestTakeTheLast(t *testing.T) {
	empty := func(count uint64) api.Tree {
		x := tree.Empty()
		x.Count = count
		return x
	}
	for levels := 1; levels < 12; levels++ {
		for _, first := range []uint32{2, 20, topId - 11} {
			x := numbered(chain(levels, leaf(7)), first)
			x.Count = 77
			for i := range x.Nodes {
				x.Nodes[i].Seal = uint64(i)
			}
			var went []uint32
			for i := range levels + 1 {
				went = append(went, first+uint32(i))
			}
			wantTree(t, "a chain without its row", wantGone(t, x, 7, went...), empty(77))
		}
		var went []uint32
		for i := range levels {
			went = append(went, 2+uint32(i))
		}
		y := wantGone(t, numbered(chain(levels, leaf(7)), 1), 7, went...)
		wantTree(t, "a chain from 1 without its row", y, empty(0))
		wantPut(t, y, 7, at(1, 1))
	}
	wantGone(t, numbered(node(leaf(7)), 1), 7, 2)
	swapped := api.Tree{Root: 2, Nodes: []api.Node{
		{Id: 1, Leaf: true, Entries: []api.Link{entry(7, at(1, 1))}},
		{Id: 2, Entries: []api.Link{entry(1, at(1, 1))}},
	}}
	wantTree(t, "a leaf 1 without its row", wantGone(t, swapped, 7, 1, 2), empty(0))

	root := api.Tree{Root: 9, Count: 5, Nodes: []api.Node{{Id: 9, Leaf: true, Seal: 4, Entries: []api.Link{entry(7, at(1, 1))}}}}
	wantTree(t, "a leaf alone without its row", wantGone(t, root, 7), api.Tree{Root: 9, Count: 5, Nodes: []api.Node{{Id: 9, Leaf: true, Seal: 4}}})
}

// P11.4, P11.5: an Id is the one behind the greatest that there is, though one of that Id went.
func TestIdsComeAgain(t *testing.T) {
	x := wantGone(t, wantGone(t, wantGone(t, five(), 4), 5, 2, 3), 1) // the leaf 1 with 2, 3
	for row := range uint32(4) {
		x = wantPut(t, x, 10+row, at(20, 0))
	}
	if x.Root != 3 || x.Count != 2 || nodeOf(x, 2).Seal != 2 {
		t.Errorf("nodes of Ids that went: %+v", x)
	}
}

// P11.5: keys above are what is left, at the ends of int64, too.
func TestTakeLessensKeys(t *testing.T) {
	x := tree.Empty()
	for i := range uint32(40) {
		x = wantPut(t, x, i+1, []api.Key{wide, at(least, most), at(most, least), at(0, 0), box(least, 0, 0, most)}[i%5])
	}
	for i := range uint32(40) {
		x = wantTake(t, x, (i*7)%40+1)
		wantCheck(t, "lessened", x, api.OK)
	}
}
