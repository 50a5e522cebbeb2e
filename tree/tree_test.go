package tree_test

import (
	"slices"
	"testing"

	"gazetteer/api"
	"gazetteer/tree"
)

// five is the chapter's tree of five rows.
func five() api.Tree {
	t := tree.Empty()
	for i := range 4 {
		t, _, _ = tree.Put(t, uint32(i+1), at(int64(i), 0))
	}
	t, _, _ = tree.Put(t, 5, at(9, 9))
	return t
}

// P11.1: the tree without rows.
func TestEmpty(t *testing.T) {
	want := api.Tree{Nodes: []api.Node{{Id: 1, Leaf: true}}, Root: 1}
	wantTree(t, "Empty", tree.Empty(), want)
	wantCheck(t, "Empty", tree.Empty(), api.OK)
	wantTold(t, tree.Empty(), wide, 1)
	wantTold(t, tree.Empty(), at(0, 0), 0)
}

// P11.1: trees are the same, if all of their fields are; nil and empty lists are.
func TestSame(t *testing.T) {
	wantSame := func(what string, a, b api.Tree, want bool) {
		t.Helper()
		if tree.Same(a, b) != want || tree.Same(b, a) != want {
			t.Errorf("Same, %s: %v; want %v", what, !want, want)
		}
	}
	wantSame("nothing", api.Tree{}, api.Tree{}, true)
	wantSame("no nodes", api.Tree{Nodes: []api.Node{}}, api.Tree{}, true)
	wantSame("no entries", api.Tree{Nodes: []api.Node{{Entries: []api.Link{}}}}, api.Tree{Nodes: []api.Node{{}}}, true)
	wantSame("none and one", api.Tree{Nodes: []api.Node{{}}}, api.Tree{}, false)
	wantSame("grown again", five(), five(), true)
	wantSame("grown further", grown(20), grown(21), false)
	for what, change := range map[string]func(x *api.Tree){
		"Root":            func(x *api.Tree) { x.Root++ },
		"Count":           func(x *api.Tree) { x.Count++ },
		"an Id":           func(x *api.Tree) { x.Nodes[2].Id++ },
		"Leaf":            func(x *api.Tree) { x.Nodes[0].Leaf = false },
		"a Seal":          func(x *api.Tree) { x.Nodes[1].Seal++ },
		"a Right":         func(x *api.Tree) { x.Nodes[1].Right = 1 },
		"a node fewer":    func(x *api.Tree) { x.Nodes = x.Nodes[:2] },
		"a node more":     func(x *api.Tree) { x.Nodes = append(x.Nodes, api.Node{}) },
		"other order":     func(x *api.Tree) { slices.Reverse(x.Nodes) },
		"a Child":         func(x *api.Tree) { x.Nodes[0].Entries[0].Child = 7 },
		"X0":              func(x *api.Tree) { x.Nodes[0].Entries[1].Key.X0-- },
		"X1":              func(x *api.Tree) { x.Nodes[0].Entries[1].Key.X1++ },
		"Y0":              func(x *api.Tree) { x.Nodes[1].Entries[0].Key.Y0-- },
		"Y1":              func(x *api.Tree) { x.Nodes[2].Entries[0].Key.Y1++ },
		"an entry fewer":  func(x *api.Tree) { x.Nodes[0].Entries = x.Nodes[0].Entries[:1] },
		"an entry more":   func(x *api.Tree) { x.Nodes[0].Entries = append(x.Nodes[0].Entries, api.Link{}) },
		"none":            func(x *api.Tree) { x.Nodes[0].Entries = nil },
		"entries swapped": func(x *api.Tree) { slices.Reverse(x.Nodes[0].Entries) },
	} {
		x := five()
		change(&x)
		wantSame(what, five(), x, false)
		wantSame(what, x, x, true)
	}
}

// P11.2: the chapter's tree: windows, and rows.
func TestFindKnown(t *testing.T) {
	for _, c := range []struct {
		window api.Key
		rows   []uint32
	}{
		{box(-9, 9, -9, 9), []uint32{1, 2, 3, 4, 5}},
		{box(3, 9, 0, 9), []uint32{4, 5}},
		{wide, []uint32{1, 2, 3, 4, 5}},
		{at(0, 0), []uint32{1}},
		{at(9, 9), []uint32{5}},
		{box(1, 2, -5, 0), []uint32{2, 3}},
		{box(1, 2, 0, 5), []uint32{2, 3}},
		{box(1, 2, 1, 5), nil},
		{box(4, 9, 0, 8), nil},
		{at(5, 5), nil},
		{box(least, -1, least, most), nil},
		{box(10, most, least, most), nil},
	} {
		if rows, err := tree.Find(five(), c.window); err != api.OK || !slices.Equal(rows, c.rows) {
			t.Errorf("Find(%v): %v, error %d; want %v", c.window, rows, err, c.rows)
		}
	}
	for row, want := range map[uint32]api.Key{1: at(0, 0), 4: at(3, 0), 5: at(9, 9)} {
		if k, err := tree.Row(five(), row); err != api.OK || k != want {
			t.Errorf("Row(%d): %v, error %d; want %v", row, k, err, want)
		}
	}
	for _, row := range []uint32{0, 6, topId} {
		if k, err := tree.Row(five(), row); err != api.ErrNone || k != (api.Key{}) {
			t.Errorf("Row(%d): %v, error %d; want error %d", row, k, err, api.ErrNone)
		}
	}
}

// P11.2: an Id of a node is no row, nor a row a node's Id.
func TestIdsAreNoRows(t *testing.T) {
	x := numbered(node(leaf(10, 20), leaf(30)), 1)
	for row, want := range map[uint32]api.Errno{1: api.ErrNone, 2: api.ErrNone, 3: api.ErrNone, 10: api.OK, 30: api.OK} {
		if _, err := tree.Row(x, row); err != want {
			t.Errorf("Row(%d): error %d; want %d", row, err, want)
		}
		if _, _, err := tree.Take(x, row); err != want {
			t.Errorf("Take(%d): error %d; want %d", row, err, want)
		}
	}
	if y, _, err := tree.Put(x, 2, at(25, 0)); err != api.OK || len(found(y, wide)) != 4 {
		t.Errorf("Put(2): %v, error %d", y, err)
	}
}

// noBoxes are keys that are no boxes.
func noBoxes() []api.Key {
	return []api.Key{{X0: 1}, {Y0: 1}, {X1: -1}, {Y1: -1}, box(3, 2, 5, 9), box(2, 3, 9, 5), box(most, least, 0, 0), box(0, 0, most, least), box(least+1, least, 0, 0)}
}

// P11.2 to P11.4: what is no box is refused, ahead of the row that is there.
func TestNoBox(t *testing.T) {
	for _, x := range []api.Tree{tree.Empty(), five(), grown(30)} {
		for _, k := range noBoxes() {
			if rows, err := tree.Find(x, k); err != api.ErrArg || rows != nil {
				t.Errorf("Find(%v): %v, error %d", k, rows, err)
			}
			if way, err := tree.Leaf(x, k); err != api.ErrArg || way != nil {
				t.Errorf("Leaf(%v): %v, error %d", k, way, err)
			}
			for _, row := range []uint32{0, 1, 99} {
				if y, splits, err := tree.Put(x, row, k); err != api.ErrArg || len(splits) != 0 || !tree.Same(y, api.Tree{}) {
					t.Errorf("Put(%d, %v): %v, %v, error %d", row, k, y, splits, err)
				}
			}
		}
	}
}

// P11.3: where a row would go: by area, then by margin, then to the first one.
func TestLeafKnown(t *testing.T) {
	two := func(a, b api.Key) api.Tree {
		return numbered(node(
			&limb{leaf: true, rows: []api.Link{{Key: a, Child: 1}}},
			&limb{leaf: true, rows: []api.Link{{Key: b, Child: 2}}},
		), 1)
	}
	for _, c := range []struct {
		a, b, k api.Key
		leaf    uint32
	}{
		{box(0, 2, 0, 2), box(5, 9, 0, 2), at(3, 1), 2},                            // 2 of area; 4
		{box(0, 2, 0, 2), box(5, 9, 0, 2), at(4, 1), 3},                            // 4; 2
		{box(0, 4, 0, 1), box(0, 1, 2, 6), box(4, 5, 1, 1), 2},                     // 1; 20
		{at(0, 0), at(9, 0), at(4, 0), 2},                                          // no area each; 4 of margin, 5
		{at(0, 0), at(9, 0), at(5, 0), 3},                                          // 5, 4
		{at(0, 0), at(8, 0), at(4, 0), 2},                                          // as much each
		{box(0, 5, 0, 5), box(0, 9, 0, 9), at(1, 1), 2},                            // nothing each: the first
		{box(0, 9, 0, 9), box(0, 5, 0, 5), at(1, 1), 2},                            // the same
		{at(3, 3), box(0, 9, 0, 9), at(4, 4), 3},                                   // 1; nothing
		{at(3, 3), box(0, 9, 0, 9), at(3, 4), 3},                                   // no area each; 1 of margin, nothing
		{box(least, most, 0, 1), box(0, 0, 0, most), at(0, 2), 3},                  // 2^64 - 1; nothing
		{box(least, most, least, most-1), box(0, most, 0, most-1), at(0, most), 3}, // 2^64 - 1; 2^63 - 1
	} {
		x := two(c.a, c.b)
		if way, err := tree.Leaf(x, c.k); err != api.OK || !slices.Equal(way, []uint32{1, c.leaf}) {
			t.Errorf("Leaf(%v) of %v, %v: %v, error %d; want 1, %d", c.k, c.a, c.b, way, err, c.leaf)
		}
		wantTold(t, x, c.k, 1)
	}
	if way, err := tree.Leaf(tree.Empty(), wide); err != api.OK || !slices.Equal(way, []uint32{1}) {
		t.Errorf("Leaf of Empty: %v, error %d", way, err)
	}
	if way, err := tree.Leaf(numbered(chain(11, leaf(7)), 30), at(0, 0)); err != api.OK || len(way) != 12 || way[0] != 30 || way[11] != 41 {
		t.Errorf("Leaf of a chain: %v, error %d", way, err)
	}
}

// P11.3: a row goes into the leaf that is told, and through the nodes that are.
func TestLeafIsWherePutGoes(t *testing.T) {
	pick := picker(3)
	for range 200 {
		x, next := tree.Empty(), boxes(pick)
		for row := range uint32(40) {
			k := next()
			way, _ := tree.Leaf(x, k)
			y, splits, _ := tree.Put(x, row+1, k)
			last := way[len(way)-1]
			in := func(id uint32) bool {
				return slices.ContainsFunc(nodeOf(y, id).Entries, func(e api.Link) bool { return e.Child == row+1 })
			}
			if len(splits) == 0 && !in(last) || len(splits) > 0 && (splits[0].Old != last || !in(last) && !in(splits[0].New)) {
				t.Fatalf("Put(%d, %v) into %+v does not go to %d: %+v", row+1, k, x, last, y)
			}
			x = y
		}
	}
}

// P11.2, P11.3: trees all over, those that no Put makes too, against the chapter's words.
func TestToldAllOver(t *testing.T) {
	pick := picker(1)
	next := odd(pick)
	for range 200 {
		x, window := next(), boxes(pick)
		wantTold(t, x, wide, 0)
		for range 6 {
			wantTold(t, x, window(), uint32(pick(60)))
		}
		for _, e := range links(x) {
			wantTold(t, x, e.Key, e.Child)
		}
	}
}
