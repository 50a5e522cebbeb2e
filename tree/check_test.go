package tree_test

import (
	"testing"

	"gazetteer/api"
	"gazetteer/tree"
)

// base is a tree of three levels, of Ids 1 to 8: the root 1 over 2 (over 3, 4) and 5 (over 6, 7, 8); rows 10 to 80. Its Count is 5.
func base() api.Tree {
	x := numbered(node(node(leaf(10, 20), leaf(30)), node(leaf(40), leaf(50, 60), leaf(70, 80))), 1)
	x.Count = 5
	return x
}

// wantChanged wants of base with a change what Check says.
func wantChanged(t *testing.T, want api.Errno, changes map[string]func(x *api.Tree)) {
	t.Helper()
	for what, change := range changes {
		x := base()
		change(&x)
		wantCheck(t, what, x, want)
	}
}

// covered is a tree with the Keys that its inner nodes ought to have.
func covered(x api.Tree) api.Tree {
	return of(x).tree()
}

// right gives a node a Right.
func right(x *api.Tree, id, to uint32) {
	nodeOf(*x, id).Right = to
}

// P11.1: trees that may be, some of which no Put makes.
func TestCheckRight(t *testing.T) {
	for what, x := range map[string]api.Tree{
		"Empty":                 tree.Empty(),
		"an empty root":         {Nodes: []api.Node{{Id: topId, Leaf: true, Seal: 9}}, Root: topId, Count: topCount},
		"a root of one":         numbered(leaf(7), 1),
		"a root of four":        numbered(leaf(7, 3, 9, topId), 1),
		"a root over one":       numbered(node(leaf(7)), 1),
		"12 levels, one each":   numbered(chain(11, leaf(7)), 1),
		"12 levels, many":       numbered(steep(12, 12), 1),
		"512 nodes":             numbered(bushy(4, 1, 4, 16, 64, 171, 256), 1),
		"512 nodes, Ids at end": numbered(bushy(4, 1, 4, 16, 64, 171, 256), topId-511),
		"five":                  five(),
		"grown":                 grown(200),
	} {
		wantCheck(t, what, x, api.OK)
	}
	wantChanged(t, api.OK, map[string]func(x *api.Tree){
		"nothing":             func(x *api.Tree) {},
		"Count 0":             func(x *api.Tree) { x.Count = 0 },
		"Seals as Count":      func(x *api.Tree) { x.Nodes[0].Seal, x.Nodes[5].Seal = 5, 5 },
		"rows as Ids":         func(x *api.Tree) { x.Nodes[2].Entries[0].Child, x.Nodes[2].Entries[1].Child = 1, 3 },
		"a Key twice":         func(x *api.Tree) { x.Nodes[6].Entries[0].Key = at(60, 0); *x = covered(*x) },
		"a wider leaf":        func(x *api.Tree) { x.Nodes[6].Entries[0].Key = wide; *x = covered(*x) },
		"a Right":             func(x *api.Tree) { right(x, 2, 5) },
		"a Right of a cousin": func(x *api.Tree) { right(x, 8, 3) },
		"Rights in a row":     func(x *api.Tree) { right(x, 3, 4); right(x, 4, 6); right(x, 6, 7); right(x, 7, 8) },
		"Rights backwards":    func(x *api.Tree) { right(x, 8, 7); right(x, 7, 6); right(x, 6, 4); right(x, 4, 3); right(x, 5, 2) },
		"Rights that meet":    func(x *api.Tree) { right(x, 3, 8); right(x, 4, 8); right(x, 6, 8); right(x, 8, 7) },
	})
}

// P11.1: nodes that may not be, by what they say of themselves.
func TestCheckNodes(t *testing.T) {
	wantChanged(t, api.ErrTree, map[string]func(x *api.Tree){
		"no nodes":             func(x *api.Tree) { x.Nodes = nil },
		"nothing":              func(x *api.Tree) { *x = api.Tree{} },
		"an Id 0":              func(x *api.Tree) { x.Nodes[0].Id, x.Root = 0, 0 },
		"an Id twice":          func(x *api.Tree) { x.Nodes[7].Id = 7 },
		"an Id twice, as told": func(x *api.Tree) { x.Nodes = append(x.Nodes, x.Nodes[7]) },
		"Ids that fall":        func(x *api.Tree) { x.Nodes[6], x.Nodes[7] = x.Nodes[7], x.Nodes[6] },
		"the root last":        func(x *api.Tree) { x.Nodes = append(x.Nodes[1:], x.Nodes[0]) },
		"a Seal above Count":   func(x *api.Tree) { x.Nodes[3].Seal = 6 },
		"the root's Seal":      func(x *api.Tree) { x.Nodes[0].Seal = topCount },
		"Count below a Seal":   func(x *api.Tree) { x.Nodes[7].Seal, x.Count = 5, 4 },
		"a leaf of none":       func(x *api.Tree) { x.Nodes[3].Entries = nil },
		"a leaf of none, by Key": func(x *api.Tree) {
			*x = numbered(node(leaf(5), leaf(6)), 1)
			x.Nodes[0].Entries[1].Key, x.Nodes[2].Entries = api.Key{}, nil
		},
		"an inner of none, by Key": func(x *api.Tree) {
			*x = numbered(node(chain(1, leaf(5)), chain(1, leaf(6))), 1)
			x.Nodes[0].Entries[1].Key, x.Nodes[3].Entries, x.Nodes = api.Key{}, nil, x.Nodes[:4]
		},
		"an inner one of none": func(x *api.Tree) { x.Nodes[1].Entries = nil },
		"a root of none":       func(x *api.Tree) { x.Nodes[0].Entries = nil },
		"a root of none alone": func(x *api.Tree) { x.Nodes = []api.Node{{Id: 1}} },
		"a leaf of five":       func(x *api.Tree) { n := &x.Nodes[3]; n.Entries = leaf(31, 32, 33, 34, 35).rows; *x = covered(*x) },
		"a root of five":       func(x *api.Tree) { *x = numbered(leaf(1, 2, 3, 4, 5), 1) },
		"an inner one of five": func(x *api.Tree) { *x = numbered(node(leaf(1), leaf(2), leaf(3), leaf(4), leaf(5)), 1) },
		"a row 0":              func(x *api.Tree) { x.Nodes[3].Entries[0].Child = 0 },
		"a row 0 in a root":    func(x *api.Tree) { *x = numbered(leaf(0), 1) },
		"a Child 0":            func(x *api.Tree) { x.Nodes[1].Entries[0].Child = 0 },
	})
	for _, k := range noBoxes() {
		wantChanged(t, api.ErrTree, map[string]func(x *api.Tree){
			"no box in a leaf": func(x *api.Tree) { x.Nodes[6].Entries[1].Key = k },
			"no box above":     func(x *api.Tree) { x.Nodes[4].Entries[1].Key = k },
			"no box in a root": func(x *api.Tree) {
				*x = api.Tree{Nodes: []api.Node{{Id: 1, Leaf: true, Entries: []api.Link{{Key: k, Child: 1}}}}, Root: 1}
			},
			"no box as well":    func(x *api.Tree) { x.Nodes[3].Entries[0].Key = k; x.Nodes[1].Entries[1].Key = k },
			"no box over boxes": func(x *api.Tree) { x.Nodes[0].Entries[0].Key = k },
		})
	}
}

// P11.1: nodes that do not stand together as they must.
func TestCheckTogether(t *testing.T) {
	wantChanged(t, api.ErrTree, map[string]func(x *api.Tree){
		"no root":                  func(x *api.Tree) { x.Root = 9 },
		"a root 0":                 func(x *api.Tree) { x.Root = 0 },
		"a root below":             func(x *api.Tree) { x.Root = 2 },
		"a leaf as root":           func(x *api.Tree) { x.Root = 3 },
		"a Child that is none":     func(x *api.Tree) { x.Nodes[1].Entries[1].Child = 9 },
		"a Child twice":            func(x *api.Tree) { x.Nodes[1].Entries[1] = x.Nodes[1].Entries[0] },
		"a Child of two":           func(x *api.Tree) { x.Nodes[1].Entries = append(x.Nodes[1].Entries, x.Nodes[4].Entries[0]) },
		"a Child of two, deeper":   func(x *api.Tree) { x.Nodes[0].Entries = append(x.Nodes[0].Entries, x.Nodes[4].Entries[0]) },
		"the root as Child":        func(x *api.Tree) { x.Nodes[1].Entries[0].Child = 1 },
		"a root above itself":      func(x *api.Tree) { x.Nodes = []api.Node{{Id: 1, Entries: []api.Link{{Child: 1}}}} },
		"two above each other":     func(x *api.Tree) { x.Nodes[1].Entries[0].Child, x.Nodes[4].Entries[0].Child = 5, 2 },
		"one that is not reached":  func(x *api.Tree) { x.Nodes = append(x.Nodes, api.Node{Id: 9, Leaf: true, Entries: leaf(99).rows}) },
		"an empty one beside":      func(x *api.Tree) { x.Nodes = append(x.Nodes, api.Node{Id: 9, Leaf: true}) },
		"leaves beside a leaf":     func(x *api.Tree) { x.Nodes[0].Leaf = true },
		"a leaf that is none":      func(x *api.Tree) { x.Nodes[3].Leaf = false },
		"a leaf above":             func(x *api.Tree) { *x = numbered(node(leaf(1), node(leaf(2))), 1) },
		"a leaf above, behind":     func(x *api.Tree) { *x = numbered(node(node(leaf(2)), leaf(1)), 1) },
		"leaves all over":          func(x *api.Tree) { *x = numbered(node(chain(2, leaf(1)), chain(1, leaf(2)), chain(3, leaf(3))), 1) },
		"13 levels":                func(x *api.Tree) { *x = numbered(chain(12, leaf(7)), 1) },
		"13 levels, many":          func(x *api.Tree) { *x = numbered(steep(13, 13), 1) },
		"500 levels":               func(x *api.Tree) { *x = numbered(chain(500, leaf(7)), 1) },
		"513 nodes":                func(x *api.Tree) { *x = numbered(bushy(1, 1, 4, 16, 64, 171, 257), 1) },
		"a Key too wide":           func(x *api.Tree) { x.Nodes[1].Entries[0].Key.X1++ },
		"a Key too high":           func(x *api.Tree) { x.Nodes[4].Entries[2].Key.Y0-- },
		"a Key too narrow":         func(x *api.Tree) { x.Nodes[0].Entries[1].Key.X1-- },
		"a row outside":            func(x *api.Tree) { x.Nodes[2].Entries[0].Key = at(5, 1) },
		"a row outside, far below": func(x *api.Tree) { x.Nodes[2].Entries[0].Key = at(5, 0); x.Nodes[1].Entries[0].Key = box(5, 20, 0, 0) },
		"Keys swapped":             func(x *api.Tree) { e := x.Nodes[1].Entries; e[0].Key, e[1].Key = e[1].Key, e[0].Key },
		"a row twice in a leaf":    func(x *api.Tree) { x.Nodes[7].Entries[0].Child = 80 },
		"a row in two leaves":      func(x *api.Tree) { x.Nodes[7].Entries[0].Child = 10 },
		"a row, all of it, twice":  func(x *api.Tree) { n := &x.Nodes[2]; n.Entries[1] = n.Entries[0]; *x = covered(*x) },
	})
}

// P11.1: Rights that lead nowhere, to other levels, or in a circle.
func TestCheckRights(t *testing.T) {
	wantChanged(t, api.ErrTree, map[string]func(x *api.Tree){
		"that is none":        func(x *api.Tree) { right(x, 3, 9) },
		"that is a row":       func(x *api.Tree) { right(x, 3, 10) },
		"the greatest":        func(x *api.Tree) { right(x, 8, topId) },
		"of the root":         func(x *api.Tree) { right(x, 1, 2) },
		"of the root, a leaf": func(x *api.Tree) { right(x, 1, 8) },
		"the root":            func(x *api.Tree) { right(x, 2, 1) },
		"the one above":       func(x *api.Tree) { right(x, 3, 2) },
		"the one below":       func(x *api.Tree) { right(x, 2, 3) },
		"an uncle":            func(x *api.Tree) { right(x, 3, 5) },
		"itself":              func(x *api.Tree) { right(x, 4, 4) },
		"the root, itself":    func(x *api.Tree) { right(x, 1, 1) },
		"each other":          func(x *api.Tree) { right(x, 2, 5); right(x, 5, 2) },
		"a circle of three":   func(x *api.Tree) { right(x, 6, 7); right(x, 7, 8); right(x, 8, 6) },
		"a circle of all":     func(x *api.Tree) { right(x, 3, 4); right(x, 4, 6); right(x, 6, 7); right(x, 7, 8); right(x, 8, 3) },
		"into a circle":       func(x *api.Tree) { right(x, 3, 4); right(x, 4, 6); right(x, 6, 7); right(x, 7, 6) },
		"out of the highest":  func(x *api.Tree) { right(x, 8, 7); right(x, 7, 8) },
	})
	wantCheck(t, "an empty root's", api.Tree{Nodes: []api.Node{{Id: 1, Leaf: true, Right: 1}}, Root: 1}, api.ErrTree)
	wantCheck(t, "an empty root's, of none", api.Tree{Nodes: []api.Node{{Id: 1, Leaf: true, Right: 2}}, Root: 1}, api.ErrTree)
}

// P11.1: trees all over that may be, and what comes of them by one or two changes, against the chapter's words.
func TestCheckAllOver(t *testing.T) {
	pick := picker(2)
	next := odd(pick)
	count := map[bool]int{}
	for range 4000 {
		x := next()
		wantCheck(t, "odd", x, api.OK)
		for range 1 + pick(2) {
			twist(&x, pick)
		}
		want := api.ErrTree
		if mayBe(x) {
			want = api.OK
		}
		count[mayBe(x)]++
		wantCheck(t, "twisted", x, want)
	}
	if count[true] < 500 || count[false] < 500 {
		t.Errorf("counted: %v", count)
	}
}

// twist changes something of a tree.
func twist(x *api.Tree, pick func(n int) int) {
	if len(x.Nodes) == 0 {
		return
	}
	n := &x.Nodes[pick(len(x.Nodes))]
	other := x.Nodes[pick(len(x.Nodes))]
	any := []uint32{other.Id, 0, n.Id, other.Id + 1, x.Root}[pick(5)]
	switch kind := pick(12); {
	case kind == 0:
		x.Root = any
	case kind == 1:
		n.Id = any
	case kind == 2:
		n.Leaf = !n.Leaf
	case kind == 3:
		n.Seal = x.Count + uint64(pick(3)) - 1
	case kind == 4:
		x.Count -= uint64(pick(4))
	case kind < 8:
		n.Right = any
	case kind == 8:
		at := pick(len(x.Nodes))
		x.Nodes = append(append([]api.Node(nil), x.Nodes[:at]...), x.Nodes[at+1:]...)
	case kind == 9:
		n.Entries = append(append([]api.Link(nil), n.Entries...), api.Link{Key: firstKey(other), Child: uint32(pick(200))})
	case len(n.Entries) == 0:
	case kind == 10:
		n.Entries[pick(len(n.Entries))].Child = any
	default:
		e := &n.Entries[pick(len(n.Entries))].Key
		*[]*int64{&e.X0, &e.X1, &e.Y0, &e.Y1}[pick(4)] += int64(pick(3)) - 1
	}
}

// firstKey is the Key of a node's first entry.
func firstKey(n api.Node) api.Key {
	if len(n.Entries) == 0 {
		return api.Key{}
	}
	return n.Entries[0].Key
}
