package cursor_test

import (
	"slices"
	"testing"

	"gazetteer/api"
	"gazetteer/cursor"
	"gazetteer/tree"
)

// given is what calls are given, with room behind each list that holds something.
type given struct {
	x     api.Tree
	c     api.Cursor
	gone  []uint32
	links [][]api.Link
}

// give is a tree, a cursor and Ids, each list of which has room behind its end.
func give(x api.Tree, c api.Cursor, gone []uint32) given {
	var g given
	g.x, g.c = x, c
	nodes := append(slices.Clone(x.Nodes), api.Node{Id: 900, Seal: 9}, api.Node{Id: 901})
	for i := range nodes {
		all := append(slices.Clone(nodes[i].Entries), api.Link{Key: wide, Child: 70}, api.Link{Child: 71})
		g.links = append(g.links, all)
		nodes[i].Entries = all[:len(nodes[i].Entries)]
	}
	g.x.Nodes = nodes[:len(x.Nodes)]
	g.c.Open = append(slices.Clone(c.Open), slices.Repeat(seen(6, 77), 8)...)[:len(c.Open)]
	g.c.Rows = append(slices.Clone(c.Rows), 7, 6, 5, 4, 3, 2, 1)[:len(c.Rows)]
	g.gone = append(slices.Clone(gone), 7, 6, 5)[:len(gone)]
	return g
}

// all is all that was given, with the room behind the ends.
func (g given) all() string {
	return text([]any{g.x.Root, g.x.Count, g.x.Nodes[:cap(g.x.Nodes)], g.links, g.c.Window, g.c.Open[:cap(g.c.Open)], g.c.Rows[:cap(g.c.Rows)], g.gone[:cap(g.gone)]})
}

// spoil changes all that was given.
func (g given) spoil() {
	for _, l := range g.links {
		clear(l)
	}
	clear(g.x.Nodes)
	clear(g.c.Open[:cap(g.c.Open)])
	clear(g.c.Rows[:cap(g.c.Rows)])
	clear(g.gone)
}

// answers is what is told of what was given.
type answers struct {
	check, e1, e2, e3    api.Errno
	over, same           bool
	id                   uint32
	start, step, without api.Cursor
}

func (g given) told() answers {
	var a answers
	a.check = cursor.Check(g.c)
	a.over, a.same = cursor.Over(g.c), cursor.Same(g.c, g.c)
	a.start, a.e1 = cursor.Start(g.x, g.c.Window)
	a.step, a.id, a.e2 = cursor.Step(g.x, g.c)
	a.without, a.e3 = cursor.Gone(g.x, g.c, g.gone)
	return a
}

// spoil changes all lists that were answered, the room behind their ends with them.
func (a answers) spoil() {
	for _, c := range []api.Cursor{a.start, a.step, a.without} {
		clear(c.Open[:cap(c.Open)])
		clear(c.Rows[:cap(c.Rows)])
	}
}

// anything is what calls may be given, right and wrong.
func anything(pick func(n int) int) given {
	x := odd(pick)
	c := some(x, pick)
	gone := shuffled(ids(x), pick)[:pick(len(x.Nodes)+1)]
	switch pick(12) {
	case 0:
		x.Root = uint32(pick(3))
	case 1:
		x.Nodes[pick(len(x.Nodes))].Entries = nil
	case 2:
		c.Window = box(int64(pick(3)), int64(pick(3)), int64(pick(3)), int64(pick(3)))
	case 3:
		c.Open = append(c.Open, api.Seen{Id: uint32(pick(2)), Count: 9})
	case 4:
		c.Rows = append(c.Rows, uint32(pick(80)))
	case 5:
		c.Open = nil
	}
	return give(x, c, gone)
}

// R3: what is handed in is as it was, the room behind its lists with it.
func TestWhatIsGivenStays(t *testing.T) {
	pick := picker(6)
	for range 2000 {
		g := anything(pick)
		before := g.all()
		g.told()
		if g.all() != before {
			t.Fatalf("what was handed in is changed: %s; was %s", g.all(), before)
		}
	}
}

// R3: what is answered is new memory: it shares none with what was handed in, nor with what is answered again, nor within itself.
func TestAnswersAreNew(t *testing.T) {
	pick := picker(7)
	for range 2000 {
		g := anything(pick)
		a, b := g.told(), g.told()
		before, want := g.all(), text(b)
		a.spoil()
		if g.all() != before || text(b) != want || text(g.told()) != want {
			t.Fatal("answers share memory with what was handed in, or with answers")
		}
		g.spoil()
		if text(b) != want {
			t.Fatal("answers hang on what was handed in when it is changed later")
		}
	}
	x := five()
	over := api.Cursor{Window: wide, Rows: []uint32{1, 2, 3}}
	got, _, _ := cursor.Step(x, over)
	got.Rows[0] = 9
	if over.Rows[0] != 1 {
		t.Error("a step of one that is over answers the list that it was given")
	}
}

// R2, P13.2 to P13.4: of several errors the first one is answered, and nothing beside it.
func TestOrderOfErrors(t *testing.T) {
	pick := picker(8)
	trees, cursors := 0, 0
	for range 4000 {
		g := anything(pick)
		a := g.told()
		want := api.OK
		if !mayBe(g.c) {
			want = api.ErrCursor
			cursors++
		}
		if a.check != want {
			t.Fatalf("Check of %+v: error %d; want %d", g.c, a.check, want)
		}
		if tree.Check(g.x) != api.OK {
			want = api.ErrTree
			trees++
			if a.e1 != want || text(a.start) != text(api.Cursor{}) {
				t.Fatalf("Start in %+v: %+v, error %d", g.x, a.start, a.e1)
			}
		}
		if want != api.OK {
			wantNone(t, "wrong", g.x, g.c, want)
			continue
		}
		wantStep(t, g.x, g.c)
		wantGone(t, g.x, g.c, g.gone...)
	}
	if trees < 200 || cursors < 200 {
		t.Errorf("%d wrong trees, %d wrong cursors", trees, cursors)
	}
	full := api.Cursor{Window: wide, Open: append(others(127), api.Seen{Id: 3}, api.Seen{Id: 0})}
	wantNone(t, "too many, and an Id 0", five(), full, api.ErrCursor)
	wantNone(t, "that, with no tree", api.Tree{Root: 1}, full, api.ErrTree)
	full.Open = append(others(127), api.Seen{Id: 3})
	wantNone(t, "too many, with no tree", api.Tree{Root: 1}, full, api.ErrTree)
	full.Open = append(others(127), api.Seen{Id: 9})
	x := fan(2)
	c, id, e1 := cursor.Step(x, full)
	d, e2 := cursor.Gone(x, full, []uint32{9})
	if e1 != api.ErrFull || e2 != api.ErrFull || id != 0 || text([]api.Cursor{c, d}) != text(make([]api.Cursor, 2)) {
		t.Errorf("too many: Step: %+v, %d, error %d; Gone: %+v, error %d", c, id, e1, d, e2)
	}
}

// R5: calls leave nothing behind for later ones.
func TestCallsStandAlone(t *testing.T) {
	pick := picker(9)
	for range 200 {
		g := anything(pick)
		want := text(g.told())
		for range 10 {
			anything(pick).told()
			if got := text(g.told()); got != want {
				t.Fatalf("a call is answered otherwise when it comes again: %s; want %s", got, want)
			}
		}
	}
}

// bushy is a tree of nearly as many nodes as may be: leaf i, up to 380, has row i, and leads to the next one.
func bushy(t *testing.T) api.Tree {
	t.Helper()
	var leaves [][]api.Link
	for i := range 380 {
		leaves = append(leaves, []api.Link{{Key: at(int64(i), 0), Child: uint32(i + 1)}})
	}
	x := raised(leaves, func() int { return 4 })
	x.Count = 9
	for i := range 379 {
		x.Nodes[i].Seal, x.Nodes[i].Right = 9, uint32(i+2)
	}
	if err := tree.Check(x); err != api.OK || len(x.Nodes) < 500 {
		t.Fatalf("%d nodes, error %d", len(x.Nodes), err)
	}
	return x
}

// R1: calls end, and none panics, however much they are given: lists far longer than there are nodes, and ways through all of a tree from each one that is open.
func TestHoweverMuchIsGiven(t *testing.T) {
	x := bushy(t)
	gone := make([]uint32, 2000000)
	for i := range gone {
		gone[i] = uint32(i)
	}
	all := api.Cursor{Window: wide, Open: slices.Repeat(seen(0, 1, x.Root), 64)}
	if c, err := cursor.Gone(x, all, gone); err != api.OK || !cursor.Over(c) {
		t.Errorf("all go: %d open, error %d", len(c.Open), err)
	}
	last := slices.DeleteFunc(ids(x), func(id uint32) bool { return id == 380 })
	if c, err := cursor.Gone(x, all, last); err != api.OK || len(c.Open) != 128 {
		t.Errorf("all but the last leaf go: %d open, error %d", len(c.Open), err)
	}
	if c, err := cursor.Gone(x, all, last[380:]); err != api.ErrFull || len(c.Open) != 0 {
		t.Errorf("all inner nodes go: %d open, error %d", len(c.Open), err)
	}
	rows := make([]uint32, 1000000)
	for i := range rows {
		rows[i] = uint32(i + 1)
	}
	c, id, err := cursor.Step(x, api.Cursor{Window: wide, Open: seen(9, 7), Rows: rows})
	if err != api.OK || id != 7 || !slices.Equal(c.Rows, rows) {
		t.Errorf("a million rows: %d of them, %d went, error %d", len(c.Rows), id, err)
	}
	wrong := api.Tree{Root: 1, Nodes: make([]api.Node, 1000000)}
	wantNone(t, "a million nodes", wrong, all, api.ErrTree)
}
