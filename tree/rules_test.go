package tree_test

import (
	"math"
	"slices"
	"testing"

	"gazetteer/api"
	"gazetteer/tree"
)

// roomy is a tree with room behind all of its lists that holds something, and all of these lists.
func roomy(x api.Tree) (list api.Tree, nodes []api.Node, links [][]api.Link) {
	nodes = append(slices.Clone(x.Nodes), api.Node{Id: 900, Seal: 9}, api.Node{Id: 901, Right: 7})
	for i := range nodes {
		entries := append(slices.Clone(nodes[i].Entries), entry(7, at(7, 7)), entry(8, wide), entry(9, at(9, 9)))
		links = append(links, entries)
		nodes[i].Entries = entries[:len(entries)-3]
	}
	x.Nodes = nodes[:len(x.Nodes)]
	return x, nodes, links
}

// every calls all that takes a tree.
func every(x api.Tree, row uint32, k api.Key) {
	tree.Check(x)
	tree.Find(x, k)
	tree.Leaf(x, k)
	tree.Put(x, row, k)
	tree.Take(x, row)
	tree.Row(x, row)
	tree.Same(x, x)
}

// R3: trees that are handed in are as they were, with the room behind their lists, whether they are taken or refused.
func TestWhatIsGivenStays(t *testing.T) {
	pick := picker(8)
	tell := odd(pick)
	for i := range 400 {
		x, next := tell(), boxes(pick)
		if i%2 == 0 {
			x = grown(i / 5)
		}
		if i%5 == 0 {
			twist(&x, pick)
		}
		given, nodes, links := roomy(x)
		before := text(nodes) + text(links)
		for range 5 {
			every(given, uint32(pick(40)), next())
		}
		every(given, 0, api.Key{X0: 1})
		if text(nodes)+text(links) != before || text(given) != text(x) {
			t.Fatalf("a tree is changed, or the room behind its lists: %+v", x)
		}
	}
}

// scratch writes over all lists of a tree, with the room behind them.
func scratch(x api.Tree) {
	nodes := x.Nodes[:cap(x.Nodes)]
	for i := range nodes {
		clear(nodes[i].Entries[:cap(nodes[i].Entries)])
	}
	clear(nodes)
}

// wantApart wants that no two nodes of a tree share memory: each one's lists are written over, with the room behind them, and no other node changes.
func wantApart(t *testing.T, x api.Tree) {
	t.Helper()
	for i, n := range x.Nodes {
		rest := text(x.Nodes[i+1:])
		clear(n.Entries[:cap(n.Entries)])
		if text(x.Nodes[i+1:]) != rest {
			t.Fatalf("node %d shares memory with a later one", n.Id)
		}
	}
}

// R3: what is answered is new memory: it shares none with what was handed in, nor with what is answered again, nor within itself.
func TestAnswersAreNew(t *testing.T) {
	pick := picker(9)
	for n := range 40 {
		x, next := grown(n), boxes(pick)
		before := text(x)
		k, row := next(), uint32(n+1)
		y, splits, _ := tree.Put(x, row, k)
		z, splitsAgain, _ := tree.Put(x, row, k)
		u, gone, _ := tree.Take(y, uint32(1+n/2))
		v, goneAgain, _ := tree.Take(y, uint32(1+n/2))
		rows, _ := tree.Find(y, wide)
		rowsAgain, _ := tree.Find(y, wide)
		way, _ := tree.Leaf(y, k)
		wayAgain, _ := tree.Leaf(y, k)
		want := text([]any{z, splitsAgain, v, goneAgain, rowsAgain, wayAgain})
		clear(splits[:cap(splits)])
		clear(gone[:cap(gone)])
		clear(rows[:cap(rows)])
		clear(way[:cap(way)])
		scratch(u)
		if got := text([]any{z, splitsAgain, v, goneAgain, rowsAgain, wayAgain}); got != want || text(y) != text(z) {
			t.Fatalf("of %d rows: answers share memory", n)
		}
		scratch(y)
		if text(x) != before || text([]any{z, splitsAgain, v, goneAgain, rowsAgain, wayAgain}) != want {
			t.Fatalf("of %d rows: answers share memory with what was handed in", n)
		}
		wantApart(t, z)
		wantApart(t, v)
	}
	a, b := tree.Empty(), tree.Empty()
	scratch(a)
	if text(b) != text(tree.Empty()) || len(b.Nodes) != 1 || b.Nodes[0].Id != 1 {
		t.Error("Empty answers one memory twice")
	}
}

// R1, R2: no call panics, whatever it is given, and all end: trees that are all wrong, in all fields.
func TestWhateverIsGiven(t *testing.T) {
	pick := picker(10)
	ids := []uint32{0, 1, 2, 3, 4, topId, topId - 1}
	for range 20000 {
		x := api.Tree{Root: ids[pick(len(ids))], Count: []uint64{0, 1, math.MaxUint64}[pick(3)]}
		for i := range pick(6) {
			n := api.Node{Id: ids[pick(len(ids))], Leaf: pick(2) == 0, Seal: uint64(pick(3)), Right: ids[pick(len(ids))] * uint32(pick(2))}
			if pick(3) > 0 {
				n.Id = uint32(i + 1)
			}
			for range pick(6) {
				n.Entries = append(n.Entries, entry(ids[pick(len(ids))], at(int64(pick(2)), 0)))
			}
			x.Nodes = append(x.Nodes, n)
		}
		want := api.ErrTree
		if mayBe(x) {
			want = api.OK
		}
		wantCheck(t, "anything", x, want)
		every(x, ids[pick(len(ids))], box(0, int64(pick(3))-1, 0, 0))
	}
	long := api.Tree{Root: 1, Nodes: make([]api.Node, 1<<20)}
	wantCheck(t, "a million nodes", long, api.ErrTree)
	long = tree.Empty()
	long.Nodes[0].Entries = make([]api.Link, 1<<20)
	wantCheck(t, "a million entries", long, api.ErrTree)
}

// R5: calls leave nothing behind for later ones, and do not hang on how a map is gone through.
func TestCallsStandAlone(t *testing.T) {
	pick := picker(11)
	tell := odd(pick)
	for range 100 {
		x, next := tell(), boxes(pick)
		k := next()
		told := func() string {
			rows, e := tree.Find(x, k)
			way, f := tree.Leaf(x, k)
			y, splits, g := tree.Put(x, topId, k)
			z, gone, h := tree.Take(x, 3)
			return text([]any{rows, e, way, f, y, splits, g, z, gone, h})
		}
		want := told()
		for range 10 {
			every(tell(), uint32(pick(50)), next())
			every(api.Tree{}, 1, k)
			if got := told(); got != want {
				t.Fatalf("a call is answered otherwise when it comes again: %s; want %s", got, want)
			}
		}
	}
}
