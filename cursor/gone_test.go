package cursor_test

import (
	"slices"
	"testing"

	"gazetteer/api"
	"gazetteer/cursor"
	"gazetteer/tree"
)

// seen is a list of Ids that are open, each with the same Count.
func seen(count uint64, ids ...uint32) []api.Seen {
	var l []api.Seen
	for _, id := range ids {
		l = append(l, api.Seen{Id: id, Count: count})
	}
	return l
}

// P13.4: what goes gives way to what a step of it opens, in its place.
func TestGoneKnown(t *testing.T) {
	x := fan(3) // 9 above 1, 2, 3; Count 7
	for _, c := range []struct {
		what       string
		x          api.Tree
		window     api.Key
		gone       []uint32
		open, want []api.Seen
	}{
		{"nothing goes", x, wide, nil, seen(3, 9, 2, 77), seen(3, 9, 2, 77)},
		{"what is not open goes", x, wide, []uint32{1, 3}, seen(3, 9, 2, 77), seen(3, 9, 2, 77)},
		{"nothing is open", x, wide, []uint32{1, 9}, nil, nil},
		{"a leaf goes", x, wide, []uint32{2}, seen(3, 1, 2, 3), seen(3, 1, 3)},
		{"all leaves go", x, wide, []uint32{1, 2, 3}, seen(3, 1, 2, 3), nil},
		{"a root goes", x, wide, []uint32{9}, seen(3, 9), seen(7, 3, 2, 1)},
		{"a root goes between others", x, wide, []uint32{9}, seen(7, 50, 9, 51), seen(7, 50, 3, 2, 1, 51)},
		{"a window meets one", x, at(2, 1), []uint32{9}, seen(7, 50, 9, 51), seen(7, 50, 2, 51)},
		{"a window meets none", x, at(8, 8), []uint32{9}, seen(7, 50, 9, 51), seen(7, 50, 51)},
		{"a root and its first Child", x, wide, []uint32{1, 9}, seen(7, 50, 9, 51), seen(7, 50, 3, 2, 51)},
		{"a root and its last Child", x, wide, []uint32{3, 9}, seen(7, 50, 9, 51), seen(7, 50, 2, 1, 51)},
		{"all", x, wide, []uint32{1, 2, 3, 9}, seen(7, 50, 9, 51), seen(7, 50, 51)},
		{"in any order, twice, and what is none", x, wide, []uint32{9, 0, 3, 9, 100, 3, topId, 0}, seen(7, 50, 9, 51), seen(7, 50, 2, 1, 51)},
		{"one Id twice", x, at(2, 0), []uint32{9}, append(seen(4, 9), seen(2, 2, 9)...), append(seen(7, 2), append(seen(2, 2), seen(7, 2)...)...)},
		{"an Id that the tree does not have goes", x, wide, []uint32{77}, seen(7, 50, 77, 51), seen(7, 50, 51)},
		{"a leaf that leads to the right", with(x, 1, 5, 2), wide, []uint32{1}, seen(4, 50, 1, 51), seen(4, 50, 2, 51)},
		{"one that was Seen behind that", with(x, 1, 5, 2), wide, []uint32{1}, seen(5, 50, 1, 51), seen(5, 50, 51)},
		{"one without a Right", with(x, 1, 5, 0), wide, []uint32{1}, seen(4, 50, 1, 51), seen(4, 50, 51)},
		{"the right one goes, too", with(x, 1, 5, 2), wide, []uint32{1, 2}, seen(4, 50, 1, 51), seen(4, 50, 51)},
		{"the right one leads on", with(with(x, 1, 5, 2), 2, 6, 3), wide, []uint32{1, 2}, seen(4, 50, 1, 51), seen(4, 50, 3, 51)},
		{"the right one does not lead on", with(with(x, 1, 5, 2), 2, 4, 3), wide, []uint32{1, 2}, seen(4, 50, 1, 51), seen(4, 50, 51)},
		{"two lead to one", with(with(x, 1, 5, 3), 2, 6, 3), wide, []uint32{1, 2}, seen(4, 1, 2), seen(4, 3, 3)},
		{"a Child does not lead to the right", with(x, 1, 7, 2), wide, []uint32{1, 9}, seen(0, 9), seen(7, 3, 2)},
	} {
		d := api.Cursor{Window: c.window, Open: c.open, Rows: []uint32{4, 10}}
		got, err := wantGone(t, c.x, d, c.gone...)
		wantCursor(t, c.what, got, err, api.Cursor{Window: c.window, Open: c.want, Rows: []uint32{4, 10}})
	}
}

// P13.4: an inner node that goes gives way to its Right one, with what was Seen, and then to its Childs, with the tree's Count; and so do these.
func TestGoneDeep(t *testing.T) {
	x := row(20)
	inner := x.Nodes[slices.IndexFunc(x.Nodes, func(n api.Node) bool { return !n.Leaf && n.Right != 0 })]
	open := []api.Seen{{Id: 900}, {Id: inner.Id, Count: inner.Seal - 1}, {Id: 901}}
	c := api.Cursor{Window: wide, Open: open, Rows: []uint32{3}}
	want := []api.Seen{{Id: 900}, {Id: inner.Right, Count: inner.Seal - 1}}
	for _, e := range slices.Backward(inner.Entries) {
		want = append(want, api.Seen{Id: e.Child, Count: x.Count})
	}
	want = append(want, api.Seen{Id: 901})
	got, err := wantGone(t, x, c, inner.Id)
	wantCursor(t, "an inner node", got, err, api.Cursor{Window: wide, Open: want, Rows: []uint32{3}})

	want = []api.Seen{{Id: 900}}
	for _, e := range slices.Backward(nodeOf(x, inner.Right).Entries) {
		want = append(want, api.Seen{Id: e.Child, Count: x.Count})
	}
	want = append(want, api.Seen{Id: 901})
	gone := []uint32{inner.Id, inner.Right}
	for _, e := range inner.Entries {
		gone = append(gone, e.Child)
	}
	got, err = wantGone(t, x, c, gone...)
	wantCursor(t, "it, its Childs and its Right one", got, err, api.Cursor{Window: wide, Open: want, Rows: []uint32{3}})

	got, err = wantGone(t, x, api.Cursor{Window: wide, Open: seen(0, x.Root)}, ids(x)...)
	wantCursor(t, "all nodes", got, err, api.Cursor{Window: wide})
}

// P13.4: a root that goes, and the next one, as chapter 11 has it: what is open stands for the row that stays.
func TestGoneRoots(t *testing.T) {
	x := row(30)
	c, _ := cursor.Start(x, wide)
	roots := 0
	for i := uint32(30); i > 1; i-- {
		y, gone, err := tree.Take(x, i)
		if err != api.OK {
			t.Fatalf("Take(%d): error %d", i, err)
		}
		if y.Root != x.Root {
			roots++
		}
		c, _ = wantGone(t, x, c, gone...)
		x = y
	}
	if rows := run(t, x, c, x.Root); roots < 2 || !slices.Equal(rows, []uint32{1}) {
		t.Errorf("%d roots went; found %v", roots, rows)
	}
}

// P13.4: as many as may be open, and one more; what gives way itself is not among them.
func TestGoneFull(t *testing.T) {
	window := func(childs int) api.Key {
		if childs == 0 {
			return at(0, 0)
		}
		return box(1, int64(childs), 0, 0)
	}
	for open := 120; open <= 127; open++ {
		for childs := range 5 {
			for _, place := range []int{0, 60, open} {
				c := api.Cursor{Window: window(childs), Open: slices.Insert(others(open), place, api.Seen{Id: 9})}
				want := api.OK
				if open+childs > 128 {
					want = api.ErrFull
				}
				if got, err := wantGone(t, fan(4), c, 9); err != want || err == api.OK && len(got.Open) != open+childs {
					t.Errorf("%d open, and %d at %d: %d, error %d", open, childs, place, len(got.Open), err)
				}
				for went := range childs {
					want := api.OK
					if open+childs-1-went > 128 {
						want = api.ErrFull
					}
					if _, err := wantGone(t, fan(4), c, []uint32{9, 1, 2, 3, 4}[:went+2]...); err != want {
						t.Errorf("%d open, and %d at %d, of which %d go: error %d; want %d", open, childs, place, went+1, err, want)
					}
				}
			}
		}
	}
	many := api.Cursor{Window: wide, Open: slices.Repeat(seen(0, 9), 128)}
	if _, err := wantGone(t, fan(4), many, 9); err != api.ErrFull {
		t.Errorf("128 times a root: error %d", err)
	}
	if got, err := wantGone(t, fan(4), many, 9, 1, 2, 3, 4); err != api.OK || len(got.Open) != 0 {
		t.Errorf("128 times all: %d open, error %d", len(got.Open), err)
	}
	if got, err := wantGone(t, fan(4), many, 9, 1, 2, 3); err != api.OK || len(got.Open) != 128 {
		t.Errorf("128 times all but one: %d open, error %d", len(got.Open), err)
	}
	if _, err := wantGone(t, fan(4), many, 9, 1, 2); err != api.ErrFull {
		t.Errorf("128 times all but two: error %d", err)
	}
}

// P13.4: nodes that go all over, from trees that no Put makes, too, of which any go.
func TestGoneAllOver(t *testing.T) {
	pick := picker(2)
	full, more, fewer := 0, 0, 0
	for range 6000 {
		x := odd(pick)
		c := some(x, pick)
		var gone []uint32
		share := 1 + pick(3)
		for _, id := range append(ids(x), 1, 150, 5000, 0) {
			for range pick(share + 1) {
				gone = append(gone, id)
			}
		}
		got, err := wantGone(t, x, c, shuffled(gone, pick)...)
		switch {
		case err != api.OK:
			full++
			continue
		case len(got.Open) > len(c.Open):
			more++
		case len(got.Open) < len(c.Open):
			fewer++
		}
		wantCheck(t, "behind a going", got, api.OK)
		for _, s := range got.Open {
			if slices.Contains(gone, s.Id) {
				t.Fatalf("%d went, and is open: %+v", s.Id, got)
			}
		}
	}
	if full < 50 || more < 50 || fewer < 500 {
		t.Errorf("%d were full, %d had more open then, %d fewer", full, more, fewer)
	}
}
