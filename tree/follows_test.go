package tree_test

import (
	"maps"
	"slices"
	"testing"

	"gazetteer/api"
	"gazetteer/tree"
)

// wantBook wants that a tree may be, and tells just the rows of a book, for all windows, and for some.
func wantBook(t *testing.T, x api.Tree, book map[uint32]api.Key, windows ...api.Key) {
	t.Helper()
	if err := tree.Check(x); err != api.OK {
		t.Fatalf("Check of %+v: error %d", x, err)
	}
	for _, window := range append(windows, wide) {
		var want []uint32
		for row, k := range book {
			if meets(k, window) {
				want = append(want, row)
			}
		}
		slices.Sort(want)
		if rows, err := tree.Find(x, window); err != api.OK || !slices.Equal(rows, want) {
			t.Fatalf("Find(%v) of %+v: %v, error %d; want %v", window, x, rows, err, want)
		}
	}
}

// wantRows wants that each row of a book has its Key, and no other row is there.
func wantRows(t *testing.T, x api.Tree, book map[uint32]api.Key, rows uint32) {
	t.Helper()
	for row := range rows {
		want, there := book[row]
		wantErr := api.OK
		if !there {
			wantErr = api.ErrNone
		}
		if k, err := tree.Row(x, row); err != wantErr || k != want {
			t.Fatalf("Row(%d) of %+v: %v, error %d; want %v, error %d", row, x, k, err, want, wantErr)
		}
	}
}

// P11.4 to P11.6: rows that come and go: each tree is as the chapter's words say, may be, and has just the rows that were put in and not taken out.
func TestPutAndTakeAllOver(t *testing.T) {
	pick := picker(4)
	splits, deepest := uint64(0), 0
	for range 60 {
		x, next, book := tree.Empty(), boxes(pick), map[uint32]api.Key{}
		puts := 1 + pick(9)
		for range 150 {
			row, k := uint32(pick(90)), next()
			_, there := book[row]
			if pick(10) < puts {
				x = wantPut(t, x, row, k)
				if !there && row != 0 {
					book[row] = k
				}
			} else {
				x = wantTake(t, x, row)
				delete(book, row)
			}
			wantBook(t, x, book, next(), k)
			way, _ := tree.Leaf(x, k)
			deepest = max(deepest, len(way))
		}
		splits += x.Count
		wantRows(t, x, book, 90)
		for row := range uint32(90) {
			x = wantTake(t, x, row)
		}
		wantBook(t, x, nil, next())
	}
	if splits < 500 || deepest < 4 {
		t.Errorf("%d splits, %d levels at most", splits, deepest)
	}
}

// P11.4 to P11.6: so it is of trees that no Put makes.
func TestOddTreesChange(t *testing.T) {
	pick := picker(5)
	tell := odd(pick)
	went, full := 0, 0
	for range 600 {
		x, next, book := tell(), boxes(pick), map[uint32]api.Key{}
		for _, e := range links(x) {
			book[e.Child] = e.Key
		}
		for range 12 {
			row, k := uint32(1+pick(60)), next()
			if _, there := book[row]; pick(2) == 0 && len(book) > 0 || there {
				rows := slices.Sorted(maps.Keys(book))
				row = rows[pick(len(rows))]
				nodes := len(x.Nodes)
				x = wantTake(t, x, row)
				delete(book, row)
				went += max(0, nodes-len(x.Nodes)-1)
			} else if _, _, err := tree.Put(x, row, k); err == api.ErrFull {
				full++
				wantPut(t, x, row, k)
			} else {
				x = wantPut(t, x, row, k)
				book[row] = k
			}
			wantBook(t, x, book, next(), k)
		}
	}
	if went < 200 || full < 20 {
		t.Errorf("%d nodes went with others, %d Puts were full", went, full)
	}
}

// P11.6: Put and Take of a row leave the same rows, with their Keys; Take and Put do, too.
func TestThereAndBack(t *testing.T) {
	pick := picker(6)
	tell := odd(pick)
	count := 0
	for range 1500 {
		x, next := tell(), boxes(pick)
		before := links(x)
		if y, _, err := tree.Put(x, topId, next()); err == api.OK {
			count++
			z, _, err := tree.Take(y, topId)
			if err != api.OK || !slices.Equal(links(z), before) || tree.Check(z) != api.OK {
				t.Fatalf("Put and Take of a row into %+v: %+v, error %d", x, z, err)
			}
		}
		if len(before) == 0 {
			continue
		}
		e := before[pick(len(before))]
		y, _, err := tree.Take(x, e.Child)
		if err != api.OK || len(links(y)) != len(before)-1 {
			t.Fatalf("Take(%d) of %+v: %+v, error %d", e.Child, x, y, err)
		}
		if z, _, err := tree.Put(y, e.Child, e.Key); err == api.OK {
			count++
			if !slices.Equal(links(z), before) || tree.Check(z) != api.OK {
				t.Fatalf("Take and Put of row %d of %+v: %+v", e.Child, x, z)
			}
		}
	}
	if count < 2000 {
		t.Errorf("%d ways there and back", count)
	}
}

// onward is the Ids of a node and of those that one comes to from it by Rights.
func onward(x api.Tree, id uint32) []uint32 {
	var all []uint32
	for ; id != 0; id = nodeOf(x, id).Right {
		all = append(all, id)
	}
	return all
}

// P11.4, P11.6: whoever was on the way to a node ahead of a Put finds what was in it by its Seal and Rights: as long as a Seal is above the Count that there was, one goes on.
func TestLinksLeadToTheRest(t *testing.T) {
	pick := picker(7)
	told := 0
	for range 100 {
		x, next := tree.Empty(), boxes(pick)
		for row := range uint32(20) {
			x, _, _ = tree.Put(x, row+1, next())
		}
		y := x
		for row := range uint32(40) {
			y, _, _ = tree.Put(y, row+21, next())
		}
		for _, n := range x.Nodes {
			var there []uint32
			for _, id := range onward(y, n.Id) {
				for _, e := range nodeOf(y, id).Entries {
					there = append(there, e.Child)
				}
				if nodeOf(y, id).Seal <= x.Count {
					break
				}
				told++
			}
			for _, e := range n.Entries {
				if !slices.Contains(there, e.Child) {
					t.Fatalf("from %d of %+v one does not come to %d in %+v", n.Id, x, e.Child, y)
				}
			}
		}
	}
	if told < 500 {
		t.Errorf("%d Seals told of more", told)
	}
}
