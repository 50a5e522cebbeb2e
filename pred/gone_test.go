package pred_test

import (
	"slices"
	"testing"

	"gazetteer/api"
)

// P15.3: marks of nodes that went go; what the root had that there was is attached to the root that there is.
func TestGone(t *testing.T) {
	a, b, c, d := mark(1, 7, at(0, 0)), mark(2, 8, wide), mark(3, 5, at(9, 9)), mark(3, 9, wide)
	p := marks(a, b, c, d)
	at := func(node uint32, l ...api.Pred) []api.Pred { return moved(l, node) }
	for _, x := range []struct {
		what      string
		gone      []uint32
		old, root uint32
		want      []api.Pred
	}{
		{"nothing", nil, 3, 3, p.List},
		{"a node", []uint32{2}, 3, 3, []api.Pred{a, c, d}},
		{"a node without marks", []uint32{6, topId}, 3, 3, p.List},
		{"two nodes", []uint32{1, 2}, 3, 3, []api.Pred{c, d}},
		{"in another order, one twice", []uint32{2, 9, 1, 2}, 3, 3, []api.Pred{c, d}},
		{"a root", []uint32{2, 3}, 3, 1, append(at(1, c, d), a)},
		{"a root, in another order", []uint32{3, 2}, 3, 1, append(at(1, c, d), a)},
		{"a root, and then one without marks", []uint32{3}, 3, 4, append(at(4, c, d), a, b)},
		{"a root, and then the last Id", []uint32{3}, 3, topId, append(at(topId, c, d), a, b)},
		{"a root without marks", []uint32{6, 2}, 6, 1, []api.Pred{a, c, d}},
		{"a root that stays", []uint32{2}, 3, 1, append(at(1, c, d), a, c, d)},
		{"a root that stays, nothing goes", nil, 3, 2, append(at(2, c, d), a, b, c, d)},
		{"two roots, one above the other", []uint32{1, 3}, 3, 2, append(at(2, c, d), b)},
		{"what the root between had goes", []uint32{2, 3}, 3, 7, append(at(7, c, d), a)},
		{"a root with the Id of one that went", []uint32{1, 3}, 3, 1, append(at(1, c, d), b)},
		{"a root that there was and is, with the Id of one that went", []uint32{3}, 3, 3, []api.Pred{a, b}},
		{"all", []uint32{1, 2, 3}, 1, 1, nil},
	} {
		slices.SortFunc(x.want, order)
		got, err := wantGone(t, p, x.gone, x.old, x.root)
		wantTold(t, x.what, got, err, x.want...)
	}
	both := marks(mark(1, 5, c.Window), mark(3, 5, c.Window))
	got, err := wantGone(t, both, []uint32{3}, 3, 1)
	wantTold(t, "a mark that both roots had", got, err, mark(1, 5, c.Window))
}

// P15.3: an Id 0 in each place, whether anything hangs on it or not.
func TestGoneErrors(t *testing.T) {
	for _, p := range []api.Preds{{}, marks(mark(1, 7, wide)), marks(stair(1, 7, 512)...)} {
		for _, gone := range [][]uint32{{0}, {0, 1}, {1, 0}, {5, 0, 6}, {0, 0}} {
			got, err := wantGone(t, p, gone, 2, 2)
			wantErr(t, "0 went", got, err, api.ErrArg)
			got, err = wantGone(t, p, gone, 1, 2)
			wantErr(t, "0 went", got, err, api.ErrArg)
		}
		for _, gone := range [][]uint32{nil, {1}, {0}, {1, 2, 3}} {
			for _, roots := range [][2]uint32{{0, 1}, {1, 0}, {0, 0}, {topId, 0}, {0, topId}} {
				got, err := wantGone(t, p, gone, roots[0], roots[1])
				wantErr(t, "a root 0", got, err, api.ErrArg)
			}
		}
	}
}

// P15.3: as many marks as there may be behind a going, and one more: what goes makes room.
func TestGoneFull(t *testing.T) {
	half := stair(3, 7, 256)
	got, err := wantGone(t, marks(half...), nil, 3, 1)
	wantTold(t, "512", got, err, append(moved(half, 1), half...)...)
	got, err = wantGone(t, got, nil, 3, 1)
	wantTold(t, "512 still", got, err, append(moved(half, 1), half...)...)
	got, err = wantGone(t, got, nil, 3, 2)
	wantErr(t, "768", got, err, api.ErrFull)
	got, err = wantGone(t, marks(append(stair(3, 7, 256), mark(4, 1, wide))...), nil, 3, 1)
	wantErr(t, "513", got, err, api.ErrFull)
	got, err = wantGone(t, marks(append(stair(3, 7, 256), mark(4, 1, wide))...), []uint32{4}, 3, 1)
	wantTold(t, "512, as one goes", got, err, append(moved(half, 1), half...)...)
	all := append(stair(2, 7, 100), stair(3, 7, 412)...)
	got, err = wantGone(t, marks(all...), []uint32{2, 3}, 3, 1)
	wantTold(t, "a root of 412", got, err, stair(1, 7, 412)...)
	got, err = wantGone(t, marks(all...), []uint32{3}, 3, 1)
	wantTold(t, "a root of 412, and 100 more", got, err, append(stair(1, 7, 412), stair(2, 7, 100)...)...)
	got, err = wantGone(t, marks(all...), []uint32{2}, 3, 1)
	wantErr(t, "a root of 412 that stays", got, err, api.ErrFull)
	got, err = wantGone(t, marks(stair(3, 7, 512)...), []uint32{3}, 3, 1)
	wantTold(t, "a root of 512", got, err, stair(1, 7, 512)...)
	got, err = wantGone(t, marks(stair(3, 7, 512)...), nil, 3, 3)
	wantTold(t, "a root of 512, the same one", got, err, stair(3, 7, 512)...)
}

// P15.3: Gone all over.
func TestGoneAllOver(t *testing.T) {
	pick := picker(4)
	full, more, fewer := 0, 0, 0
	for range 2500 {
		p := some(pick)
		var gone []uint32
		for range pick(5) {
			gone = append(gone, id(pick))
		}
		got, err := wantGone(t, p, gone, id(pick), id(pick))
		switch {
		case err == api.ErrFull:
			full++
		case len(got.List) > len(p.List):
			more++
		case len(got.List) < len(p.List):
			fewer++
		}
	}
	if full < 50 || more < 200 || fewer < 500 {
		t.Errorf("%d were full, %d had more, %d fewer", full, more, fewer)
	}
}
