package pred_test

import (
	"slices"
	"testing"

	"gazetteer/api"
)

// moved is marks as they are at another node.
func moved(l []api.Pred, node uint32) []api.Pred {
	l = slices.Clone(l)
	for i := range l {
		l[i].Node = node
	}
	return l
}

// P15.3: what meets the key goes from each node to the next one, and on from there; what does not stays where it is.
func TestPass(t *testing.T) {
	a, b := mark(1, 7, box(0, 9, 0, 9)), mark(1, 8, at(20, 20))
	c, d := mark(2, 5, box(5, 6, 5, 6)), mark(2, 6, at(20, 20))
	a2, a3, c3, b2 := mark(2, 7, a.Window), mark(3, 7, a.Window), mark(3, 5, c.Window), mark(2, 8, b.Window)
	point, p := at(5, 5), marks(a, b, c, d)
	for _, x := range []struct {
		what string
		way  []uint32
		k    api.Key
		want []api.Pred
	}{
		{"along no node", nil, point, []api.Pred{a, b, c, d}},
		{"along one node", []uint32{1}, point, []api.Pred{a, b, c, d}},
		{"along two", []uint32{1, 2}, point, []api.Pred{a, b, c, d, a2}},
		{"along three", []uint32{1, 2, 3}, point, []api.Pred{a, b, c, d, a2, c3, a3}},
		{"from the second one", []uint32{2, 3}, point, []api.Pred{a, b, c, d, c3}},
		{"up", []uint32{2, 1}, point, []api.Pred{mark(1, 5, c.Window), a, b, c, d}},
		{"past one without marks", []uint32{1, 9, 3}, point, []api.Pred{a, b, c, d, a3, mark(9, 7, a.Window)}},
		{"from one without marks", []uint32{9, 3}, point, []api.Pred{a, b, c, d}},
		{"to the last Id", []uint32{1, topId}, point, []api.Pred{a, b, c, d, mark(topId, 7, a.Window)}},
		{"to itself", []uint32{1, 1, 1}, point, []api.Pred{a, b, c, d}},
		{"there and back", []uint32{1, 2, 1}, point, []api.Pred{mark(1, 5, c.Window), a, b, c, d, a2}},
		{"there, back and on", []uint32{2, 1, 2, 3}, point, []api.Pred{mark(1, 5, c.Window), a, b, c, d, a2, c3, a3}},
		{"the other one", []uint32{1, 2}, at(20, 20), []api.Pred{a, b, c, d, b2}},
		{"a key that meets both", []uint32{1, 2}, box(9, 20, 9, 20), []api.Pred{a, b, c, d, a2, b2}},
		{"by a border", []uint32{1, 2}, box(9, 19, 9, 20), []api.Pred{a, b, c, d, a2}},
		{"past a border", []uint32{1, 2}, box(10, 19, 0, 9), []api.Pred{a, b, c, d}},
		{"past another border", []uint32{1, 2}, box(0, 9, 10, 19), []api.Pred{a, b, c, d}},
		{"the key of all", []uint32{2, 9}, wide, []api.Pred{a, b, c, d, mark(9, 5, c.Window), mark(9, 6, d.Window)}},
	} {
		got, err := wantPass(t, p, x.way, x.k)
		slices.SortFunc(x.want, order)
		wantTold(t, x.what, got, err, x.want...)
		wantPass(t, got, x.way, x.k)
	}
}

// order is that of marks.
func order(a, b api.Pred) int {
	switch {
	case before(a, b):
		return -1
	case before(b, a):
		return 1
	}
	return 0
}

// P15.3: what comes later on a way is not lent to what lies ahead of it.
func TestPassGoesDown(t *testing.T) {
	a := mark(3, 7, wide)
	got, err := wantPass(t, marks(a), []uint32{1, 2, 3}, at(0, 0))
	wantTold(t, "at the end", got, err, a)
	got, err = wantPass(t, marks(a), []uint32{1, 3, 4, 1}, at(0, 0))
	wantTold(t, "in the middle", got, err, mark(1, 7, wide), a, mark(4, 7, wide))
}

// P15.3: what Pass may not be given; transactions and all else have no say.
func TestPassErrors(t *testing.T) {
	for _, p := range []api.Preds{{}, marks(mark(1, 7, wide)), marks(stair(1, 7, 512)...)} {
		for _, way := range [][]uint32{{0}, {0, 1}, {1, 0}, {1, 0, 2}, {1, 2, 3, 4, 5, 6, 0}, {0, 0}} {
			got, err := wantPass(t, p, way, at(0, 0))
			wantErr(t, "an Id 0", got, err, api.ErrArg)
		}
		for _, k := range []api.Key{box(1, 0, 0, 0), box(0, 0, 1, 0), box(most, least, 0, 0), box(0, 0, most, least)} {
			for _, way := range [][]uint32{nil, {1}, {1, 2}, {1, 0}} {
				got, err := wantPass(t, p, way, k)
				wantErr(t, "no box", got, err, api.ErrArg)
			}
		}
	}
}

// P15.3: as many marks as there may be behind a Pass, and one more.
func TestPassFull(t *testing.T) {
	half := stair(1, 7, 256)
	got, err := wantPass(t, marks(half...), []uint32{1, 2}, at(0, 0))
	wantTold(t, "512", got, err, append(slices.Clone(half), moved(half, 2)...)...)
	got, err = wantPass(t, got, []uint32{1, 2, 1, 2, 2}, at(0, 0))
	wantTold(t, "512 still", got, err, append(slices.Clone(half), moved(half, 2)...)...)
	got, err = wantPass(t, got, []uint32{1, 3}, at(0, 0))
	wantErr(t, "all once more", got, err, api.ErrFull)
	got, err = wantPass(t, marks(stair(1, 7, 257)...), []uint32{1, 2}, at(0, 0))
	wantErr(t, "514", got, err, api.ErrFull)
	got, err = wantPass(t, marks(append(stair(1, 7, 256), mark(9, 1, wide))...), []uint32{1, 2}, at(0, 0))
	wantErr(t, "513", got, err, api.ErrFull)
	third := stair(1, 7, 170)
	got, err = wantPass(t, marks(third...), []uint32{1, 2, 3}, at(0, 0))
	wantTold(t, "510", got, err, slices.Concat(third, moved(third, 2), moved(third, 3))...)
	got, err = wantPass(t, marks(third...), []uint32{1, 2, 3, 4}, at(0, 0))
	wantErr(t, "680", got, err, api.ErrFull)
	got, err = wantPass(t, marks(stair(1, 7, 512)...), []uint32{1, 2}, at(0, 1))
	wantTold(t, "512, none of which meets", got, err, stair(1, 7, 512)...)
	got, err = wantPass(t, marks(stair(1, 7, 512)...), []uint32{1, 2}, at(511, 0))
	wantErr(t, "512, one of which meets", got, err, api.ErrFull)
	got, err = wantPass(t, marks(stair(1, 7, 511)...), []uint32{1, 2}, at(510, 0))
	wantTold(t, "511, one of which meets", got, err, append(stair(1, 7, 511), mark(2, 7, box(0, 510, 0, 0)))...)
}

// P15.3: Pass all over.
func TestPassAllOver(t *testing.T) {
	pick := picker(2)
	full, more := 0, 0
	for range 2500 {
		p := some(pick)
		var way []uint32
		for range pick([]int{6, 60}[pick(2)]) {
			way = append(way, id(pick))
		}
		got, err := wantPass(t, p, way, window(pick))
		if err == api.ErrFull {
			full++
		} else if len(got.List) > len(p.List) {
			more++
		}
	}
	if full < 200 || more < 500 {
		t.Errorf("%d were full, %d had more", full, more)
	}
}
