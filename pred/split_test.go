package pred_test

import (
	"slices"
	"testing"

	"gazetteer/api"
)

// splits is a list of splits.
func splits(l ...api.Split) []api.Split {
	return l
}

// P15.3: all marks of the old node are attached to the new one, and to a new root, split by split.
func TestSplit(t *testing.T) {
	a, b, c := mark(1, 7, at(0, 0)), mark(1, 8, wide), mark(2, 5, at(9, 9))
	p := marks(a, b, c)
	at := func(node uint32, l ...api.Pred) []api.Pred { return moved(l, node) }
	for _, x := range []struct {
		what string
		l    []api.Split
		root uint32
		want []api.Pred
	}{
		{"no splits", nil, 3, p.List},
		{"one", splits(api.Split{Old: 1, New: 4}), 3, append(at(4, a, b), p.List...)},
		{"one of a node without marks", splits(api.Split{Old: 6, New: 4, Root: true}), 3, p.List},
		{"one with a new root", splits(api.Split{Old: 1, New: 4, Root: true}), 5, slices.Concat(p.List, at(4, a, b), at(5, a, b))},
		{"to a node with marks", splits(api.Split{Old: 1, New: 2}), 3, append(at(2, a, b), p.List...)},
		{"a root with marks", splits(api.Split{Old: 2, New: 4, Root: true}), 1, slices.Concat(p.List, at(4, c), at(1, c))},
		{"the last Id", splits(api.Split{Old: 2, New: topId - 1, Root: true}), topId, slices.Concat(p.List, at(topId-1, c), at(topId, c))},
		{"what a split attached goes on", splits(api.Split{Old: 1, New: 4}, api.Split{Old: 4, New: 6}), 3, slices.Concat(p.List, at(4, a, b), at(6, a, b))},
		{"a later split gives nothing to an earlier one", splits(api.Split{Old: 4, New: 6}, api.Split{Old: 1, New: 4}), 3, append(at(4, a, b), p.List...)},
		{"a leaf, and the root above it", splits(api.Split{Old: 1, New: 4}, api.Split{Old: 2, New: 6, Root: true}), 7, slices.Concat(p.List, at(4, a, b), at(6, c), at(7, c))},
		{"what the root is given goes on", splits(api.Split{Old: 1, New: 4, Root: true}, api.Split{Old: 7, New: 8}), 7, slices.Concat(p.List, at(4, a, b), at(7, a, b), at(8, a, b))},
		{"roots twice", splits(api.Split{Old: 1, New: 4, Root: true}, api.Split{Old: 2, New: 6, Root: true}), 7, slices.Concat(p.List, at(4, a, b), at(6, c), at(7, a, b, c))},
		{"to itself", splits(api.Split{Old: 1, New: 1, Root: true}), 1, p.List},
		{"twice the same", splits(api.Split{Old: 1, New: 4}, api.Split{Old: 1, New: 4}), 3, append(at(4, a, b), p.List...)},
		{"there, back and on", splits(api.Split{Old: 1, New: 2}, api.Split{Old: 2, New: 1}, api.Split{Old: 1, New: 2}), 3, slices.Concat(at(1, c), p.List, at(2, a, b))},
	} {
		slices.SortFunc(x.want, order)
		got, err := wantSplit(t, p, x.l, x.root)
		wantTold(t, x.what, got, err, x.want...)
	}
}

// P15.3: an Id 0 in each place, whether anything hangs on it or not.
func TestSplitErrors(t *testing.T) {
	right := api.Split{Old: 1, New: 2}
	for _, p := range []api.Preds{{}, marks(mark(1, 7, wide)), marks(stair(1, 7, 512)...)} {
		for _, wrong := range []api.Split{{}, {Root: true}, {Old: 1}, {New: 1}, {Old: 1, Root: true}, {New: 2, Root: true}, {Old: topId}, {New: topId}} {
			for _, l := range [][]api.Split{splits(wrong), splits(wrong, right), splits(right, wrong), splits(right, right, wrong)} {
				got, err := wantSplit(t, p, l, 3)
				wantErr(t, "an Id 0", got, err, api.ErrArg)
			}
		}
		for _, l := range [][]api.Split{nil, splits(right), splits(api.Split{Old: 1, New: 2, Root: true})} {
			got, err := wantSplit(t, p, l, 0)
			wantErr(t, "the root 0", got, err, api.ErrArg)
		}
	}
}

// P15.3: as many marks as there may be behind splits, and one more.
func TestSplitFull(t *testing.T) {
	half, third := stair(1, 7, 256), stair(1, 7, 170)
	one, root := splits(api.Split{Old: 1, New: 2}), splits(api.Split{Old: 1, New: 2, Root: true})
	got, err := wantSplit(t, marks(half...), one, 9)
	wantTold(t, "512", got, err, append(slices.Clone(half), moved(half, 2)...)...)
	got, err = wantSplit(t, got, splits(api.Split{Old: 2, New: 1}, api.Split{Old: 1, New: 2}), 9)
	wantTold(t, "512 still", got, err, append(slices.Clone(half), moved(half, 2)...)...)
	got, err = wantSplit(t, got, splits(api.Split{Old: 5, New: 6}, api.Split{Old: 1, New: 3}), 9)
	wantErr(t, "768", got, err, api.ErrFull)
	got, err = wantSplit(t, marks(append(stair(1, 7, 256), mark(9, 1, wide))...), one, 9)
	wantErr(t, "513", got, err, api.ErrFull)
	got, err = wantSplit(t, marks(third...), root, 9)
	wantTold(t, "510", got, err, slices.Concat(third, moved(third, 2), moved(third, 9))...)
	got, err = wantSplit(t, marks(append(slices.Clone(third), mark(5, 1, wide), mark(6, 1, wide))...), root, 9)
	wantTold(t, "512 with the root", got, err, slices.Concat(third, moved(third, 2), []api.Pred{mark(5, 1, wide), mark(6, 1, wide)}, moved(third, 9))...)
	got, err = wantSplit(t, marks(stair(1, 7, 171)...), root, 9)
	wantErr(t, "513 with the root", got, err, api.ErrFull)
	got, err = wantSplit(t, marks(stair(1, 7, 171)...), one, 9)
	wantTold(t, "342 without it", got, err, append(stair(1, 7, 171), stair(2, 7, 171)...)...)
}

// P15.3: Split all over.
func TestSplitAllOver(t *testing.T) {
	pick := picker(3)
	full, more := 0, 0
	for range 2500 {
		p := some(pick)
		var l []api.Split
		for range pick([]int{5, 50}[pick(2)]) {
			l = append(l, api.Split{Old: id(pick), New: id(pick), Root: pick(3) == 0})
		}
		got, err := wantSplit(t, p, l, id(pick))
		if err == api.ErrFull {
			full++
		} else if len(got.List) > len(p.List) {
			more++
		}
	}
	if full < 200 || more < 500 {
		t.Errorf("%d were full, %d had more", full, more)
	}
}
