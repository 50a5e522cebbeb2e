package pred_test

import (
	"slices"
	"testing"

	"gazetteer/api"
)

// wantTold wants that a call told these marks, and no error.
func wantTold(t *testing.T, what string, got api.Preds, err api.Errno, want ...api.Pred) {
	t.Helper()
	if err != api.OK || !slices.Equal(got.List, want) {
		t.Fatalf("%s:\n%+v, error %d; want\n%+v", what, got, err, want)
	}
}

// wantErr wants that a call told an error, and nothing beside it.
func wantErr(t *testing.T, what string, got api.Preds, err, want api.Errno) {
	t.Helper()
	if err != want || text(got) != text(api.Preds{}) {
		t.Fatalf("%s: %+v, error %d; want error %d", what, got, err, want)
	}
}

// P15.2: what is attached stands in its place; what is there already stays there once.
func TestAttach(t *testing.T) {
	a, b, c := mark(2, 5, box(0, 3, 0, 3)), mark(2, 7, box(0, 3, 0, 3)), mark(4, 1, at(0, 0))
	for _, x := range []api.Pred{a, b, c, mark(1, 1, wide), mark(topId, topTxn, at(most, most))} {
		got, err := wantAttach(t, api.Preds{}, x)
		wantTold(t, "the first one", got, err, x)
		got, err = wantAttach(t, got, x)
		wantTold(t, "one that is there", got, err, x)
	}
	all := []api.Pred{a, b, c}
	for i, x := range all {
		got, err := wantAttach(t, marks(slices.Delete(slices.Clone(all), i, i+1)...), x)
		wantTold(t, "one of three", got, err, all...)
		got, err = wantAttach(t, marks(all...), x)
		wantTold(t, "one that is there", got, err, all...)
	}
	for _, x := range []api.Pred{ // just ahead of b, or just behind it, by one field
		mark(1, 7, b.Window), mark(3, 7, b.Window), mark(2, 6, b.Window), mark(2, 8, b.Window),
		mark(2, 7, box(-1, 3, 0, 3)), mark(2, 7, box(1, 3, 0, 3)), mark(2, 7, box(0, 2, 0, 3)), mark(2, 7, box(0, 4, 0, 3)),
		mark(2, 7, box(0, 3, -1, 3)), mark(2, 7, box(0, 3, 1, 3)), mark(2, 7, box(0, 3, 0, 2)), mark(2, 7, box(0, 3, 0, 4)),
	} {
		got, err := wantAttach(t, marks(b), x)
		want := []api.Pred{b, x}
		if before(x, b) {
			want = []api.Pred{x, b}
		}
		wantTold(t, "one that is nearly there", got, err, want...)
	}
}

// P15.2: what is no mark.
func TestAttachErrors(t *testing.T) {
	for _, p := range []api.Preds{{}, marks(mark(1, 1, wide)), marks(stair(1, 1, 512)...)} {
		for _, x := range []api.Pred{
			{}, mark(0, 1, wide), mark(1, 0, wide), mark(0, 0, wide), mark(0, topTxn, at(1, 1)), mark(topId, 0, at(1, 1)),
			mark(1, 1, box(1, 0, 0, 0)), mark(1, 1, box(0, 0, 1, 0)), mark(1, 1, box(most, least, 0, 0)), mark(1, 1, box(0, 0, most, least)),
		} {
			got, err := wantAttach(t, p, x)
			wantErr(t, "no mark", got, err, api.ErrArg)
		}
	}
}

// P15.2: as many marks as there may be, and one more.
func TestAttachFull(t *testing.T) {
	all := stair(3, 3, 512)
	for i, x := range all {
		got, err := wantAttach(t, marks(slices.Delete(slices.Clone(all), i, i+1)...), x)
		wantTold(t, "the 512th", got, err, all...)
		got, err = wantAttach(t, marks(all...), x)
		wantTold(t, "one that is there, of 512", got, err, all...)
	}
	for _, x := range []api.Pred{mark(1, 1, wide), mark(3, 3, box(0, 512, 0, 0)), mark(3, 3, box(0, 4, 0, 1)), mark(3, 4, at(0, 0)), mark(topId, topTxn, wide)} {
		got, err := wantAttach(t, marks(all...), x)
		wantErr(t, "the 513th", got, err, api.ErrFull)
	}
}

// P15.2: all marks of a transaction go, and none of any other.
func TestRelease(t *testing.T) {
	a, b, c, d := mark(1, 5, wide), mark(1, 7, wide), mark(1, 7, at(0, 0)), mark(1, topTxn, wide)
	e, f := mark(2, 5, wide), mark(3, 7, wide)
	p := marks(a, b, c, d, e, f)
	for txn, want := range map[uint64][]api.Pred{
		5: {b, c, d, f}, 7: {a, d, e}, topTxn: {a, b, c, e, f},
		1: p.List, 4: p.List, 6: p.List, 8: p.List, topTxn - 1: p.List,
	} {
		got, err := wantRelease(t, p, txn)
		wantTold(t, "a release", got, err, want...)
		got, err = wantRelease(t, got, txn)
		wantTold(t, "a release again", got, err, want...)
	}
	got, err := wantRelease(t, p, 0)
	wantErr(t, "transaction 0", got, err, api.ErrArg)
	got, err = wantRelease(t, api.Preds{}, 0)
	wantErr(t, "transaction 0 of none", got, err, api.ErrArg)
	got, err = wantRelease(t, api.Preds{}, 3)
	wantTold(t, "of none", got, err)
	got, err = wantRelease(t, marks(stair(1, 9, 512)...), 9)
	wantTold(t, "all 512", got, err)
	got, err = wantRelease(t, marks(stair(1, 9, 512)...), 8)
	wantTold(t, "none of 512", got, err, stair(1, 9, 512)...)
}

// P15.2: all over: what is attached is there, what is released is not, and nothing else comes or goes.
func TestAttachAndReleaseAllOver(t *testing.T) {
	pick := picker(1)
	seen := map[api.Errno]int{}
	for range 3000 {
		p := some(pick)
		for range 5 {
			x := mark(id(pick), uint64(1+pick(6)), window(pick))
			if len(p.List) > 0 && pick(3) == 0 {
				x = p.List[pick(len(p.List))]
			}
			q, err := wantAttach(t, p, x)
			seen[err]++
			if err == api.OK {
				p = q
			}
		}
		wantRelease(t, p, uint64(pick(7)))
	}
	if seen[api.OK] < 10000 || seen[api.ErrFull] < 500 {
		t.Errorf("errors %v", seen)
	}
}
