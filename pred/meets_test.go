package pred_test

import (
	"slices"
	"testing"

	"gazetteer/api"
)

// P15.4: the transactions that have a mark at the node whose window meets the key: rising, none twice, and without the own one.
func TestMeets(t *testing.T) {
	p := marks(
		mark(1, 9, wide),
		mark(2, 3, box(0, 3, 0, 3)), mark(2, 3, box(2, 5, 2, 5)), mark(2, 3, at(20, 20)),
		mark(2, 5, box(3, 9, 3, 9)), mark(2, 7, at(20, 20)), mark(2, topTxn, box(-9, 3, -9, 3)),
		mark(4, 8, wide),
	)
	for _, x := range []struct {
		what string
		node uint32
		k    api.Key
		own  uint64
		want []uint64
	}{
		{"two windows of one, and others", 2, at(3, 3), 1, []uint64{3, 5, topTxn}},
		{"its own one is the first", 2, at(3, 3), 3, []uint64{5, topTxn}},
		{"its own one is in the middle", 2, at(3, 3), 5, []uint64{3, topTxn}},
		{"its own one is the last", 2, at(3, 3), topTxn, []uint64{3, 5}},
		{"its own one does not meet it", 2, at(3, 3), 7, []uint64{3, 5, topTxn}},
		{"the first and the last window of one", 2, box(0, 20, 0, 20), 5, []uint64{3, 7, topTxn}},
		{"one", 2, at(9, 9), 1, []uint64{5}},
		{"that is its own", 2, at(9, 9), 5, nil},
		{"by a border", 2, box(9, 12, -9, 3), 1, []uint64{5}},
		{"by a corner", 2, box(-20, -9, -20, -9), 1, []uint64{topTxn}},
		{"past a border, one way", 2, box(10, 12, 3, 9), 1, nil},
		{"past a border, the other way", 2, box(3, 9, 10, 12), 1, nil},
		{"all", 2, wide, 1, []uint64{3, 5, 7, topTxn}},
		{"none", 2, at(50, 50), 1, nil},
		{"the first node", 1, at(3, 3), 1, []uint64{9}},
		{"the last node", 4, at(3, 3), 1, []uint64{8}},
		{"a node without marks, between", 3, wide, 1, nil},
		{"a node without marks, at the end", topId, wide, 1, nil},
	} {
		if got, err := wantMeets(t, p, x.node, x.k, x.own); err != api.OK || !slices.Equal(got, x.want) {
			t.Errorf("%s: %v, error %d; want %v", x.what, got, err, x.want)
		}
	}
	if got, err := wantMeets(t, api.Preds{}, 1, wide, 1); err != api.OK || len(got) > 0 {
		t.Errorf("of none: %v, error %d", got, err)
	}
	if got, err := wantMeets(t, marks(stair(1, 7, 512)...), 1, at(0, 0), 1); err != api.OK || !slices.Equal(got, []uint64{7}) {
		t.Errorf("of 512 of one transaction: %v, error %d", got, err)
	}
	var many []api.Pred
	var txns []uint64
	for i := range uint64(512) {
		many, txns = append(many, mark(1, i+1, wide)), append(txns, i+1)
	}
	if got, err := wantMeets(t, marks(many...), 1, at(0, 0), 600); err != api.OK || !slices.Equal(got, txns) {
		t.Errorf("of 512 transactions: %v, error %d", got, err)
	}
}

// P15.4: what Meets may not be given.
func TestMeetsErrors(t *testing.T) {
	for _, p := range []api.Preds{{}, marks(mark(1, 7, wide)), marks(stair(1, 7, 512)...)} {
		wrong := func(node uint32, k api.Key, own uint64) {
			t.Helper()
			if got, err := wantMeets(t, p, node, k, own); err != api.ErrArg || len(got) > 0 {
				t.Errorf("Meets of %v at %d for %d: %v, error %d", k, node, own, got, err)
			}
		}
		wrong(0, wide, 1)
		wrong(1, wide, 0)
		wrong(0, wide, 0)
		for _, k := range []api.Key{box(1, 0, 0, 0), box(0, 0, 1, 0), box(most, least, 0, 0), box(0, 0, most, least)} {
			wrong(1, k, 1)
			wrong(0, k, 0)
		}
	}
}

// P15.4: Meets all over.
func TestMeetsAllOver(t *testing.T) {
	pick := picker(5)
	several := 0
	for range 3000 {
		p := some(pick)
		for range 5 {
			if got, _ := wantMeets(t, p, id(pick), window(pick), uint64(pick(7))); len(got) > 1 {
				several++
			}
		}
	}
	if several < 500 {
		t.Errorf("several were met %d times", several)
	}
}
