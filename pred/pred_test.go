package pred_test

import (
	"slices"
	"testing"

	"gazetteer/api"
	"gazetteer/pred"
)

// P15.1: marks that may be, up to the edges of each clause.
func TestCheck(t *testing.T) {
	for what, p := range map[string]api.Preds{
		"none":                                {},
		"an empty list":                       {List: []api.Pred{}},
		"one of all":                          marks(mark(1, 7, box(0, 9, 0, 9))),
		"numbers at their ends":               marks(mark(1, 1, wide), mark(topId, topTxn, wide)),
		"points at their ends":                marks(mark(1, 1, at(least, least)), mark(1, 1, at(most, most))),
		"Nodes rise, all else falls":          marks(mark(1, 9, at(9, 9)), mark(2, 1, at(0, 0)), mark(9, 1, at(-9, -9))),
		"transactions rise, the windows fall": marks(mark(1, 1, at(9, 9)), mark(1, 2, at(0, 0)), mark(1, topTxn, at(-9, -9))),
		"X0s rise, all else falls":            marks(mark(1, 1, box(least, 9, 5, 9)), mark(1, 1, box(-1, 8, 4, 8)), mark(1, 1, box(0, 7, 3, 7))),
		"X1s rise, all else falls":            marks(mark(1, 1, box(0, 1, 5, 9)), mark(1, 1, box(0, 2, 4, 8)), mark(1, 1, box(0, most, 3, 7))),
		"Y0s rise, the Y1s fall":              marks(mark(1, 1, box(0, 1, -5, 9)), mark(1, 1, box(0, 1, 0, 8)), mark(1, 1, box(0, 1, 3, 7))),
		"Y1s rise":                            marks(mark(1, 1, box(0, 1, 0, 0)), mark(1, 1, box(0, 1, 0, 1)), mark(1, 1, box(0, 1, 0, most))),
		"one window at two Nodes":             marks(mark(1, 1, wide), mark(2, 1, wide)),
		"one window of two transactions":      marks(mark(1, 1, wide), mark(1, 2, wide)),
		"511":                                 marks(stair(4, 4, 511)...),
		"512":                                 marks(stair(4, 4, 512)...),
	} {
		wantCheck(t, what, p, api.OK)
	}
}

// P15.1: marks that may not be: for each clause those that break it alone.
func TestCheckRefuses(t *testing.T) {
	for what, p := range map[string]api.Preds{
		"zero":                       marks(api.Pred{}),
		"Node 0":                     marks(mark(0, 1, wide)),
		"Txn 0":                      marks(mark(1, 0, wide)),
		"X0 above X1":                marks(mark(1, 1, box(1, 0, 0, 0))),
		"Y0 above Y1":                marks(mark(1, 1, box(0, 0, 1, 0))),
		"X at both ends":             marks(mark(1, 1, box(most, least, 0, 0))),
		"Y at both ends":             marks(mark(1, 1, box(0, 0, most, least))),
		"Txn 0 behind right ones":    marks(mark(1, 1, wide), mark(2, 1, wide), mark(3, 0, wide)),
		"no box between right ones":  marks(mark(1, 1, wide), mark(2, 1, box(0, 9, 9, 8)), mark(3, 1, wide)),
		"Node 0 ahead of right ones": marks(mark(0, 1, wide), mark(2, 1, wide)),
		"Nodes fall":                 marks(mark(2, 1, at(0, 0)), mark(1, 2, at(1, 1))),
		"Nodes fall at the end":      marks(mark(1, 1, wide), mark(3, 1, wide), mark(2, 1, wide)),
		"transactions fall":          marks(mark(1, 2, at(0, 0)), mark(1, 1, at(1, 1))),
		"X0s fall":                   marks(mark(1, 1, box(1, 5, 0, 5)), mark(1, 1, box(0, 6, 1, 6))),
		"X0s fall, at their ends":    marks(mark(1, 1, at(most, 0)), mark(1, 1, at(least, 0))),
		"X1s fall":                   marks(mark(1, 1, box(1, 5, 0, 5)), mark(1, 1, box(1, 4, 1, 6))),
		"Y0s fall":                   marks(mark(1, 1, box(1, 5, 1, 5)), mark(1, 1, box(1, 5, 0, 6))),
		"Y1s fall":                   marks(mark(1, 1, box(1, 5, 1, 5)), mark(1, 1, box(1, 5, 1, 4))),
		"one twice":                  marks(mark(1, 1, wide), mark(1, 1, wide)),
		"one twice, another between": marks(mark(1, 1, wide), mark(2, 1, wide), mark(1, 1, wide)),
		"the last one twice":         marks(append(stair(1, 1, 5), stair(1, 1, 5)[4])...),
		"513":                        marks(stair(4, 4, 513)...),
		"513, the last one none":     marks(append(stair(4, 4, 512), api.Pred{})...),
	} {
		wantCheck(t, what, p, api.ErrPreds)
	}
}

// P15.1: all lists of up to three of some marks, right and wrong, in each order.
func TestCheckAllOver(t *testing.T) {
	var few []api.Pred
	for node := range uint32(3) {
		for txn := range uint64(3) {
			for _, k := range []api.Key{at(0, 0), box(0, 1, 0, 0), box(0, 0, 1, 0)} {
				few = append(few, mark(node, txn, k))
			}
		}
	}
	lists := [][]api.Pred{nil}
	right := 0
	for i := 0; i < len(lists); i++ {
		p, want := marks(lists[i]...), api.ErrPreds
		if mayBe(p) {
			want = api.OK
			right++
		}
		wantCheck(t, "all over", p, want)
		for _, x := range few {
			if len(lists[i]) < 3 {
				lists = append(lists, append(slices.Clone(lists[i]), x))
			}
		}
	}
	if right != 1+8+28+56 {
		t.Errorf("%d of %d may be", right, len(lists))
	}
}

// P15.1: marks are the same, if all of them are, in their order; nil and empty lists are. Whether they may be is not asked.
func TestSame(t *testing.T) {
	sample := func() api.Preds {
		return marks(mark(1, 7, box(0, 9, 0, 9)), mark(2, 5, at(1, 1)), mark(2, 7, wide))
	}
	wantSame := func(what string, a, b api.Preds, want bool) {
		t.Helper()
		if pred.Same(a, b) != want || pred.Same(b, a) != want {
			t.Errorf("Same, %s: %v; want %v", what, !want, want)
		}
	}
	wantSame("none", api.Preds{}, api.Preds{}, true)
	wantSame("an empty list", api.Preds{List: []api.Pred{}}, api.Preds{}, true)
	wantSame("all", sample(), sample(), true)
	wantSame("512", marks(stair(1, 1, 512)...), marks(stair(1, 1, 512)...), true)
	for what, change := range map[string]func(p *api.Preds){
		"a Node":         func(p *api.Preds) { p.List[2].Node = 3 },
		"a Txn":          func(p *api.Preds) { p.List[1].Txn = 4 },
		"X0":             func(p *api.Preds) { p.List[0].Window.X0-- },
		"X1":             func(p *api.Preds) { p.List[0].Window.X1++ },
		"Y0":             func(p *api.Preds) { p.List[1].Window.Y0-- },
		"Y1":             func(p *api.Preds) { p.List[1].Window.Y1++ },
		"the last one":   func(p *api.Preds) { p.List[2].Window.Y1-- },
		"one fewer":      func(p *api.Preds) { p.List = p.List[:2] },
		"not the first":  func(p *api.Preds) { p.List = p.List[1:] },
		"one more":       func(p *api.Preds) { p.List = append(p.List, mark(3, 1, wide)) },
		"one more, zero": func(p *api.Preds) { p.List = append(p.List, api.Pred{}) },
		"other order":    func(p *api.Preds) { slices.Reverse(p.List) },
		"none":           func(p *api.Preds) { p.List = nil },
	} {
		p := sample()
		change(&p)
		wantSame(what, sample(), p, false)
		wantSame(what, p, p, true)
	}
}

// P15.2 to P15.4: the chapter's examples.
func TestExamples(t *testing.T) {
	point := at(5, 5)
	p, _ := wantAttach(t, api.Preds{}, mark(1, 7, box(0, 9, 0, 9)))
	if l, err := wantMeets(t, p, 1, point, 8); err != api.OK || !slices.Equal(l, []uint64{7}) {
		t.Errorf("Meets for 8: %v, error %d", l, err)
	}
	if l, err := wantMeets(t, p, 1, point, 7); err != api.OK || len(l) > 0 {
		t.Errorf("Meets for 7 itself: %v, error %d", l, err)
	}
	nodes := func(what string, p api.Preds, err api.Errno, want ...uint32) {
		t.Helper()
		var got []uint32
		for _, x := range p.List {
			got = append(got, x.Node)
		}
		if err != api.OK || !slices.Equal(got, want) {
			t.Errorf("%s: marks at %v, error %d; want %v", what, got, err, want)
		}
	}
	q, err := wantSplit(t, p, []api.Split{{Old: 1, New: 2, Root: true}}, 3)
	nodes("Split", q, err, 1, 2, 3)
	g, err := wantGone(t, q, []uint32{2, 3}, 3, 1)
	nodes("Gone", g, err, 1)
	if l, err := wantMeets(t, g, 2, point, 8); err != api.OK || len(l) > 0 {
		t.Errorf("Meets at 2, which went: %v, error %d", l, err)
	}
	x, err := wantPass(t, g, []uint32{1, 4}, point)
	nodes("Pass to 4", x, err, 1, 4)
	x, err = wantPass(t, x, []uint32{1, 5}, at(20, 0))
	nodes("Pass to 5", x, err, 1, 4)
}
