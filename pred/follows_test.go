package pred_test

import (
	"slices"
	"testing"

	"gazetteer/api"
	"gazetteer/cursor"
	"gazetteer/tree"
)

// history is a tree and its marks while searches go on in it, and rows are put in and taken out.
type history struct {
	t        *testing.T
	pick     func(n int) int
	far      int
	atOnce   bool // a search takes its first step when it begins
	x        api.Tree
	p        api.Preds
	rows     []uint32 // those that are there
	row      uint32   // the greatest there was
	txn      uint64   // the last one there was
	searches []*search
	seen     counts
}

// counts is how much there was in histories: searches that were over when they were looked at, times that one was told of a row, nodes that split and that went, marks that went with these.
type counts struct {
	over, told, splits, went, lost int
}

func (c *counts) add(o counts) {
	c.over, c.told, c.splits, c.went, c.lost = c.over+o.over, c.told+o.told, c.splits+o.splits, c.went+o.went, c.lost+o.lost
}

// search is a transaction that looks through a window. Of the rows that were put in since, and are there still, it is to find those of which it was not told.
type search struct {
	txn    uint64
	c      api.Cursor
	untold map[uint32]bool
}

// begun is a history of a tree with so many rows.
func begun(t *testing.T, pick func(n int) int, rows int) *history {
	h := &history{t: t, pick: pick, far: []int{4, 12, 60}[pick(3)], x: tree.Empty()}
	for range rows {
		h.put()
	}
	return h
}

// key is some box: a point as often as not.
func (h *history) key() api.Key {
	number := func() int64 { return int64(h.pick(h.far)) }
	a, b, c, d := number(), number(), number(), number()
	if h.pick(2) == 0 {
		return at(a, c)
	}
	return box(min(a, b), max(a, b), min(c, d), max(c, d))
}

// ok wants no error.
func (h *history) ok(call string, err api.Errno) {
	h.t.Helper()
	if err != api.OK {
		h.t.Fatalf("%s: error %d", call, err)
	}
}

// marked lets these be the marks from now on. Of those that there were each stays whose node has not gone and whose transaction was not released.
func (h *history) marked(p api.Preds, gone []uint32, txn uint64) {
	h.t.Helper()
	now := setOf(p)
	for _, x := range h.p.List {
		switch {
		case slices.Contains(gone, x.Node):
			h.seen.lost++
		case x.Txn != txn && !now[x]:
			h.t.Fatalf("%+v was attached, and is no more", x)
		}
	}
	h.p = p
}

// put puts a new row in: behind a Pass along its way, with a Split behind it.
func (h *history) put() {
	k := h.key()
	way, err := tree.Leaf(h.x, k)
	h.ok("Leaf", err)
	p, err := wantPass(h.t, h.p, way, k)
	if err == api.ErrFull {
		return
	}
	told, err := wantMeets(h.t, p, way[len(way)-1], k, h.txn+1)
	h.ok("Meets", err)
	x, l, err := tree.Put(h.x, h.row+1, k)
	h.ok("Put", err)
	p, err = wantSplit(h.t, p, l, x.Root)
	if err == api.ErrFull {
		return
	}
	h.marked(p, nil, 0)
	h.x, h.row, h.rows = x, h.row+1, append(h.rows, h.row+1)
	h.seen.splits, h.seen.told = h.seen.splits+len(l), h.seen.told+len(told)
	for _, s := range h.searches {
		if meet(k, s.c.Window) && !slices.Contains(told, s.txn) {
			s.untold[h.row] = true
		}
	}
}

// take takes a row out, with a Gone of the marks and of each cursor.
func (h *history) take() {
	if len(h.rows) == 0 {
		return
	}
	at := h.pick(len(h.rows))
	row := h.rows[at]
	x, gone, err := tree.Take(h.x, row)
	h.ok("Take", err)
	p, err := wantGone(h.t, h.p, gone, h.x.Root, x.Root)
	if err == api.ErrFull {
		return
	}
	h.marked(p, gone, 0)
	for _, s := range h.searches {
		delete(s.untold, row)
		s.c, err = cursor.Gone(h.x, s.c, gone)
		h.ok("cursor's Gone", err)
	}
	h.x, h.rows, h.seen.went = x, slices.Delete(h.rows, at, at+1), h.seen.went+len(gone)
}

// start begins a search.
func (h *history) start() {
	if len(h.searches) == 5 {
		return
	}
	h.txn++
	c, err := cursor.Start(h.x, h.key())
	h.ok("Start", err)
	s := &search{txn: h.txn, c: c, untold: map[uint32]bool{}}
	if !h.atOnce || h.step(s) {
		h.searches = append(h.searches, s)
	}
}

// step goes on with a search, and attaches a mark at the node that it has looked at, if there is room for it.
func (h *history) step(s *search) bool {
	c, id, err := cursor.Step(h.x, s.c)
	h.ok("Step", err)
	if id != 0 {
		p, err := wantAttach(h.t, h.p, mark(id, s.txn, s.c.Window))
		if err == api.ErrFull {
			return false
		}
		h.marked(p, nil, 0)
	}
	s.c = c
	return true
}

// look wants of a search that is over that it has found what it is to find. It goes on being told of rows till it is released.
func (h *history) look(s *search) {
	h.t.Helper()
	if !cursor.Over(s.c) {
		return
	}
	h.seen.over++
	for row := range s.untold {
		if !slices.Contains(s.c.Rows, row) {
			h.t.Fatalf("row %d was put in, meets %v, and is neither found nor was it told: %v; marks %+v", row, s.c.Window, s.c.Rows, h.p)
		}
	}
}

// release lets a search go.
func (h *history) release(at int) {
	s := h.searches[at]
	p, err := wantRelease(h.t, h.p, s.txn)
	h.ok("Release", err)
	h.marked(p, nil, s.txn)
	if slices.ContainsFunc(p.List, func(x api.Pred) bool { return x.Txn == s.txn }) {
		h.t.Fatalf("%d was released: %+v", s.txn, p)
	}
	h.searches = slices.Delete(h.searches, at, at+1)
}

// run goes on for some turns: of ten, so many put, and take; the others start, step and let go.
func (h *history) run(turns, puts, takes int) {
	for range turns {
		n, at := h.pick(10), h.pick(len(h.searches)+1)
		switch some := at < len(h.searches); {
		case n < puts:
			h.put()
		case n < puts+takes:
			h.take()
		case !some:
			h.start()
		case cursor.Over(h.searches[at].c):
			h.look(h.searches[at])
			if h.pick(4) == 0 {
				h.release(at)
			}
		default:
			h.step(h.searches[at])
		}
	}
	for _, s := range h.searches {
		h.look(s)
	}
}

// P15.5: rows are put in between the steps of searches, and behind them.
func TestFoundOrToldThoughRowsArePut(t *testing.T) {
	pick := picker(6)
	var seen counts
	for range 120 {
		h := begun(t, pick, pick(40))
		h.run(150, 4, 0)
		seen.add(h.seen)
	}
	if seen.over < 500 || seen.told < 5000 || seen.splits < 3000 {
		t.Errorf("%+v", seen)
	}
}

// P15.5: rows are put in and taken out, till nothing is left, too. Each search takes its first step at once, so that the root has its mark from then on, whichever node that is: without it the words do not lead so far. For if a root goes that a search has open still, and nothing below it meets the window, that search is over (13: Gone), and has no mark anywhere; and if two roots go at once, marks of the lower one alone go with it.
func TestFoundOrToldThoughRowsAreTaken(t *testing.T) {
	pick := picker(7)
	var seen counts
	for i := range 240 {
		h := begun(t, pick, pick(40))
		h.atOnce = true
		takes := 1 + i%4
		h.run(150, 5-takes, takes)
		seen.add(h.seen)
	}
	if seen.over < 500 || seen.told < 5000 || seen.splits < 3000 || seen.went < 1000 || seen.lost < 1000 {
		t.Errorf("%+v", seen)
	}
}
