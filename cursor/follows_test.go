package cursor_test

import (
	"maps"
	"slices"
	"testing"

	"gazetteer/api"
	"gazetteer/cursor"
	"gazetteer/tree"
)

// search is a cursor that is under way, the rows that it has to find, and all Keys that each row had since it started.
type search struct {
	c    api.Cursor
	must map[uint32]bool
	had  map[uint32][]api.Key
}

// history is a tree, its rows, and the searches that are under way in it.
type history struct {
	t        *testing.T
	x        api.Tree
	rows     map[uint32]api.Key
	searches []*search
	pick     func(n int) int
	next     func() api.Key
	row      uint32
	over     int // searches that are over
	went     int // nodes that went and were open
}

// begun is a history of a tree of so many rows.
func begun(t *testing.T, pick func(n int) int, rows int) *history {
	h := &history{t: t, x: tree.Empty(), rows: map[uint32]api.Key{}, pick: pick, next: places(pick)}
	for range rows {
		h.put()
	}
	return h
}

// put puts a row in: most often a new one, sometimes one that was taken out.
func (h *history) put() {
	row := h.row + 1
	if back := uint32(1 + h.pick(int(row))); h.pick(4) == 0 {
		row = back
	}
	k := h.next()
	x, _, err := tree.Put(h.x, row, k)
	if err == api.ErrThere {
		return
	}
	if err != api.OK {
		h.t.Fatalf("Put(%d): error %d", row, err)
	}
	h.x, h.rows[row], h.row = x, k, max(h.row, row)
	for _, s := range h.searches {
		s.had[row] = append(s.had[row], k)
	}
}

// take takes a row out, and tells all cursors of that.
func (h *history) take() {
	if len(h.rows) == 0 {
		return
	}
	all := slices.Sorted(maps.Keys(h.rows))
	row := all[h.pick(len(all))]
	x, gone, err := tree.Take(h.x, row)
	if err != api.OK {
		h.t.Fatalf("Take(%d): error %d", row, err)
	}
	delete(h.rows, row)
	for _, s := range h.searches {
		delete(s.must, row)
		c, err := cursor.Gone(h.x, s.c, gone)
		if err != api.OK {
			h.t.Fatalf("Gone: error %d", err)
		}
		if !slices.Equal(c.Open, s.c.Open) {
			h.went++
		}
		s.c = c
	}
	h.x = x
}

// start begins a search.
func (h *history) start() {
	window := h.next()
	if h.pick(2) == 0 {
		other := h.next()
		window = box(min(window.X0, other.X0), max(window.X1, other.X1), min(window.Y0, other.Y0), max(window.Y1, other.Y1))
	}
	c, err := cursor.Start(h.x, window)
	if err != api.OK {
		h.t.Fatalf("Start: error %d", err)
	}
	s := &search{c: c, must: map[uint32]bool{}, had: map[uint32][]api.Key{}}
	for row, k := range h.rows {
		s.had[row] = []api.Key{k}
		if meets(k, window) {
			s.must[row] = true
		}
	}
	h.searches = append(h.searches, s)
}

// step goes on with a search; one that is over is looked at, and goes.
func (h *history) step() {
	if len(h.searches) == 0 {
		return
	}
	at := h.pick(len(h.searches))
	s := h.searches[at]
	if cursor.Over(s.c) {
		h.wantFound(s)
		h.over++
		h.searches = slices.Delete(h.searches, at, at+1)
		return
	}
	s.c, _, _ = wantStep(h.t, h.x, s.c)
	if err := cursor.Check(s.c); err != api.OK {
		h.t.Fatalf("Check of %+v: error %d", s.c, err)
	}
}

// wantFound wants of a cursor that is over that it has all rows that it must have, and none that was never there or did not meet its window.
func (h *history) wantFound(s *search) {
	h.t.Helper()
	for row := range s.must {
		if !slices.Contains(s.c.Rows, row) {
			h.t.Fatalf("row %d was there from the beginning, and is not found: %+v", row, s.c)
		}
	}
	for _, row := range s.c.Rows {
		if !slices.ContainsFunc(s.had[row], func(k api.Key) bool { return meets(k, s.c.Window) }) {
			h.t.Fatalf("row %d was found, and is %v: %+v", row, s.had[row], s.c)
		}
	}
}

// run goes on for some turns: of ten, so many start, put, and take; the others step. Then all searches go on till they are over.
func (h *history) run(turns, starts, puts, takes int) {
	for range turns {
		switch n := h.pick(10); {
		case n < starts:
			h.start()
		case n < starts+puts:
			h.put()
		case n < starts+puts+takes:
			h.take()
		default:
			h.step()
		}
	}
	for len(h.searches) > 0 {
		h.step()
	}
}

// P13.5: rows are put in between the steps.
func TestFoundThoughRowsArePut(t *testing.T) {
	pick, over, splits := picker(3), 0, uint64(0)
	for i := range 150 {
		h := begun(t, pick, pick(40))
		first := h.x.Count
		h.run(120, 1, 2+i%4, 0)
		over, splits = over+h.over, splits+h.x.Count-first
	}
	if over < 1000 || splits < 1000 {
		t.Errorf("%d searches, %d splits", over, splits)
	}
}

// P13.5: rows are put in and taken out between the steps, till nothing is left, too.
func TestFoundThoughRowsAreTaken(t *testing.T) {
	pick, over, went := picker(4), 0, 0
	for i := range 300 {
		h := begun(t, pick, pick(60))
		h.run(150, 1, 1+i%4, 1+i/4%5)
		over, went = over+h.over, went+h.went
	}
	if over < 2000 || went < 500 {
		t.Errorf("%d searches, %d times what was open went", over, went)
	}
}

// P13.5: rows are put in while one cursor waits, and a row that is found is found by its link to the right; so at each place of a search.
func TestFoundAtEachPlace(t *testing.T) {
	for rows := range 40 {
		for wait := range 12 {
			x := row(rows)
			c, _ := cursor.Start(x, wide)
			for range wait {
				c, _, _ = wantStep(t, x, c)
			}
			for i := range 60 {
				x, _, _ = tree.Put(x, uint32(1000+i), at(int64(i/2), int64(i%2)))
			}
			for !cursor.Over(c) {
				c, _, _ = wantStep(t, x, c)
			}
			for i := range uint32(rows) {
				if !slices.Contains(c.Rows, i+1) {
					t.Fatalf("of %d rows, behind %d steps: row %d is not found: %v", rows, wait, i+1, c.Rows)
				}
			}
		}
	}
}

// P13.5: while the tree stays as it is, what is found is what Find tells; that takes a step a node that is met at most.
func TestFoundIsWhatFindTells(t *testing.T) {
	pick := picker(5)
	for range 600 {
		x := begun(t, pick, pick(90)).x
		if pick(3) == 0 {
			x = odd(pick)
		}
		window := places(pick)()
		want, _ := tree.Find(x, window)
		c, err := cursor.Start(x, window)
		steps := 0
		for ; err == api.OK && !cursor.Over(c); steps++ {
			c, _, err = wantStep(t, x, c)
		}
		if err != api.OK || !slices.Equal(c.Rows, want) || steps > len(x.Nodes) {
			t.Fatalf("%v in %+v: found %v by %d steps, error %d; Find tells %v", window, x, c.Rows, steps, err, want)
		}
	}
}
