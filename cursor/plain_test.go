package cursor_test

import (
	"fmt"
	"math"
	"slices"
	"testing"

	"gazetteer/api"
	"gazetteer/cursor"
	"gazetteer/tree"
)

const (
	least, most = math.MinInt64, math.MaxInt64
	topId       = math.MaxUint32 // the greatest Id, and row, that there may be
	topCount    = math.MaxUint64 // the greatest Count
)

// The tests hold cursor against a plain reading of the chapter, which looks for nodes by going through all of them, and lets nodes go by one call within another.

// box and at are keys: a box, and a point.
func box(x0, x1, y0, y1 int64) api.Key {
	return api.Key{X0: x0, X1: x1, Y0: y0, Y1: y1}
}

func at(x, y int64) api.Key {
	return box(x, x, y, y)
}

// wide is the window that meets all keys.
var wide = box(least, most, least, most)

// meets tells whether two boxes have a point in common.
func meets(a, b api.Key) bool {
	return a.X0 <= b.X1 && b.X0 <= a.X1 && a.Y0 <= b.Y1 && b.Y0 <= a.Y1
}

// opened is what a step of one opens: the entries are told from the first one on, and each stands ahead of those that were told.
func opened(x api.Tree, window api.Key, s api.Seen) []api.Seen {
	var l []api.Seen
	for _, n := range x.Nodes {
		if n.Id != s.Id {
			continue
		}
		for _, e := range n.Entries {
			if !n.Leaf && meets(e.Key, window) {
				l = slices.Insert(l, 0, api.Seen{Id: e.Child, Count: x.Count})
			}
		}
		if n.Seal > s.Count && n.Right != 0 {
			l = slices.Insert(l, 0, api.Seen{Id: n.Right, Count: s.Count})
		}
	}
	return l
}

// rowsIn is the rows that a step of a node finds.
func rowsIn(x api.Tree, window api.Key, id uint32) []uint32 {
	var rows []uint32
	for _, n := range x.Nodes {
		for _, e := range n.Entries {
			if n.Id == id && n.Leaf && meets(e.Key, window) {
				rows = append(rows, e.Child)
			}
		}
	}
	return rows
}

// stepped is Step's answers.
func stepped(x api.Tree, c api.Cursor) (api.Cursor, uint32, api.Errno) {
	if len(c.Open) == 0 {
		return c, 0, api.OK
	}
	others, s := c.Open[:len(c.Open)-1], c.Open[len(c.Open)-1]
	c.Open = slices.Concat(others, opened(x, c.Window, s))
	c.Rows = slices.Concat(c.Rows, rowsIn(x, c.Window, s.Id))
	slices.Sort(c.Rows)
	c.Rows = slices.Compact(c.Rows)
	if len(c.Open) > 128 {
		return api.Cursor{}, 0, api.ErrFull
	}
	return c, s.Id, api.OK
}

// instead is what one that is open gives way to.
func instead(x api.Tree, window api.Key, s api.Seen, gone []uint32) []api.Seen {
	if !slices.Contains(gone, s.Id) {
		return []api.Seen{s}
	}
	var l []api.Seen
	for _, o := range opened(x, window, s) {
		l = append(l, instead(x, window, o, gone)...)
	}
	return l
}

// without is Gone's answers.
func without(x api.Tree, c api.Cursor, gone []uint32) (api.Cursor, api.Errno) {
	var open []api.Seen
	for _, s := range c.Open {
		open = append(open, instead(x, c.Window, s, gone)...)
	}
	if len(open) > 128 {
		return api.Cursor{}, api.ErrFull
	}
	c.Open = open
	return c, api.OK
}

// mayBe tells whether a cursor may be.
func mayBe(c api.Cursor) bool {
	if c.Window.X0 > c.Window.X1 || c.Window.Y0 > c.Window.Y1 || len(c.Open) > 128 {
		return false
	}
	for _, s := range c.Open {
		if s.Id == 0 {
			return false
		}
	}
	for i, row := range c.Rows {
		if row == 0 || i > 0 && c.Rows[i-1] >= row {
			return false
		}
	}
	return true
}

// text is all of what stands in something; nil and empty lists are the same in it.
func text(x any) string {
	return fmt.Sprintf("%+v", x)
}

// wantStep wants of Step what the chapter's words say, and is what it tells.
func wantStep(t *testing.T, x api.Tree, c api.Cursor) (api.Cursor, uint32, api.Errno) {
	t.Helper()
	want, wantId, wantErr := stepped(x, c)
	got, id, err := cursor.Step(x, c)
	if err != wantErr || id != wantId || text(got) != text(want) {
		t.Fatalf("Step of %+v in %+v:\n%+v, %d, error %d; want\n%+v, %d, error %d", c, x, got, id, err, want, wantId, wantErr)
	}
	return got, id, err
}

// wantGone wants of Gone what the chapter's words say, and is what it tells.
func wantGone(t *testing.T, x api.Tree, c api.Cursor, gone ...uint32) (api.Cursor, api.Errno) {
	t.Helper()
	want, wantErr := without(x, c, gone)
	got, err := cursor.Gone(x, c, gone)
	if err != wantErr || text(got) != text(want) {
		t.Fatalf("Gone of %v, %+v in %+v:\n%+v, error %d; want\n%+v, error %d", gone, c, x, got, err, want, wantErr)
	}
	return got, err
}

// wantCheck wants that Check says of a cursor whether it may be, and that Step and Gone refuse one that may not.
func wantCheck(t *testing.T, what string, c api.Cursor, want api.Errno) {
	t.Helper()
	if err := cursor.Check(c); err != want || mayBe(c) != (want == api.OK) {
		t.Fatalf("%s: Check of %+v: error %d; want %d", what, c, err, want)
	}
	if want == api.OK {
		return
	}
	for _, x := range []api.Tree{tree.Empty(), five()} {
		wantNone(t, what, x, c, want)
	}
	wantNone(t, what+", with no tree", api.Tree{}, c, api.ErrTree)
}

// wantNone wants that Step and Gone answer an error, and nothing beside it.
func wantNone(t *testing.T, what string, x api.Tree, c api.Cursor, want api.Errno) {
	t.Helper()
	d, id, e1 := cursor.Step(x, c)
	f, e2 := cursor.Gone(x, c, []uint32{1, 3})
	if e1 != want || e2 != want || id != 0 || text([]api.Cursor{d, f}) != text(make([]api.Cursor, 2)) {
		t.Fatalf("%s: Step of %+v: %+v, %d, error %d; Gone: %+v, error %d; want error %d", what, c, d, id, e1, f, e2, want)
	}
}
