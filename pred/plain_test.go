package pred_test

import (
	"fmt"
	"maps"
	"math"
	"slices"
	"testing"

	"gazetteer/api"
	"gazetteer/pred"
)

const (
	least, most = math.MinInt64, math.MaxInt64
	topId       = math.MaxUint32 // the greatest Id that there may be
	topTxn      = math.MaxUint64 // the greatest transaction
)

// The tests hold pred against a plain reading of the chapter, for which marks are a set that is gone through as a whole.

// box and at are keys: a box, and a point.
func box(x0, x1, y0, y1 int64) api.Key {
	return api.Key{X0: x0, X1: x1, Y0: y0, Y1: y1}
}

func at(x, y int64) api.Key {
	return box(x, x, y, y)
}

// wide is the window that meets all keys.
var wide = box(least, most, least, most)

// mark is a mark, and marks some of them.
func mark(node uint32, txn uint64, window api.Key) api.Pred {
	return api.Pred{Node: node, Txn: txn, Window: window}
}

func marks(l ...api.Pred) api.Preds {
	return api.Preds{List: l}
}

// stair is so many marks of a node and a transaction, all of whose windows have the point 0, 0.
func stair(node uint32, txn uint64, n int) []api.Pred {
	var l []api.Pred
	for i := range n {
		l = append(l, mark(node, txn, box(0, int64(i), 0, 0)))
	}
	return l
}

// isBox tells whether a key is a box, and meet whether two have a point in common.
func isBox(k api.Key) bool {
	return k.X0 <= k.X1 && k.Y0 <= k.Y1
}

func meet(a, b api.Key) bool {
	return a.X0 <= b.X1 && b.X0 <= a.X1 && a.Y0 <= b.Y1 && b.Y0 <= a.Y1
}

// isMark tells whether it is a mark.
func isMark(x api.Pred) bool {
	return x.Node != 0 && x.Txn != 0 && isBox(x.Window)
}

// before tells whether one mark stands ahead of another one.
func before(a, b api.Pred) bool {
	switch v, w := a.Window, b.Window; {
	case a.Node != b.Node:
		return a.Node < b.Node
	case a.Txn != b.Txn:
		return a.Txn < b.Txn
	case v.X0 != w.X0:
		return v.X0 < w.X0
	case v.X1 != w.X1:
		return v.X1 < w.X1
	case v.Y0 != w.Y0:
		return v.Y0 < w.Y0
	default:
		return v.Y1 < w.Y1
	}
}

// mayBe tells whether marks may be.
func mayBe(p api.Preds) bool {
	if len(p.List) > 512 {
		return false
	}
	for i, x := range p.List {
		if !isMark(x) || i > 0 && !before(p.List[i-1], x) {
			return false
		}
	}
	return true
}

// set is marks as a set.
type set map[api.Pred]bool

func setOf(p api.Preds) set {
	s := set{}
	for _, x := range p.List {
		s[x] = true
	}
	return s
}

// told is the marks of a set, in order.
func (s set) told() (api.Preds, api.Errno) {
	if len(s) > 512 {
		return api.Preds{}, api.ErrFull
	}
	l := slices.SortedFunc(maps.Keys(s), func(a, b api.Pred) int {
		if before(a, b) {
			return -1
		}
		return 1
	})
	return marks(l...), api.OK
}

// lend attaches to a node those marks of another one, in a set, whose windows meet a key.
func (s set) lend(from set, node, to uint32, k api.Key) {
	for x := range maps.Clone(from) {
		if x.Node == node && meet(x.Window, k) {
			s[mark(to, x.Txn, x.Window)] = true
		}
	}
}

// without is a set without those marks that go.
func (s set) without(goes func(x api.Pred) bool) set {
	maps.DeleteFunc(s, func(x api.Pred, _ bool) bool { return goes(x) })
	return s
}

// attached is Attach's answers.
func attached(p api.Preds, x api.Pred) (api.Preds, api.Errno) {
	switch {
	case !mayBe(p):
		return api.Preds{}, api.ErrPreds
	case !isMark(x):
		return api.Preds{}, api.ErrArg
	}
	s := setOf(p)
	s[x] = true
	return s.told()
}

// released is Release's answers.
func released(p api.Preds, txn uint64) (api.Preds, api.Errno) {
	switch {
	case !mayBe(p):
		return api.Preds{}, api.ErrPreds
	case txn == 0:
		return api.Preds{}, api.ErrArg
	}
	return setOf(p).without(func(x api.Pred) bool { return x.Txn == txn }).told()
}

// passed is Pass's answers.
func passed(p api.Preds, way []uint32, k api.Key) (api.Preds, api.Errno) {
	switch {
	case !mayBe(p):
		return api.Preds{}, api.ErrPreds
	case !isBox(k) || slices.Contains(way, 0):
		return api.Preds{}, api.ErrArg
	}
	s := setOf(p)
	for i, id := range way {
		if i > 0 {
			s.lend(s, way[i-1], id, k)
		}
	}
	return s.told()
}

// parted is Split's answers.
func parted(p api.Preds, l []api.Split, root uint32) (api.Preds, api.Errno) {
	if !mayBe(p) {
		return api.Preds{}, api.ErrPreds
	}
	s, wrong := setOf(p), root == 0
	for _, x := range l {
		wrong = wrong || x.Old == 0 || x.New == 0
		s.lend(s, x.Old, x.New, wide)
		if x.Root {
			s.lend(s, x.Old, root, wide)
		}
	}
	if wrong {
		return api.Preds{}, api.ErrArg
	}
	return s.told()
}

// left is Gone's answers.
func left(p api.Preds, gone []uint32, old, root uint32) (api.Preds, api.Errno) {
	switch {
	case !mayBe(p):
		return api.Preds{}, api.ErrPreds
	case slices.Contains(gone, 0) || old == 0 || root == 0:
		return api.Preds{}, api.ErrArg
	}
	s := setOf(p).without(func(x api.Pred) bool { return slices.Contains(gone, x.Node) })
	if old != root {
		s.lend(setOf(p), old, root, wide)
	}
	return s.told()
}

// met is Meets' answers.
func met(p api.Preds, node uint32, k api.Key, own uint64) ([]uint64, api.Errno) {
	switch {
	case !mayBe(p):
		return nil, api.ErrPreds
	case !isBox(k) || node == 0 || own == 0:
		return nil, api.ErrArg
	}
	txns := map[uint64]bool{}
	for _, x := range p.List {
		if x.Node == node && x.Txn != own && meet(x.Window, k) {
			txns[x.Txn] = true
		}
	}
	return slices.Sorted(maps.Keys(txns)), api.OK
}

// text is all of what stands in something; nil and empty lists are the same in it.
func text(x any) string {
	return fmt.Sprintf("%+v", x)
}

// wantPreds wants that what a call of some marks tells is what the chapter's words say, and may be; and is what it tells.
func wantPreds(t *testing.T, call string, p, got api.Preds, err api.Errno, want api.Preds, wantErr api.Errno) (api.Preds, api.Errno) {
	t.Helper()
	if err != wantErr || !slices.Equal(got.List, want.List) {
		t.Fatalf("%s of %+v:\n%+v, error %d; want\n%+v, error %d", call, p, got, err, want, wantErr)
	}
	if pred.Check(got) != api.OK {
		t.Fatalf("%s of %+v: %+v may not be", call, p, got)
	}
	return got, err
}

func wantAttach(t *testing.T, p api.Preds, x api.Pred) (api.Preds, api.Errno) {
	t.Helper()
	want, wantErr := attached(p, x)
	got, err := pred.Attach(p, x)
	return wantPreds(t, text([]any{"Attach", x}), p, got, err, want, wantErr)
}

func wantRelease(t *testing.T, p api.Preds, txn uint64) (api.Preds, api.Errno) {
	t.Helper()
	want, wantErr := released(p, txn)
	got, err := pred.Release(p, txn)
	return wantPreds(t, text([]any{"Release", txn}), p, got, err, want, wantErr)
}

func wantPass(t *testing.T, p api.Preds, way []uint32, k api.Key) (api.Preds, api.Errno) {
	t.Helper()
	want, wantErr := passed(p, way, k)
	got, err := pred.Pass(p, way, k)
	return wantPreds(t, text([]any{"Pass", way, k}), p, got, err, want, wantErr)
}

func wantSplit(t *testing.T, p api.Preds, l []api.Split, root uint32) (api.Preds, api.Errno) {
	t.Helper()
	want, wantErr := parted(p, l, root)
	got, err := pred.Split(p, l, root)
	return wantPreds(t, text([]any{"Split", l, root}), p, got, err, want, wantErr)
}

func wantGone(t *testing.T, p api.Preds, gone []uint32, old, root uint32) (api.Preds, api.Errno) {
	t.Helper()
	want, wantErr := left(p, gone, old, root)
	got, err := pred.Gone(p, gone, old, root)
	return wantPreds(t, text([]any{"Gone", gone, old, root}), p, got, err, want, wantErr)
}

func wantMeets(t *testing.T, p api.Preds, node uint32, k api.Key, own uint64) ([]uint64, api.Errno) {
	t.Helper()
	want, wantErr := met(p, node, k, own)
	got, err := pred.Meets(p, node, k, own)
	if err != wantErr || text(got) != text(want) {
		t.Fatalf("Meets of %v at %d for %d, %+v:\n%v, error %d; want\n%v, error %d", k, node, own, p, got, err, want, wantErr)
	}
	return got, err
}

// wantCheck wants that Check says of marks whether they may be, and that all calls refuse those that may not, whatever else they are given.
func wantCheck(t *testing.T, what string, p api.Preds, want api.Errno) {
	t.Helper()
	if err := pred.Check(p); err != want || mayBe(p) != (want == api.OK) {
		t.Fatalf("%s: Check of %+v: error %d; want %d", what, p, err, want)
	}
	if want == api.OK {
		return
	}
	for i := range uint32(2) {
		k := box(int64(1-i), 0, 0, 0) // no box, and then one
		a, e1 := pred.Attach(p, mark(i, uint64(i), k))
		b, e2 := pred.Release(p, uint64(i))
		c, e3 := pred.Pass(p, []uint32{i, 2}, k)
		d, e4 := pred.Split(p, []api.Split{{Old: i, New: 2, Root: true}}, 3)
		e, e5 := pred.Gone(p, []uint32{2}, i, 3)
		l, e6 := pred.Meets(p, i, k, 9)
		if got := []api.Errno{e1, e2, e3, e4, e5, e6}; !slices.Equal(got, slices.Repeat([]api.Errno{want}, 6)) {
			t.Fatalf("%s: calls of %+v: errors %v; want %d", what, p, got, want)
		}
		if text([]any{a, b, c, d, e, l}) != text([]any{marks(), marks(), marks(), marks(), marks(), []uint64{}}) {
			t.Fatalf("%s: calls of %+v: %v", what, p, []any{a, b, c, d, e, l})
		}
	}
}

// picker tells numbers from 0 to n - 1, one at a call; those of other seeds are others.
func picker(seed uint64) func(n int) int {
	return func(n int) int {
		seed = seed*6364136223846793005 + 1442695040888963407
		return int(seed>>33) % n
	}
}

// window is some box: a small one most often, or one whose ends are those of all numbers.
func window(pick func(n int) int) api.Key {
	number := func() int64 {
		if pick(12) == 0 {
			return []int64{least, least + 1, -1, most - 1, most}[pick(5)]
		}
		return int64(pick(4))
	}
	a, b, c, d := number(), number(), number(), number()
	if pick(3) == 0 {
		return at(a, c)
	}
	return box(min(a, b), max(a, b), min(c, d), max(c, d))
}

// id is some node's Id: one of a few, or the last one.
func id(pick func(n int) int) uint32 {
	if pick(20) == 0 {
		return topId
	}
	return uint32(1 + pick(6))
}

// some is marks that may be: a few, or nearly as many as there may be, or as many.
func some(pick func(n int) int) api.Preds {
	s := set{}
	n := pick(30)
	if pick(5) == 0 {
		n = 512 - pick(40)*pick(2)
	}
	for len(s) < n {
		s[mark(id(pick), uint64(1+pick(5)), window(pick))] = true
	}
	p, _ := s.told()
	return p
}
