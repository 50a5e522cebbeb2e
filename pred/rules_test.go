package pred_test

import (
	"slices"
	"testing"

	"gazetteer/api"
	"gazetteer/pred"
)

// given is what calls are given, with room behind each list.
type given struct {
	p         api.Preds
	x         api.Pred
	way       []uint32
	l         []api.Split
	k         api.Key
	old, root uint32
}

// roomy is a list with room behind its end that holds something.
func roomy[T any](l []T, rest ...T) []T {
	return append(slices.Clone(l), rest...)[:len(l)]
}

// anything is what calls may be given, right and wrong.
func anything(pick func(n int) int) given {
	g := given{p: some(pick), x: mark(id(pick), uint64(1+pick(6)), window(pick)), k: window(pick), old: id(pick), root: id(pick)}
	for range pick(6) {
		g.way = append(g.way, id(pick))
		g.l = append(g.l, api.Split{Old: id(pick), New: id(pick), Root: pick(3) == 0})
	}
	switch pick(20) {
	case 0:
		g.p.List = append(g.p.List, g.x)
	case 1:
		slices.Reverse(g.p.List)
	case 2:
		g.p.List = append(g.p.List, api.Pred{})
	case 3:
		g.x.Txn = 0
	case 4:
		g.way = append(g.way, 0)
	case 5:
		g.l = append(g.l, api.Split{Old: 3})
	case 6:
		g.k.X0, g.k.X1 = g.k.X1+1, g.k.X0
	case 7:
		g.old = 0
	case 8:
		g.root = 0
	}
	rest := stair(topId, topTxn, 8)
	g.p.List, g.way = roomy(g.p.List, rest...), roomy(g.way, 7, 6, 5)
	g.l = roomy(g.l, api.Split{Old: 8, New: 9}, api.Split{Root: true})
	return g
}

// all is all that was given, with the room behind the ends.
func (g given) all() string {
	return text([]any{g.p.List[:cap(g.p.List)], g.x, g.way[:cap(g.way)], g.l[:cap(g.l)], g.k, g.old, g.root})
}

// spoil changes all that was given.
func (g given) spoil() {
	clear(g.p.List[:cap(g.p.List)])
	clear(g.way[:cap(g.way)])
	clear(g.l[:cap(g.l)])
}

// answers is what is told of what was given.
type answers struct {
	check api.Errno
	same  bool
	preds [5]api.Preds
	txns  []uint64
	errs  [6]api.Errno
}

func (g given) told() answers {
	a := answers{check: pred.Check(g.p), same: pred.Same(g.p, g.p)}
	a.preds[0], a.errs[0] = pred.Attach(g.p, g.x)
	a.preds[1], a.errs[1] = pred.Release(g.p, g.x.Txn)
	a.preds[2], a.errs[2] = pred.Pass(g.p, g.way, g.k)
	a.preds[3], a.errs[3] = pred.Split(g.p, g.l, g.root)
	a.preds[4], a.errs[4] = pred.Gone(g.p, g.way, g.old, g.root)
	a.txns, a.errs[5] = pred.Meets(g.p, g.old, g.k, g.x.Txn)
	return a
}

// spoil changes all lists that were answered, the room behind their ends with them.
func (a answers) spoil() {
	for _, p := range a.preds {
		clear(p.List[:cap(p.List)])
	}
	clear(a.txns[:cap(a.txns)])
}

// R3: what is handed in is as it was, the room behind its lists with it.
func TestWhatIsGivenStays(t *testing.T) {
	pick := picker(8)
	for range 2000 {
		g := anything(pick)
		before := g.all()
		g.told()
		if g.all() != before {
			t.Fatalf("what was handed in is changed: %s; was %s", g.all(), before)
		}
	}
}

// R3: what is answered is new memory: it shares none with what was handed in, nor with what is answered again, be it the same or not.
func TestAnswersAreNew(t *testing.T) {
	pick := picker(9)
	for range 1000 {
		g := anything(pick)
		a, b := g.told(), g.told()
		before, want := g.all(), text(b)
		a.spoil()
		if g.all() != before || text(b) != want || text(g.told()) != want {
			t.Fatal("answers share memory with what was handed in, or with answers")
		}
		g.spoil()
		if text(b) != want {
			t.Fatal("answers hang on what was handed in when it is changed later")
		}
	}
	p := marks(mark(1, 7, wide))
	same := given{p: p, x: mark(1, 7, wide), old: 5, root: 5}.told()
	same.preds[1], _ = pred.Release(p, 8)
	for i, q := range same.preds {
		if !pred.Same(p, q) || &p.List[0] == &q.List[0] {
			t.Errorf("call %d: %+v is answered in the memory that was handed in, or otherwise", i, q)
		}
	}
}

// R2: of several errors the first one is answered, and nothing beside it.
func TestOrderOfErrors(t *testing.T) {
	pick := picker(10)
	seen := map[api.Errno]int{}
	for range 2500 {
		g := anything(pick)
		if !mayBe(g.p) {
			wantCheck(t, "wrong", g.p, api.ErrPreds)
			seen[api.ErrPreds]++
			continue
		}
		wantCheck(t, "right", g.p, api.OK)
		_, e1 := wantAttach(t, g.p, g.x)
		_, e2 := wantRelease(t, g.p, g.x.Txn)
		_, e3 := wantPass(t, g.p, g.way, g.k)
		_, e4 := wantSplit(t, g.p, g.l, g.root)
		_, e5 := wantGone(t, g.p, g.way, g.old, g.root)
		_, e6 := wantMeets(t, g.p, g.old, g.k, g.x.Txn)
		for _, err := range []api.Errno{e1, e2, e3, e4, e5, e6} {
			seen[err]++
		}
	}
	for _, err := range []api.Errno{api.OK, api.ErrArg, api.ErrFull, api.ErrPreds} {
		if seen[err] < 100 {
			t.Errorf("error %d came %d times", err, seen[err])
		}
	}
	full := marks(stair(1, 7, 512)...)
	got, err := wantAttach(t, full, mark(2, 0, wide))
	wantErr(t, "no mark, of 512", got, err, api.ErrArg)
	got, err = wantPass(t, full, []uint32{1, 2, 3, 0}, at(0, 0))
	wantErr(t, "an Id 0 behind those that fill it", got, err, api.ErrArg)
	got, err = wantSplit(t, full, []api.Split{{Old: 1, New: 2}, {Old: 3}}, 4)
	wantErr(t, "an Id 0 behind a split that fills it", got, err, api.ErrArg)
	got, err = wantGone(t, full, []uint32{5, 0}, 1, 2)
	wantErr(t, "0 went, and the root would fill it", got, err, api.ErrArg)
}

// R5: calls leave nothing behind for later ones.
func TestCallsStandAlone(t *testing.T) {
	pick := picker(11)
	for range 100 {
		g := anything(pick)
		want := text(g.told())
		for range 10 {
			anything(pick).told()
			if got := text(g.told()); got != want {
				t.Fatalf("a call is answered otherwise when it comes again: %s; want %s", got, want)
			}
		}
	}
}

// R1: calls end, and none panics, however much they are given.
func TestHoweverMuchIsGiven(t *testing.T) {
	const n = 2000000
	long := marks(stair(1, 7, n)...)
	wantCheck(t, "two million marks", long, api.ErrPreds)
	if !pred.Same(long, long) {
		t.Error("two million marks are not the same as themselves")
	}
	half := marks(stair(1, 7, 256)...)
	both := marks(append(stair(1, 7, 256), stair(2, 7, 256)...)...)
	way, back, gone := make([]uint32, n), make([]api.Split, n), make([]uint32, n)
	rising := make([]api.Split, n)
	for i := range uint32(n) {
		way[i], gone[i] = 1+i%2, 3+i
		back[i] = api.Split{Old: 1 + i%2, New: 2 - i%2, Root: i%3 == 0}
		rising[i] = api.Split{Old: 1, New: i + 1}
	}
	for _, x := range []struct {
		what string
		p    api.Preds
		err  api.Errno
		call func() (api.Preds, api.Errno)
	}{
		{"there and back", both, api.OK, func() (api.Preds, api.Errno) { return pred.Pass(half, way, at(0, 0)) }},
		{"down and down", api.Preds{}, api.ErrFull, func() (api.Preds, api.Errno) { return pred.Pass(half, append([]uint32{1}, gone...), at(0, 0)) }},
		{"down, where there is nothing", half, api.OK, func() (api.Preds, api.Errno) { return pred.Pass(half, gone, at(0, 0)) }},
		{"splits there and back", both, api.OK, func() (api.Preds, api.Errno) { return pred.Split(half, back, 2) }},
		{"splits of one", api.Preds{}, api.ErrFull, func() (api.Preds, api.Errno) { return pred.Split(half, rising, 2) }},
		{"all but two nodes went", both, api.OK, func() (api.Preds, api.Errno) { return pred.Gone(half, gone, 1, 2) }},
	} {
		if got, err := x.call(); err != x.err || !pred.Same(got, x.p) {
			t.Errorf("%s: %d marks, error %d", x.what, len(got.List), err)
		}
	}
}
