package pool_test

import (
	"bytes"
	"slices"
	"testing"

	"gazetteer/api"
	"gazetteer/page"
	"gazetteer/pool"
)

// R4, P8.2 to P8.5: a pool that is nil: ErrNil, ahead of all else; nothing, 0, false.
func TestNilPool(t *testing.T) {
	var p *pool.Pool
	for _, n := range []int{-1, 0, 31, 32} {
		wantNoGet(t, p, n, 1, 0, api.ErrNil)
		wantErr(t, "Set", p.Set(n, 4, row(53, 1), 1), api.ErrNil)
		wantErr(t, "Set", p.Set(n, 0, nil, 1), api.ErrNil)
		wantErr(t, "Unpin", p.Unpin(n), api.ErrNil)
	}
	wantFlush(t, p, 0, 0, api.ErrNil)
	if len(p.Frames()) != 0 || p.Hand() != 0 || p.Broken() {
		t.Errorf("nil tells %v, %d, %v", p.Frames(), p.Hand(), p.Broken())
	}
}

// spoil turns all bytes of a page's slots, and the room behind them.
func spoil(x api.Page) {
	for _, s := range x.Slots {
		room := s[:cap(s)]
		for i := range room {
			room[i] ^= 255
		}
	}
}

// wantKept wants a page as it is got, and lets it go.
func wantKept(t *testing.T, p *pool.Pool, want api.Page) {
	t.Helper()
	wantGet(t, p, 0, want)
	ok(t, p.Unpin(want.Number))
}

// R3: a page that was got, from the disk or from its frame, is new memory: what is done to it is not told, nor written.
func TestGotPagesAreNew(t *testing.T) {
	x := pageOf(6, 3, 2)
	d, p := with(0, 0, x)(t)
	wantFlush(t, p, 3, 0, api.OK)
	p = opened(t, d, 0)
	for range 3 {
		got, _, e := p.Get(6, 0)
		ok(t, e)
		if !page.Same(got, x) {
			t.Fatalf("Get: %v; want %v", got, x)
		}
		spoil(got)
		wantKept(t, p, x)
		other, _, _ := p.Get(6, 0)
		for i := range 4 {
			for j := range 4 {
				if i != j && len(other.Slots[i]) > 0 {
					other.Slots[i][0] ^= 255
					if !bytes.Equal(other.Slots[j], x.Slots[j]) {
						t.Fatalf("slots %d and %d share memory", i, j)
					}
					other.Slots[i][0] ^= 255
				}
			}
		}
	}
	ok(t, p.Set(6, 0, x.Slots[0], 3)) // dirty, so that it is written
	got, _, _ := p.Get(6, 0)
	spoil(got)
	wantFlush(t, p, 3, 0, api.OK)
	wantKept(t, opened(t, d, 0), x)
}

// R3: a page that was got stays as it was, whatever is done to the pool.
func TestGotPagesStay(t *testing.T) {
	x := pageOf(6, 3, 2)
	_, p := with(0, 0, x)(t)
	got, _, e := p.Get(6, 0)
	ok(t, e)
	for i := range 4 {
		ok(t, p.Set(6, i, row(52, 200), 4))
	}
	if !page.Same(got, x) {
		t.Errorf("a Set changes a page that was got: %v", got)
	}
}

// R3: what is handed to a Set is not changed, the room behind its end neither, and not kept.
func TestWhatIsSetIsNotKept(t *testing.T) {
	for _, n := range []int{0, 1, 51, 52} {
		d, p := formatted(t, 133, 0)
		wantGet(t, p, 0, api.Page{Number: 3})
		whole := row(90, 7)
		for _, slot := range []int{-1, 1, 2, 4} {
			p.Set(3, slot, whole[:n], 5)
			p.Set(3, slot, whole, 5)
		}
		if !bytes.Equal(whole, row(90, 7)) {
			t.Fatal("Set changes what it was given, or the room behind it")
		}
		clear(whole)
		want := api.Page{Number: 3, Lsn: 5, Slots: [4][]byte{1: row(n, 7), 2: row(n, 7)}}
		wantKept(t, p, want)
		wantFlush(t, p, 5, 0, api.OK)
		wantKept(t, opened(t, d, 0), want)
	}
}

// R3: a list of frames is new memory, and stays as it was told.
func TestFramesAreNew(t *testing.T) {
	_, p := with(0, 1, pageOf(1, 2, 3), pageOf(4, 5, 6))(t)
	first, second := p.Frames(), p.Frames()
	clear(first[:cap(first)])
	if !slices.Equal(second, p.Frames()) || len(second) != 4 {
		t.Fatal("Frames answers one memory twice")
	}
	was := slices.Clone(second)
	ok(t, p.Unpin(4))
	wantFlush(t, p, 9, 0, api.OK)
	if !slices.Equal(second, was) {
		t.Error("a list that was told changes")
	}
}

// R5: two pools are nothing to one another, but for their disk.
func TestPoolsStandAlone(t *testing.T) {
	x := pageOf(6, 3, 2)
	d, p := with(0, 0, x)(t)
	wantFlush(t, p, 3, 0, api.OK)
	q, r := opened(t, d.Copy(), 0), opened(t, d.Copy(), 0)
	wantGet(t, q, 0, x)
	ok(t, q.Set(6, 0, row(9, 9), 77))
	wantNew(t, r)
	wantGet(t, r, 0, x)
	wantGet(t, p, 0, x)
}

// R2: a call that refuses something leaves all as it was.
func TestWhatIsRefusedChangesNothing(t *testing.T) {
	d, p := dirtied(t)
	wantGet(t, p, 0, pageOf(1, 11, 1))
	was, frames, ops := sectorsOf(t, d), p.Frames(), d.Ops()
	wantNoGet(t, p, -1, 99, 0, api.ErrArg)
	wantNoGet(t, p, 32, 99, 0, api.ErrArg)
	wantNoGet(t, p, 9, 9, 10, api.ErrWait)
	wantErr(t, "Set", p.Set(0, 0, nil, 99), api.ErrNone)
	wantErr(t, "Set", p.Set(9, 0, nil, 99), api.ErrNone)
	wantErr(t, "Set", p.Set(-1, 0, nil, 99), api.ErrArg)
	wantErr(t, "Set", p.Set(1, -1, nil, 99), api.ErrArg)
	wantErr(t, "Set", p.Set(1, 0, row(53, 0), 99), api.ErrLong)
	wantErr(t, "Unpin", p.Unpin(0), api.ErrNone)
	wantErr(t, "Unpin", p.Unpin(9), api.ErrNone)
	wantErr(t, "Unpin", p.Unpin(32), api.ErrArg)
	wantFlush(t, p, 12, 13, api.ErrWait)
	wantFrames(t, p, 0, frames...)
	wantGet(t, p, 0, pageOf(1, 11, 1))
	if d.Ops() != ops || !slices.Equal(sectorsOf(t, d), was) || p.Broken() {
		t.Error("what is refused changes something")
	}
}
