package lock_test

import (
	"slices"
	"testing"

	"gazetteer/api"
	"gazetteer/lock"
)

// given is what calls are given, with room behind each list.
type given struct {
	l api.Locks
	w api.Lock
}

// give is locks each list of which has room behind its end, and what is asked for.
func give(l api.Locks, w api.Lock) given {
	room := row(sh(70, 7), ex(71, 7), sh(72, 7), sh(73, 7), ex(74, 7), sh(75, 7))
	held, waits := append(slices.Clone(l.Held), room...), append(slices.Clone(l.Waits), room...)
	return given{api.Locks{Held: held[:len(l.Held)], Waits: waits[:len(l.Waits)]}, w}
}

// all is all that was given, with the room behind the ends.
func (g given) all() string {
	return text([]any{g.l.Held[:cap(g.l.Held)], g.l.Waits[:cap(g.l.Waits)], g.w})
}

// spoil changes all that was given.
func (g given) spoil() {
	clear(g.l.Held[:cap(g.l.Held)])
	clear(g.l.Waits[:cap(g.l.Waits)])
}

// answers is what is told of what was given.
type answers struct {
	check, e1, e2, e3, e4 api.Errno
	same, ok              bool
	mode                  int
	asked, released       api.Locks
	granted               []api.Lock
	waits                 []api.Edge
	order                 []uint64
}

func (g given) told() answers {
	var a answers
	a.check, a.same = lock.Check(g.l), lock.Same(g.l, g.l)
	a.mode = lock.Mode(g.l, g.w.Txn, g.w.Row)
	a.asked, a.ok, a.e1 = lock.Ask(g.l, g.w.Txn, g.w.Row, g.w.Mode)
	a.released, a.granted, a.e2 = lock.Release(g.l, g.w.Txn)
	a.waits, a.e3 = lock.Waits(g.l)
	a.order, a.e4 = lock.Order(g.l)
	return a
}

// lists is all lists of locks that were answered.
func (a answers) lists() []*[]api.Lock {
	return []*[]api.Lock{&a.asked.Held, &a.asked.Waits, &a.released.Held, &a.released.Waits, &a.granted}
}

// spoil changes all lists that were answered, the room behind their ends with them.
func (a answers) spoil() {
	for _, l := range a.lists() {
		clear((*l)[:cap(*l)])
	}
	clear(a.waits[:cap(a.waits)])
	clear(a.order[:cap(a.order)])
}

// anything is what calls may be given, right and wrong.
func anything(pick func(n int) int) given {
	var l api.Locks
	for range pick(40) {
		w := some(pick, 9, 6, 3)
		if n, _, err := lock.Ask(l, w.Txn, w.Row, w.Mode); err == api.OK {
			l = n
		}
		if pick(20) == 0 {
			l, _, _ = lock.Release(l, w.Txn)
		}
	}
	w := some(pick, 9, 7, 3)
	switch pick(12) {
	case 0:
		l.Held = append(l.Held, some(pick, 9, 9, 2))
	case 1:
		l.Waits = append(l.Waits, some(pick, 9, 9, 2))
	case 2:
		slices.Reverse(l.Waits)
	case 3:
		l.Held = l.Held[pick(len(l.Held)+1):]
	case 4:
		w.Mode = pick(4)
	case 5:
		w.Txn = 0
	}
	return give(l, w)
}

// R3: what is handed in is as it was, the room behind its lists with it.
func TestWhatIsGivenStays(t *testing.T) {
	pick := picker(3)
	for range 3000 {
		g := anything(pick)
		before := g.all()
		g.told()
		if g.all() != before {
			t.Fatalf("what was handed in is changed: %s; was %s", g.all(), before)
		}
	}
}

// R3: what is answered is new memory: it shares none with what was handed in, nor with what is answered again.
func TestAnswersAreNew(t *testing.T) {
	pick := picker(4)
	for range 3000 {
		g := anything(pick)
		a, b := g.told(), g.told()
		before, want := g.all(), text(b)
		a.spoil()
		if g.all() != before || text(b) != want || text(g.told()) != want {
			t.Fatal("answers share memory with what was handed in, or with answers")
		}
		g.spoil()
		if text(b) != want {
			t.Fatal("answers hang on what was handed in when it is changed later")
		}
	}
	l := of(row(ex(1, 5)), sh(2, 5))
	if got, ok, _ := lock.Ask(l, 1, 5, shared); !ok || &got.Held[0] == &l.Held[0] || &got.Waits[0] == &l.Waits[0] {
		t.Error("an Ask for what is held answers the lists that it was given")
	}
}

// R3: no two lists of one answer share memory.
func TestListsOfOneAnswer(t *testing.T) {
	pick := picker(5)
	for range 3000 {
		a := anything(pick).told()
		for i := range a.lists() {
			before := text(a)
			l := *a.lists()[i]
			kept := slices.Clone(l)
			clear(l[:cap(l)])
			copy(l, kept)
			if text(a) != before {
				t.Fatalf("two lists of one answer share memory: %s; was %s", text(a), before)
			}
		}
	}
}

// R2: of several errors the first one is answered, and nothing beside it.
func TestOrderOfErrors(t *testing.T) {
	pick := picker(6)
	seen := map[api.Errno]int{}
	for range 6000 {
		g := anything(pick)
		if !mayBe(g.l) {
			wantCheck(t, "wrong", g.l, api.ErrLocks)
			wantNone(t, "wrong", g.l, g.w)
			seen[api.ErrLocks]++
			continue
		}
		wantCheck(t, "right", g.l, api.OK)
		_, _, err := wantAsk(t, g.l, g.w)
		wantRelease(t, g.l, g.w.Txn)
		wantMode(t, g.l, g.w.Txn, g.w.Row)
		seen[err]++
	}
	for _, err := range []api.Errno{api.OK, api.ErrArg, api.ErrThere, api.ErrFull, api.ErrLocks} {
		if seen[err] < 30 {
			t.Errorf("error %d came %d times", err, seen[err])
		}
	}
}

// R5: calls leave nothing behind for later ones.
func TestCallsStandAlone(t *testing.T) {
	pick := picker(7)
	for range 300 {
		g := anything(pick)
		want := text(g.told())
		for range 10 {
			anything(pick).told()
			if got := text(g.told()); got != want {
				t.Fatalf("a call is answered otherwise when it comes again: %s; want %s", got, want)
			}
		}
	}
}

// R1: calls end, and none panics, however much they are given.
func TestHoweverMuchIsGiven(t *testing.T) {
	many := stair(1, 0, 2000000)
	for _, l := range []api.Locks{of(many), of(nil, many...), of(many, many...), of(row(ex(1, 5)), many...), of(make([]api.Lock, 65)), of(nil, make([]api.Lock, 2000000)...)} {
		if err := lock.Check(l); err != api.ErrLocks {
			t.Errorf("Check of %d held, %d waits: error %d", len(l.Held), len(l.Waits), err)
		}
		_, _, e1 := lock.Ask(l, 1, 5, shared)
		_, _, e2 := lock.Release(l, 1)
		if e1 != api.ErrLocks || e2 != api.ErrLocks || lock.Mode(l, 1, 5) != 0 || !lock.Same(l, l) {
			t.Errorf("%d held, %d waits: Ask: error %d, Release: error %d", len(l.Held), len(l.Waits), e1, e2)
		}
	}
}
