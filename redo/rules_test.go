package redo_test

import (
	"bytes"
	"slices"
	"testing"

	"gazetteer/api"
	"gazetteer/redo"
)

// roomy is b with room behind its end that holds numbers, and all of it.
func roomy(b []byte) (list, all []byte) {
	all = append(slices.Clone(b), bytes.Repeat([]byte{9, 200}, 40)...)
	return all[:len(b)], all
}

// given is what calls are given, with room behind each list that holds something, and all bytes of the slots.
type given struct {
	pages []api.Page
	l     []api.Record
	open  []api.Open
	all   [][]byte
}

// give is pages and records, each list of which has room behind its end.
func give(pages []api.Page, l []api.Record, open []api.Open) given {
	var g given
	with := func(b []byte) []byte {
		list, all := roomy(b)
		g.all = append(g.all, all)
		return list
	}
	g.pages = append(slices.Clone(pages), blank(30, 31, 2)...)[:len(pages)]
	for i := range g.pages {
		for j, b := range g.pages[i].Slots {
			g.pages[i].Slots[j] = with(b)
		}
	}
	g.l = append(slices.Clone(l), commit(1, 1, 0), api.Record{Kind: 9})[:len(l)]
	for i := range g.l {
		g.l[i].Old, g.l[i].New = with(g.l[i].Old), with(g.l[i].New)
	}
	g.open = append(slices.Clone(open), api.Open{Txn: 1}, api.Open{})[:len(open)]
	return g
}

// same tells whether both have been given the same, the room behind the ends with it.
func (g given) same(h given) bool {
	return samePages(g.pages[:cap(g.pages)], h.pages[:cap(h.pages)]) && sameRecords(g.l[:cap(g.l)], h.l[:cap(h.l)]) &&
		slices.Equal(g.open[:cap(g.open)], h.open[:cap(h.open)]) && slices.EqualFunc(g.all, h.all, bytes.Equal)
}

// answers is what is told of what was given.
type answers struct {
	check              api.Errno
	open               []api.Open
	done               []uint64
	redone, all        []api.Page
	undone, made       []api.Record
	e1, e2, e3, e4, e5 api.Errno
}

func (g given) told(next uint64) answers {
	var a answers
	a.check = redo.Check(g.pages, g.l)
	a.open, a.e1 = redo.Open(g.l)
	a.done, a.e2 = redo.Done(g.l)
	a.redone, a.e3 = redo.Redo(g.pages, g.l)
	a.undone, a.e4 = redo.Undo(g.l, g.open, next)
	a.all, a.made, a.e5 = redo.All(g.pages, g.l, next)
	return a
}

func (a answers) same(b answers) bool {
	return slices.Equal(a.open, b.open) && slices.Equal(a.done, b.done) && samePages(a.redone, b.redone) && samePages(a.all, b.all) &&
		sameRecords(a.undone, b.undone) && sameRecords(a.made, b.made) &&
		[...]api.Errno{a.check, a.e1, a.e2, a.e3, a.e4, a.e5} == [...]api.Errno{b.check, b.e1, b.e2, b.e3, b.e4, b.e5}
}

// lists is all lists of bytes of the answers.
func (a answers) lists() [][]byte {
	var l [][]byte
	for _, p := range slices.Concat(a.redone, a.all) {
		l = append(l, p.Slots[:]...)
	}
	for _, r := range slices.Concat(a.undone, a.made) {
		l = append(l, r.Old, r.New)
	}
	return l
}

// spoil changes all that was answered, the room behind its ends with it.
func (a answers) spoil() {
	for _, b := range a.lists() {
		clear(b[:cap(b)])
	}
	clear(a.open[:cap(a.open)])
	clear(a.done[:cap(a.done)])
	clear(a.redone[:cap(a.redone)])
	clear(a.all[:cap(a.all)])
	clear(a.undone[:cap(a.undone)])
	clear(a.made[:cap(a.made)])
}

// spoil changes all that was given.
func (g given) spoil() {
	for _, b := range g.all {
		clear(b)
	}
	clear(g.pages)
	clear(g.l)
	clear(g.open)
}

// full is pages and records with something in all slots, and who is open.
func full() ([]api.Page, []api.Record, []api.Open) {
	l := append(two(), commit(16, 8, 0))
	pages := blank(1, 2, 3, 7)
	for i := range pages {
		for j := range 4 {
			pages[i].Slots[j] = []byte{byte(i + 1), byte(j + 1)}
		}
	}
	return pages, l, plainOpen(l)
}

// R3: what is handed in is as it was, with the room behind its ends, whether it is taken or refused.
func TestWhatIsGivenStays(t *testing.T) {
	pages, l, open := full()
	for _, next := range []uint64{0, 16, 17, greatest} {
		for _, c := range []given{
			give(pages, l, open), give(pages, l[1:], open), give(pages[1:], l, open[1:]), give(nil, nil, nil), give(pages, nil, open),
			give(pages, append(slices.Clone(l), api.Record{}), open), give(slices.Concat(pages, pages), l, slices.Concat(open, open)),
		} {
			was := give(c.pages, c.l, c.open)
			c = give(c.pages, c.l, c.open)
			c.told(next)
			if !c.same(was) {
				t.Errorf("what was given is changed, or the room behind it: %v, %v, %v, next %d", c.pages, c.l, c.open, next)
			}
		}
	}
}

// R3: what is answered is new memory, which shares none with what was given, and keeps none.
func TestAnswersAreNew(t *testing.T) {
	pages, l, open := full()
	g := give(pages, l, open)
	was := give(pages, l, open)
	want := g.told(17)
	a := g.told(17)
	if len(a.undone) < 5 || len(a.made) < 5 || len(a.open) < 2 || len(a.done) < 1 {
		t.Fatalf("too little is told: %v", a)
	}
	a.spoil()
	if !g.same(was) {
		t.Error("answers share memory with what was given")
	}
	a = g.told(17)
	if !a.same(want) {
		t.Error("answers share memory with one another, or are kept")
	}
	g.spoil()
	if !a.same(want) {
		t.Error("answers share memory with what was given")
	}
	if b := was.told(17); !b.same(want) {
		t.Error("what was given is kept")
	}
}

// R3: no two lists of the answers share memory; neither do those of one answer when one list was given everywhere.
func TestListsOfAnswersAreApart(t *testing.T) {
	b := append(make([]byte, 0, 40), 7, 7)
	other := append(make([]byte, 0, 40), 8)
	pages := blank(1, 2)
	for i := range pages {
		pages[i].Slots = [4][]byte{b, b, b, b}
	}
	var l []api.Record
	for i := range uint64(6) {
		l = append(l, api.Record{Kind: 1, Lsn: i + 1, Txn: 1, Back: i, Page: int(1 + i%2), Slot: int(i % 4), Old: other, New: b})
	}
	a := given{pages: pages, l: l, open: plainOpen(l)}.told(7)
	lists := a.lists()
	if len(lists) < 16+28 || !bytes.Equal(a.made[0].New, other) {
		t.Fatalf("too little is told: %v", a)
	}
	for i, x := range lists {
		before := make([][]byte, len(lists))
		for j, y := range lists {
			before[j] = bytes.Clone(y)
		}
		for j := range x[:cap(x)] {
			x[:cap(x)][j] ^= 255
		}
		for j, y := range lists {
			if j != i && !bytes.Equal(y, before[j]) {
				t.Fatalf("the lists %d and %d of the answers share memory", i, j)
			}
		}
	}
	if !bytes.Equal(b, []byte{7, 7}) || !bytes.Equal(other, []byte{8}) {
		t.Error("answers share memory with what was given")
	}
}

// R3: nil and empty lists are the same, and what stands behind their ends makes no difference.
func TestListsAreTheirItems(t *testing.T) {
	pages, l, open := full()
	pages[0].Slots[0], pages[1].Slots[1] = nil, nil
	want := given{pages: pages, l: l, open: open}.told(17)
	if a := give(pages, l, open).told(17); !a.same(want) {
		t.Errorf("with room behind the ends: %v; want %v", a, want)
	}
	empty := given{pages: copiedPages(pages), l: copiedRecords(l), open: open}
	for i := range empty.l {
		for _, b := range []*[]byte{&empty.l[i].Old, &empty.l[i].New} {
			if len(*b) == 0 {
				*b = []byte{}
			}
		}
	}
	empty.pages[0].Slots[0], empty.pages[1].Slots[1] = []byte{}, []byte{}
	if a := empty.told(17); !a.same(want) {
		t.Errorf("with empty lists for nil ones: %v; want %v", a, want)
	}
	none := given{pages: []api.Page{}, l: []api.Record{}, open: []api.Open{}}
	if a := none.told(1); !a.same(given{}.told(1)) || a.e5 != api.OK {
		t.Errorf("of empty lists: %v", a)
	}
}

// R5: calls leave nothing behind for later ones, whatever they answered.
func TestCallsStandAlone(t *testing.T) {
	pages, l, open := full()
	g := given{pages: pages, l: l, open: open}
	want := g.told(17)
	for range 3 {
		for _, h := range []given{{}, {pages: pages[1:], l: l, open: open}, {pages: pages, l: l[2:], open: open}, {l: []api.Record{{}}}} {
			h.told(3)
			h.told(greatest)
			if a := g.told(17); !a.same(want) {
				t.Fatalf("of the same again: %v; want %v", a, want)
			}
		}
	}
}
