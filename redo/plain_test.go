package redo_test

import (
	"bytes"
	"math"
	"slices"
	"testing"

	"gazetteer/api"
	"gazetteer/record"
	"gazetteer/redo"
)

// greatest is the greatest number that an Lsn may be.
const greatest = math.MaxUint64

// The tests hold redo against a plain reading of the chapter, which asks each thing of all records, and goes by lists that are put in order.

// change, undo, commit and end are records of each Kind.
func change(lsn, txn, back uint64, page, slot int, before, after string) api.Record {
	return api.Record{Kind: 1, Lsn: lsn, Txn: txn, Back: back, Page: page, Slot: slot, Old: []byte(before), New: []byte(after)}
}

func undo(lsn, txn, back uint64, page, slot int, after string, next uint64) api.Record {
	return api.Record{Kind: 2, Lsn: lsn, Txn: txn, Back: back, Page: page, Slot: slot, New: []byte(after), Next: next}
}

func commit(lsn, txn, back uint64) api.Record {
	return api.Record{Kind: 3, Lsn: lsn, Txn: txn, Back: back}
}

func end(lsn, txn, back uint64) api.Record {
	return api.Record{Kind: 4, Lsn: lsn, Txn: txn, Back: back}
}

// blank is pages without anything, of those Numbers.
func blank(numbers ...int) []api.Page {
	var l []api.Page
	for _, n := range numbers {
		l = append(l, api.Page{Number: n})
	}
	return l
}

// samePage and sameRecord hold pages and records against each other in the tests' own way.
func samePage(a, b api.Page) bool {
	return a.Number == b.Number && a.Lsn == b.Lsn && slices.EqualFunc(a.Slots[:], b.Slots[:], bytes.Equal)
}

func sameRecord(a, b api.Record) bool {
	return [...]uint64{a.Lsn, a.Txn, a.Back, a.Next} == [...]uint64{b.Lsn, b.Txn, b.Back, b.Next} &&
		[...]int{a.Kind, a.Page, a.Slot} == [...]int{b.Kind, b.Page, b.Slot} &&
		bytes.Equal(a.Old, b.Old) && bytes.Equal(a.New, b.New)
}

func samePages(a, b []api.Page) bool { return slices.EqualFunc(a, b, samePage) }

func sameRecords(a, b []api.Record) bool { return slices.EqualFunc(a, b, sameRecord) }

// copiedPages and copiedRecords are the same, in memory of their own.
func copiedPages(l []api.Page) []api.Page {
	l = slices.Clone(l)
	for i := range l {
		for j := range l[i].Slots {
			l[i].Slots[j] = bytes.Clone(l[i].Slots[j])
		}
	}
	return l
}

func copiedRecords(l []api.Record) []api.Record {
	l = slices.Clone(l)
	for i := range l {
		l[i].Old, l[i].New = bytes.Clone(l[i].Old), bytes.Clone(l[i].New)
	}
	return l
}

// plainCheck is Check's answer in the chapter's words.
func plainCheck(pages []api.Page, l []api.Record) api.Errno {
	if e := record.CheckRow(l); e != api.OK {
		return e
	}
	if len(pages) > 32 {
		return api.ErrRedo
	}
	var top uint64
	for _, r := range l {
		top = max(top, r.Lsn)
	}
	of := map[int]int{}
	for _, p := range pages {
		of[p.Number]++
		if p.Number < 0 || p.Number > 31 || of[p.Number] > 1 {
			return api.ErrRedo
		}
		for _, b := range p.Slots {
			if len(b) > 52 {
				return api.ErrRedo
			}
		}
	}
	if !slices.IsSortedFunc(pages, func(a, b api.Page) int { return a.Number - b.Number }) {
		return api.ErrRedo
	}
	for _, r := range l {
		if r.Kind == 3 || r.Kind == 4 {
			continue
		}
		if of[r.Page] == 0 {
			return api.ErrRedo
		}
		for _, p := range pages {
			if p.Number == r.Page && p.Lsn > top {
				return api.ErrRedo
			}
		}
	}
	return api.OK
}

// txns is the transactions of which one of all records is, rising.
func txns(l []api.Record) []uint64 {
	var all []uint64
	for _, r := range l {
		all = append(all, r.Txn)
	}
	slices.Sort(all)
	return slices.Compact(all)
}

// has tells whether one of the records is of that Txn, and of one of those Kinds.
func has(l []api.Record, txn uint64, kinds ...int) bool {
	return slices.ContainsFunc(l, func(r api.Record) bool { return r.Txn == txn && slices.Contains(kinds, r.Kind) })
}

// plainOpen and plainDone are the answers of Open and Done in the chapter's words, of a row that may be.
func plainOpen(l []api.Record) []api.Open {
	var open []api.Open
	for _, txn := range txns(l) {
		if has(l, txn, 3, 4) {
			continue
		}
		of := slices.DeleteFunc(slices.Clone(l), func(r api.Record) bool { return r.Txn != txn })
		r := slices.MaxFunc(of, func(a, b api.Record) int { return int(a.Lsn - b.Lsn) })
		o := api.Open{Txn: txn, Last: r.Lsn, Next: r.Lsn}
		if r.Kind == 2 {
			o.Next = r.Next
		}
		open = append(open, o)
	}
	return open
}

func plainDone(l []api.Record) []uint64 {
	return slices.DeleteFunc(txns(l), func(txn uint64) bool { return !has(l, txn, 3) })
}

// plainAgain is pages behind records that are done again: page by page.
func plainAgain(pages []api.Page, l []api.Record) []api.Page {
	pages = copiedPages(pages)
	for i := range pages {
		p := &pages[i]
		for _, r := range l {
			if (r.Kind == 1 || r.Kind == 2) && r.Page == p.Number && r.Lsn > p.Lsn {
				p.Lsn, p.Slots[r.Slot] = r.Lsn, bytes.Clone(r.New)
			}
		}
	}
	return pages
}

// plainRedo is Redo's answer in the chapter's words.
func plainRedo(pages []api.Page, l []api.Record) ([]api.Page, api.Errno) {
	if e := plainCheck(pages, l); e != api.OK {
		return nil, e
	}
	return plainAgain(pages, l), api.OK
}

// plainWrong is what is wrong with what Undo is given, ahead of the undoing.
func plainWrong(l []api.Record, open []api.Open, next uint64) api.Errno {
	if e := record.CheckRow(l); e != api.OK {
		return e
	}
	if next == 0 || len(l) > 0 && l[len(l)-1].Lsn >= next {
		return api.ErrArg
	}
	for i, o := range open {
		last := slices.ContainsFunc(l, func(r api.Record) bool { return r.Lsn == o.Last && r.Txn == o.Txn })
		if o.Txn == 0 || i > 0 && open[i-1].Txn >= o.Txn || !last || o.Next > o.Last {
			return api.ErrRedo
		}
	}
	return api.OK
}

// inTurn puts those that are open in the order in which they are undone.
func inTurn(open []api.Open) {
	slices.SortFunc(open, func(a, b api.Open) int {
		before := a.Next > b.Next
		if a.Next == 0 || b.Next == 0 {
			before = a.Next < b.Next
		}
		if a.Next == b.Next {
			before = a.Txn < b.Txn
		}
		if before {
			return -1
		}
		return 1
	})
}

// plainUndo is Undo's answer in the chapter's words: those that are open are put in order ahead of each step.
func plainUndo(l []api.Record, open []api.Open, next uint64) ([]api.Record, api.Errno) {
	if e := plainWrong(l, open, next); e != api.OK {
		return nil, e
	}
	open = slices.Clone(open)
	var made []api.Record
	for len(open) > 0 {
		inTurn(open)
		o := &open[0]
		n := api.Record{Lsn: next + uint64(len(made)), Kind: 4, Txn: o.Txn, Back: o.Last}
		if o.Next > 0 {
			if o.Next < l[0].Lsn {
				return nil, api.ErrRedo
			}
			r := l[o.Next-l[0].Lsn]
			if r.Txn != o.Txn || r.Kind > 2 {
				return nil, api.ErrRedo
			}
			if r.Kind == 2 {
				o.Next = r.Next
				continue
			}
			n.Kind, n.Page, n.Slot, n.New, n.Next = 2, r.Page, r.Slot, r.Old, r.Back
		}
		if len(made) == 64 || n.Lsn < next {
			return nil, api.ErrLong
		}
		made = append(made, n)
		o.Last, o.Next = n.Lsn, n.Next
		if n.Kind == 4 {
			open = open[1:]
		}
	}
	return made, api.OK
}

// plainAll is All's answer in the chapter's words.
func plainAll(pages []api.Page, l []api.Record, next uint64) ([]api.Page, []api.Record, api.Errno) {
	if e := plainCheck(pages, l); e != api.OK {
		return nil, nil, e
	}
	open := plainOpen(l)
	if len(open) == 0 {
		return plainAgain(pages, l), nil, api.OK
	}
	made, e := plainUndo(l, open, next)
	if e != api.OK {
		return nil, nil, e
	}
	return plainAgain(plainAgain(pages, l), made), made, api.OK
}

// wantRow holds what Open, Done and Undo tell of records against the chapter's words.
func wantRow(t *testing.T, l []api.Record, next uint64) {
	t.Helper()
	e := record.CheckRow(l)
	var open []api.Open
	var done []uint64
	if e == api.OK {
		open, done = plainOpen(l), plainDone(l)
	}
	if got, err := redo.Open(l); err != e || !slices.Equal(got, open) {
		t.Fatalf("Open(%v): %v, error %d; want %v, error %d", l, got, err, open, e)
	}
	if got, err := redo.Done(l); err != e || !slices.Equal(got, done) {
		t.Fatalf("Done(%v): %v, error %d; want %v, error %d", l, got, err, done, e)
	}
	wantUndo(t, l, open, next)
}

// wantUndo holds what Undo tells against the chapter's words.
func wantUndo(t *testing.T, l []api.Record, open []api.Open, next uint64) {
	t.Helper()
	want, e := plainUndo(l, open, next)
	if got, err := redo.Undo(l, open, next); err != e || !sameRecords(got, want) {
		t.Fatalf("Undo(%v, %v, %d): %v, error %d; want %v, error %d", l, open, next, got, err, want, e)
	}
}

// wantPages holds what Check, Redo and All tell of pages and records against the chapter's words.
func wantPages(t *testing.T, pages []api.Page, l []api.Record, next uint64) {
	t.Helper()
	if e, want := redo.Check(pages, l), plainCheck(pages, l); e != want {
		t.Fatalf("Check(%v, %v): %d; want %d", pages, l, e, want)
	}
	want, e := plainRedo(pages, l)
	if got, err := redo.Redo(pages, l); err != e || !samePages(got, want) {
		t.Fatalf("Redo(%v, %v): %v, error %d; want %v, error %d", pages, l, got, err, want, e)
	}
	want, made, e := plainAll(pages, l, next)
	if got, m, err := redo.All(pages, l, next); err != e || !samePages(got, want) || !sameRecords(m, made) {
		t.Fatalf("All(%v, %v, %d): %v, %v, error %d; want %v, %v, error %d", pages, l, next, got, m, err, want, made, e)
	}
}

// wantError wants one error of all calls that take those records, and nothing beside it.
func wantError(t *testing.T, name string, pages []api.Page, l []api.Record, open []api.Open, next uint64, e api.Errno) {
	t.Helper()
	o, e1 := redo.Open(l)
	d, e2 := redo.Done(l)
	p, e3 := redo.Redo(pages, l)
	m, e4 := redo.Undo(l, open, next)
	q, n, e5 := redo.All(pages, l, next)
	got := [...]api.Errno{redo.Check(pages, l), e1, e2, e3, e4, e5}
	if got != [...]api.Errno{e, e, e, e, e, e} || len(o)+len(d)+len(p)+len(m)+len(q)+len(n) != 0 {
		t.Errorf("%s: errors %v, %v, %v, %v, %v, %v, %v; want error %d, and nothing", name, got, o, d, p, m, q, n, e)
	}
}

// chance is a row of numbers, the next one at each call.
type chance uint64

// below is a number from 0 to one less than n.
func (c *chance) below(n int) int {
	x := uint64(*c)
	x ^= x << 13
	x ^= x >> 7
	x ^= x << 17
	*c = chance(x)
	return int((x * 0x2545f4914f6cdd1d) >> 33 % uint64(n))
}

// from is a start of its own for each seed.
func from(seed int) *chance {
	c := chance(uint64(seed)*0x9e3779b97f4a7c15 + 1)
	for range 4 {
		c.below(2)
	}
	return &c
}
