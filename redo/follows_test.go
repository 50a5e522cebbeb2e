package redo_test

import (
	"bytes"
	"slices"
	"testing"

	"gazetteer/api"
	"gazetteer/redo"
)

// history is what some transactions do to four pages, and what is known of it: what stands in each slot, who has set it and is not over, and what stood there ahead of that one; and pages on a disk, each as it was at some time.
type history struct {
	*chance
	row    []api.Record
	first  uint64
	pages  []api.Page
	disk   []api.Page
	holder map[[2]int]uint64
	before map[[2]int][]byte
	opens  map[uint64]api.Open
	gone   map[uint64]bool
	txns   uint64
}

func newHistory(seed int) *history {
	h := &history{chance: from(seed), first: 1, holder: map[[2]int]uint64{}, before: map[[2]int][]byte{}, opens: map[uint64]api.Open{}, gone: map[uint64]bool{}}
	h.pages = blank(0, 3, 4, 31)
	h.disk = blank(0, 3, 4, 31)
	return h
}

// write puts a record behind the row; its Lsn and Back are made here.
func (h *history) write(r api.Record) uint64 {
	r.Lsn, r.Back = h.first+uint64(len(h.row)), h.opens[r.Txn].Last
	h.row = append(h.row, r)
	o := api.Open{Txn: r.Txn, Last: r.Lsn, Next: r.Lsn}
	if r.Kind == api.RecUndo {
		o.Next = r.Next
	}
	h.opens[r.Txn] = o
	return r.Lsn
}

// set is a slot's new bytes, by a record with that Lsn.
func (h *history) set(page, slot int, b []byte, lsn uint64) {
	h.pages[page].Slots[slot], h.pages[page].Lsn = bytes.Clone(b), lsn
}

// change lets a transaction set a slot that no other one holds.
func (h *history) change(txn uint64) {
	at := [2]int{h.below(4), h.below(4)}
	old := h.pages[at[0]].Slots[at[1]]
	b := bytes.Repeat([]byte{byte(h.below(250) + 1)}, h.below(4))
	if x := h.holder[at]; x != 0 && x != txn || bytes.Equal(old, b) {
		return
	}
	if h.holder[at] == 0 {
		h.holder[at], h.before[at] = txn, bytes.Clone(old)
	}
	r := api.Record{Kind: api.RecChange, Txn: txn, Page: h.pages[at[0]].Number, Slot: at[1], Old: bytes.Clone(old), New: b}
	h.set(at[0], at[1], b, h.write(r))
}

// over is that a transaction holds nothing any more.
func (h *history) over(txn uint64) {
	for at, x := range h.holder {
		if x == txn {
			delete(h.holder, at)
			delete(h.before, at)
		}
	}
	delete(h.opens, txn)
}

// undoOne undoes what a transaction has done last, or ends it, if that was all.
func (h *history) undoOne(txn uint64) {
	h.gone[txn] = true
	o := h.opens[txn]
	if o.Next == 0 {
		h.write(api.Record{Kind: api.RecEnd, Txn: txn})
		h.over(txn)
		return
	}
	r := h.row[o.Next-h.first]
	lsn := h.write(api.Record{Kind: api.RecUndo, Txn: txn, Page: r.Page, Slot: r.Slot, New: r.Old, Next: r.Back})
	h.set(slices.IndexFunc(h.pages, func(p api.Page) bool { return p.Number == r.Page }), r.Slot, r.Old, lsn)
}

// checkpoint lets the records go that are ahead of the first one of a transaction that is open; the disk has all pages as they are then.
func (h *history) checkpoint() {
	h.disk = copiedPages(h.pages)
	keep := len(h.row)
	for i, r := range slices.Backward(h.row) {
		if h.opens[r.Txn].Txn != 0 {
			keep = i
		}
	}
	h.first += uint64(keep)
	h.row = h.row[keep:]
}

// step is one of the things that happen.
func (h *history) step() {
	txn := uint64(0)
	for x := range h.opens {
		txn = max(txn, x)
	}
	if txn == 0 || h.below(3) == 0 && len(h.opens) < 4 {
		h.txns++
		txn = h.txns
	} else if x := txn - uint64(h.below(4)); h.opens[x].Txn != 0 {
		txn = x
	}
	switch n := h.below(12); {
	case h.gone[txn]:
		h.undoOne(txn)
	case n < 8:
		h.change(txn)
	case n == 8 && h.opens[txn].Txn != 0:
		h.write(api.Record{Kind: api.RecCommit, Txn: txn})
		h.over(txn)
	case n == 9 && h.opens[txn].Txn != 0:
		h.undoOne(txn)
	case n == 10:
		i := h.below(4)
		h.disk[i] = copiedPages(h.pages[i : i+1])[0]
	case h.below(8) == 0:
		h.checkpoint()
	}
}

// wanted is what stands in all slots when nobody is open any more: what the committed ones have set.
func (h *history) wanted() []api.Page {
	l := copiedPages(h.pages)
	for at, b := range h.before {
		l[at[0]].Slots[at[1]] = b
	}
	return l
}

// sameSlots tells whether pages are the same but for their Lsns.
func sameSlots(a, b []api.Page) bool {
	return slices.EqualFunc(a, b, func(p, q api.Page) bool {
		p.Lsn = q.Lsn
		return samePage(p, q)
	})
}

// lived is a history of some steps, with room in its row for what undoing makes.
func lived(seed int) *history {
	h := newHistory(seed)
	for range 5 + seed%150 {
		if len(h.row) >= 38 {
			h.checkpoint()
		}
		if len(h.row) < 38 {
			h.step()
		}
	}
	return h
}

// P12.6: what committed transactions have set stands, what open ones and those that were given up have set does not; then nobody is open.
func TestOnlyWhatWasCommittedStands(t *testing.T) {
	undone := 0
	for seed := range 6000 {
		h := lived(seed)
		next := h.first + uint64(len(h.row))
		p, m, e := redo.All(h.disk, h.row, next)
		if e != api.OK || !sameSlots(p, h.wanted()) {
			t.Fatalf("history %d: All(%v, %v, %d): %v, %v, error %d; want the slots of %v", seed, h.disk, h.row, next, p, m, e, h.wanted())
		}
		if q, e := redo.Redo(h.disk, h.row); e != api.OK || !samePages(q, h.pages) {
			t.Fatalf("history %d: Redo(%v, %v): %v, error %d; want %v", seed, h.disk, h.row, q, e, h.pages)
		}
		all := slices.Concat(h.row, m)
		if open := plainOpen(all); len(open) > 0 {
			t.Fatalf("history %d: %v is open behind %v", seed, open, all)
		}
		if len(all) <= 64 {
			if open, e := redo.Open(all); e != api.OK || len(open) > 0 {
				t.Fatalf("history %d: Open(%v): %v, error %d", seed, all, open, e)
			}
		}
		if len(m) > 5 {
			undone++
		}
	}
	if undone < 500 {
		t.Errorf("%d histories only are undone by more than five records", undone)
	}
}

// P12.6: cut off anywhere, with the first part of what was made behind the records and any pages younger by some of all these, All makes the rest, and comes to the same pages.
func TestAllGoesOnWhereItWasCutOff(t *testing.T) {
	cuts := 0
	for seed := range 3000 {
		h := lived(seed)
		next := h.first + uint64(len(h.row))
		want, made, e := redo.All(h.disk, h.row, next)
		if e != api.OK {
			t.Fatalf("history %d: error %d", seed, e)
		}
		for cut := range len(made) + 1 {
			l := slices.Concat(h.row, made[:cut])
			if len(l) > 64 {
				break
			}
			cuts++
			pages := copiedPages(h.disk)
			for i := range pages {
				pages[i] = plainAgain(pages[i:i+1], l[:h.below(len(l)+1)])[0]
			}
			at := next + uint64(cut)
			p, m, e := redo.All(pages, l, at)
			if e != api.OK || !samePages(p, want) || !sameRecords(m, made[cut:]) {
				t.Fatalf("history %d, %d of %d records behind: All(%v, %v, %d): %v, %v, error %d; want %v, %v", seed, cut, len(made), pages, l, at, p, m, e, want, made[cut:])
			}
		}
	}
	if cuts < 10000 {
		t.Errorf("%d cuts only", cuts)
	}
}

// P12.6: so it is with rows of all kinds, which no history has; Redo of what Redo answers is that; a younger page comes to the same.
func TestAgainIsTheSame(t *testing.T) {
	rows := 0
	for seed := range 20000 {
		c := from(seed)
		l := anyRow(c, 1+seed%50)
		if len(l) == 0 {
			continue
		}
		rows++
		pages := blank(0, 5, 10)
		pages[seed%3].Slots[1] = []byte{9}
		want, e := redo.Redo(pages, l)
		if e != api.OK {
			t.Fatalf("Redo(%v, %v): error %d", pages, l, e)
		}
		if p, e := redo.Redo(want, l); e != api.OK || !samePages(p, want) {
			t.Fatalf("Redo(%v, %v): %v, error %d", want, l, p, e)
		}
		for i := range pages {
			n := c.below(len(l) + 1)
			younger, e := redo.Redo(pages, l[:n])
			if e != api.OK {
				t.Fatalf("Redo(%v, %v): error %d", pages, l[:n], e)
			}
			mixed := copiedPages(pages)
			mixed[i] = younger[i]
			if p, e := redo.Redo(mixed, l); e != api.OK || !samePages(p, want) {
				t.Fatalf("Redo(%v, %v): %v, error %d; want %v", mixed, l, p, e, want)
			}
		}
		goesOn(t, pages, l)
	}
	if rows < 15000 {
		t.Errorf("%d rows only", rows)
	}
}

// goesOn wants that All makes the rest behind each part of what it makes.
func goesOn(t *testing.T, pages []api.Page, l []api.Record) {
	t.Helper()
	next := l[len(l)-1].Lsn + 1
	want, made, e := redo.All(pages, l, next)
	if e != api.OK {
		return
	}
	for cut := range made {
		all := slices.Concat(l, made[:cut+1])
		if len(all) > 64 {
			return
		}
		p, m, e := redo.All(pages, all, next+uint64(cut)+1)
		if e != api.OK || !samePages(p, want) || !sameRecords(m, made[cut+1:]) {
			t.Fatalf("All(%v, %v): %v, %v, error %d; want %v, %v", pages, all, p, m, e, want, made[cut+1:])
		}
	}
}
