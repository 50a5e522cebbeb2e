package redo

import (
	"slices"

	"gazetteer/api"
	"gazetteer/page"
)

// changes tells whether a record changes a page; one that does not has no Page, though that is 0.
func changes(r api.Record) bool {
	switch r.Kind {
	case api.RecChange, api.RecUndo:
		return true
	}
	return false
}

// last is the last record's Lsn; 0, if there are none.
func last(l []api.Record) uint64 {
	if len(l) == 0 {
		return 0
	}
	return l[len(l)-1].Lsn
}

// mayBe tells whether pages are not too many, each may be, and their Numbers rise.
func mayBe(pages []api.Page) bool {
	if len(pages) > api.MaxPages {
		return false
	}
	for i, p := range pages {
		if page.Check(p) != api.OK || i > 0 && pages[i-1].Number >= p.Number {
			return false
		}
	}
	return true
}

// belong tells whether each record that changes a page finds that among pages, and not younger than the last one.
func belong(pages []api.Page, l []api.Record) bool {
	for _, r := range l {
		if !changes(r) {
			continue
		}
		at := place(pages, r.Page)
		if at < 0 || pages[at].Lsn > last(l) {
			return false
		}
	}
	return true
}

// place is where the page of that Number stands; -1, if there is none.
func place(pages []api.Page, number int) int {
	return slices.IndexFunc(pages, func(p api.Page) bool { return p.Number == number })
}

// again is pages behind records that are done again on them, in memory of its own. The records belong to the pages, so that each finds its page, and Set has no error.
func again(pages []api.Page, l []api.Record) []api.Page {
	done := copied(pages)
	for _, r := range l {
		if !changes(r) {
			continue
		}
		p := &done[place(done, r.Page)]
		if p.Lsn < r.Lsn {
			*p, _ = page.Set(*p, r.Slot, r.New, r.Lsn)
		}
	}
	return done
}

// copied is pages in memory of their own.
func copied(pages []api.Page) []api.Page {
	l := make([]api.Page, len(pages))
	copy(l, pages)
	for i := range l {
		for j, b := range l[i].Slots {
			l[i].Slots[j] = append([]byte(nil), b...)
		}
	}
	return l
}
