package record

import (
	"gazetteer/api"
	"gazetteer/octet"
)

// fields are fields of a record, a bit each, or one for those that count together.
type fields uint8

const (
	numbers fields = 1 << iota // Lsn, Txn and Back
	place                      // Page and Slot
	before                     // Old
	after                      // New
	next                       // Next
)

// counted is the fields that count in a record of a Kind; none, if it is no Kind.
func counted(kind int) fields {
	switch kind {
	case api.RecChange:
		return numbers | place | before | after
	case api.RecUndo:
		return numbers | place | after | next
	case api.RecCommit, api.RecEnd:
		return numbers
	}
	return 0
}

// has tells whether all of some fields are among f.
func (f fields) has(some fields) bool {
	return f&some == some
}

// filled is the fields of r that are not zero, but for its numbers, as these count in every Kind.
func filled(r api.Record) fields {
	var f fields
	if r.Page != 0 || r.Slot != 0 {
		f |= place
	}
	if len(r.Old) > 0 {
		f |= before
	}
	if len(r.New) > 0 {
		f |= after
	}
	if r.Next != 0 {
		f |= next
	}
	return f
}

// mayBe tells whether r may be. Each limit holds whether its field counts or not: one that does not is zero, and keeps within it.
func mayBe(r api.Record) bool {
	f := counted(r.Kind)
	switch {
	case f == 0, !f.has(filled(r)):
		return false
	case r.Lsn == 0, r.Txn == 0, r.Back >= r.Lsn, r.Next > r.Back:
		return false
	case r.Page < 0, r.Page >= api.MaxPages, r.Slot < 0, r.Slot >= api.MaxSlots:
		return false
	case len(r.Old) > api.MaxItem, len(r.New) > api.MaxItem:
		return false
	}
	return !f.has(before) || !octet.Equal(r.Old, r.New)
}

// rowMayBe tells whether l may be, however many they are.
func rowMayBe(l []api.Record) bool {
	last := map[uint64]uint64{} // the Lsn of each transaction's last record ahead of r
	for i, r := range l {
		if !mayBe(r) || r.Lsn != l[0].Lsn+uint64(i) {
			return false
		}
		if r.Back >= l[0].Lsn && r.Back != last[r.Txn] {
			return false
		}
		last[r.Txn] = r.Lsn
	}
	return true
}
