package redo

import (
	"slices"

	"gazetteer/api"
)

// undoing is the undoing of what is open in a row: who is so yet, the Lsn that comes next, and what was made.
type undoing struct {
	row  []api.Record
	open map[uint64]api.Open
	next uint64
	made []api.Record
}

// run makes records till nobody is open, or tells why it went no further.
func (u *undoing) run() api.Errno {
	err := api.OK
undoing:
	for len(u.open) > 0 {
		o := u.turn()
		r := find(u.row, o.Txn, o.Next)
		made := api.Record{Lsn: u.next, Txn: o.Txn, Back: o.Last}
		switch {
		case o.Next == 0:
			made.Kind = api.RecEnd
		case r.Kind == api.RecChange:
			made.Kind, made.Page, made.Slot = api.RecUndo, r.Page, r.Slot
			made.New, made.Next = slices.Clone(r.Old), r.Back
		case r.Kind == api.RecUndo:
			o.Next = r.Next
			u.open[o.Txn] = o
			continue
		default:
			err = api.ErrRedo
			break undoing
		}
		if !u.room() {
			err = api.ErrLong
			break undoing
		}
		u.add(made)
	}
	return err
}

// turn is whose turn it is: the first one that has nothing to be undone, else the first one whose next Lsn is greatest.
func (u *undoing) turn() api.Open {
	var greatest api.Open
	for _, o := range rising(u.open) {
		switch {
		case o.Next == 0:
			return o
		case o.Next > greatest.Next:
			greatest = o
		}
	}
	return greatest
}

// room tells whether one record more may be made. Behind the greatest Lsn the next one has come round to 0.
func (u *undoing) room() bool {
	return len(u.made) < api.MaxRecords && u.next != 0
}

// add puts a record behind those that were made, and its transaction where it stands then.
func (u *undoing) add(r api.Record) {
	u.made = append(u.made, r)
	u.next++
	switch r.Kind {
	case api.RecUndo:
		u.open[r.Txn] = behind(r)
	case api.RecEnd:
		delete(u.open, r.Txn)
	}
}
