package record_test

import (
	"bytes"
	"slices"
	"strings"
	"testing"

	"gazetteer/api"
	"gazetteer/record"
)

// change, undo, commit and end are records of each Kind, which stand for those that may be.
func change() api.Record {
	return api.Record{Kind: api.RecChange, Lsn: 9, Txn: 4, Back: 8, Page: 2, Slot: 3, Old: []byte{5, 6}, New: []byte{7}}
}

func undo() api.Record {
	return api.Record{Kind: api.RecUndo, Lsn: 9, Txn: 4, Back: 8, Page: 2, Slot: 3, New: []byte{7, 6, 5}, Next: 3}
}

func commit() api.Record {
	return api.Record{Kind: api.RecCommit, Lsn: 9, Txn: 4, Back: 8}
}

func end() api.Record {
	return api.Record{Kind: api.RecEnd, Lsn: 9, Txn: 4, Back: 8}
}

// one is a record of each Kind.
func one() []api.Record {
	return []api.Record{change(), undo(), commit(), end()}
}

// P5.1: the Kinds, and numbers beside them: each Kind has a record that may be, no other number has one.
func TestCheckKinds(t *testing.T) {
	for _, r := range one() {
		if e := record.Check(r); e != api.OK {
			t.Errorf("Check(%v): error %d", r, e)
		}
		for _, kind := range []int{0, 5, -1, 6, 8, 16, 256, 257, 258, 259, 260, -255, -1 << 63, 1<<63 - 1} {
			r.Kind = kind
			if e := record.Check(r); e != api.ErrRecord {
				t.Errorf("Check(%v): error %d; want %d", r, e, api.ErrRecord)
			}
		}
	}
	for kind := -1; kind < 6; kind++ {
		if e := record.Check(api.Record{Kind: kind}); e != api.ErrRecord {
			t.Errorf("Check of noughts of Kind %d: error %d; want %d", kind, e, api.ErrRecord)
		}
	}
}

// P5.1: one field after the other at its edges, by Kind.
func TestCheckFields(t *testing.T) {
	item := func(n int) []byte { return bytes.Repeat([]byte{9}, n) }
	all := "1234"
	for _, c := range []struct {
		name   string
		change func(r *api.Record)
		ok     string // the Kinds of which it may be
	}{
		{"Lsn 0", func(r *api.Record) { r.Lsn, r.Back, r.Next = 0, 0, 0 }, ""},
		{"Lsn 1", func(r *api.Record) { r.Lsn, r.Back, r.Next = 1, 0, 0 }, all},
		{"the greatest Lsn", func(r *api.Record) { r.Lsn = greatest }, all},
		{"Txn 0", func(r *api.Record) { r.Txn = 0 }, ""},
		{"Txn 1", func(r *api.Record) { r.Txn = 1 }, all},
		{"the greatest Txn", func(r *api.Record) { r.Txn = greatest }, all},
		{"Back 0", func(r *api.Record) { r.Back, r.Next = 0, 0 }, all},
		{"Back 0 below the Next", func(r *api.Record) { r.Back = 0 }, "134"},
		{"Back 3, the Next of an undo", func(r *api.Record) { r.Back = 3 }, all},
		{"Back below that", func(r *api.Record) { r.Back = 2 }, "134"},
		{"Back of Lsn", func(r *api.Record) { r.Back = r.Lsn }, ""},
		{"Back of Lsn and one", func(r *api.Record) { r.Back = r.Lsn + 1 }, ""},
		{"the greatest Back", func(r *api.Record) { r.Back = greatest }, ""},
		{"the greatest Lsn and Back", func(r *api.Record) { r.Lsn, r.Back = greatest, greatest }, ""},
		{"the greatest Lsn, and Back of one less", func(r *api.Record) { r.Lsn, r.Back = greatest, greatest-1 }, all},
		{"page -1", func(r *api.Record) { r.Page = -1 }, ""},
		{"page 0", func(r *api.Record) { r.Page = 0 }, all},
		{"page 1 in slot 0", func(r *api.Record) { r.Page, r.Slot = 1, 0 }, "12"},
		{"page 31", func(r *api.Record) { r.Page = api.MaxPages - 1 }, "12"},
		{"page 32", func(r *api.Record) { r.Page = api.MaxPages }, ""},
		{"page 256", func(r *api.Record) { r.Page = 256 }, ""},
		{"page -256", func(r *api.Record) { r.Page = -256 }, ""},
		{"slot -1", func(r *api.Record) { r.Slot = -1 }, ""},
		{"slot 0", func(r *api.Record) { r.Page, r.Slot = 0, 0 }, all},
		{"slot 1 of page 0", func(r *api.Record) { r.Page, r.Slot = 0, 1 }, "12"},
		{"slot 3", func(r *api.Record) { r.Slot = api.MaxSlots - 1 }, "12"},
		{"slot 4", func(r *api.Record) { r.Slot = api.MaxSlots }, ""},
		{"slot 256", func(r *api.Record) { r.Slot = 256 }, ""},
		{"slot -256", func(r *api.Record) { r.Slot = -256 }, ""},
		{"Old nil", func(r *api.Record) { r.Old = nil }, all},
		{"Old empty", func(r *api.Record) { r.Old = []byte{} }, all},
		{"Old of a byte", func(r *api.Record) { r.Old = item(1) }, "1"},
		{"Old of a nought", func(r *api.Record) { r.Old = []byte{0} }, "1"},
		{"Old of 52 bytes", func(r *api.Record) { r.Old = item(api.MaxItem) }, "1"},
		{"Old of 53 bytes", func(r *api.Record) { r.Old = item(api.MaxItem + 1) }, ""},
		{"Old of 256 bytes", func(r *api.Record) { r.Old = item(256) }, ""},
		{"New nil", func(r *api.Record) { r.New = nil }, all},
		{"New empty", func(r *api.Record) { r.New = []byte{} }, all},
		{"New of a byte", func(r *api.Record) { r.New = item(1) }, "12"},
		{"New of a nought", func(r *api.Record) { r.New = []byte{0} }, "12"},
		{"New of 52 bytes", func(r *api.Record) { r.New = item(api.MaxItem) }, "12"},
		{"New of 53 bytes", func(r *api.Record) { r.New = item(api.MaxItem + 1) }, ""},
		{"New of 256 bytes", func(r *api.Record) { r.New = item(256) }, ""},
		{"both nil", func(r *api.Record) { r.Old, r.New = nil, nil }, "234"},
		{"both empty", func(r *api.Record) { r.Old, r.New = []byte{}, []byte{} }, "234"},
		{"Old nil, New empty", func(r *api.Record) { r.Old, r.New = nil, []byte{} }, "234"},
		{"Old empty, New nil", func(r *api.Record) { r.Old, r.New = []byte{}, nil }, "234"},
		{"the same ones", func(r *api.Record) { r.Old, r.New = item(3), item(3) }, ""},
		{"the same ones of 52 bytes", func(r *api.Record) { r.Old, r.New = item(52), item(52) }, ""},
		{"the same one, a byte longer", func(r *api.Record) { r.Old, r.New = item(3), item(4) }, "1"},
		{"the same one, a byte shorter", func(r *api.Record) { r.Old, r.New = item(4), item(3) }, "1"},
		{"a nought, and none", func(r *api.Record) { r.Old, r.New = []byte{0}, nil }, "1"},
		{"other ones in their last byte", func(r *api.Record) { r.Old, r.New = append(item(51), 1), append(item(51), 2) }, "1"},
		{"Next 0", func(r *api.Record) { r.Next = 0 }, all},
		{"Next 1", func(r *api.Record) { r.Next = 1 }, "2"},
		{"Next of Back", func(r *api.Record) { r.Next = r.Back }, "2"},
		{"Next of Back and one", func(r *api.Record) { r.Next = r.Back + 1 }, ""},
		{"the greatest Next", func(r *api.Record) { r.Next = greatest }, ""},
		{"Next 1 behind Back 0", func(r *api.Record) { r.Back, r.Next = 0, 1 }, ""},
	} {
		for i, name := range []string{"1", "2", "3", "4"} {
			r := one()[i]
			c.change(&r)
			want := api.ErrRecord
			if strings.Contains(c.ok, name) {
				want = api.OK
			}
			if e := record.Check(r); e != want {
				t.Errorf("%s, Kind %s: Check: error %d; want %d", c.name, name, e, want)
			}
			if b, e := record.Encode(r); e != want || (e != api.OK) != (len(b) == 0) {
				t.Errorf("%s, Kind %s: Encode: % x, error %d; want error %d", c.name, name, b, e, want)
			}
		}
	}
}

// choices are records that put together edges of all fields: some that may be, most that may not.
func choices(yield func(api.Record) bool) {
	long := row(53, 1)
	other := slices.Clone(long)
	other[51]++
	items := [][]byte{nil, {}, {0}, {1}, long[:52], other[:52], long, other}
	for _, kind := range []int{-1, 0, 1, 2, 3, 4, 5, 257} {
		for _, lsn := range []uint64{0, 1, 2, greatest} {
			for _, txn := range []uint64{0, 1, greatest} {
				for _, back := range []uint64{0, 1, lsn - 1, lsn, lsn + 1} {
					for _, spot := range [][2]int{{0, 0}, {31, 3}, {32, 3}, {31, 4}, {-1, 0}, {0, -1}, {0, 1}, {1, 0}} {
						for _, before := range items {
							for _, after := range items {
								for _, next := range []uint64{0, back, back + 1} {
									if !yield(api.Record{Kind: kind, Lsn: lsn, Txn: txn, Back: back, Page: spot[0], Slot: spot[1], Old: before, New: after, Next: next}) {
										return
									}
								}
							}
						}
					}
				}
			}
		}
	}
}

// P5.1, P5.2: edges of all fields together, against the chapter's words; the bytes of what may be, and what Decode says of the bytes of all.
func TestEdgesTogether(t *testing.T) {
	may, not := 0, 0
	for r := range choices {
		want := plainCheck(r)
		if e := record.Check(r); e != want {
			t.Fatalf("Check(%v): error %d; want %d", r, e, want)
		}
		b, e := record.Encode(r)
		if e != want {
			t.Fatalf("Encode(%v): error %d; want %d", r, e, want)
		}
		if want != api.OK {
			not++
			if b != nil {
				t.Fatalf("Encode(%v): % x beside an error", r, b)
			}
			continue
		}
		may++
		if !bytes.Equal(b, laid(r)) {
			t.Fatalf("Encode(%v): % x; want % x", r, b, laid(r))
		}
		wantDecode(t, b)
	}
	if may < 1000 || not < 1000 {
		t.Errorf("%d records that may be, %d that may not", may, not)
	}
}

// P5.1: the same in all fields, and another one in each.
func TestSame(t *testing.T) {
	for _, r := range append(one(), api.Record{}, api.Record{Kind: -7, Page: -1, Slot: 99, Old: make([]byte, 300), Next: greatest}) {
		if !record.Same(r, r) || !record.Same(r, copied(r)) {
			t.Errorf("Same: %v is not the same as itself", r)
		}
		for name, change := range map[string]func(r *api.Record){
			"Lsn":           func(r *api.Record) { r.Lsn++ },
			"Lsn's top":     func(r *api.Record) { r.Lsn ^= 1 << 63 },
			"Kind":          func(r *api.Record) { r.Kind += 256 },
			"Kind -":        func(r *api.Record) { r.Kind-- },
			"Txn":           func(r *api.Record) { r.Txn++ },
			"Txn's top":     func(r *api.Record) { r.Txn ^= 1 << 63 },
			"Back":          func(r *api.Record) { r.Back++ },
			"Back's top":    func(r *api.Record) { r.Back ^= 1 << 63 },
			"Page":          func(r *api.Record) { r.Page += 256 },
			"Page -":        func(r *api.Record) { r.Page-- },
			"Slot":          func(r *api.Record) { r.Slot += 256 },
			"Slot -":        func(r *api.Record) { r.Slot-- },
			"Old, longer":   func(r *api.Record) { r.Old = append(slices.Clone(r.Old), 0) },
			"New, longer":   func(r *api.Record) { r.New = append(slices.Clone(r.New), 0) },
			"Old, other":    func(r *api.Record) { r.Old = append(slices.Clone(r.Old), 1, 2, 3)[1:] },
			"New, other":    func(r *api.Record) { r.New = append(slices.Clone(r.New), 1, 2, 3)[1:] },
			"Old and New":   func(r *api.Record) { r.Old, r.New = append(slices.Clone(r.New), 1), r.Old },
			"Next":          func(r *api.Record) { r.Next++ },
			"Next's top":    func(r *api.Record) { r.Next ^= 1 << 63 },
			"Page and Slot": func(r *api.Record) { r.Page, r.Slot = r.Slot+1, r.Page },
			"Back and Next": func(r *api.Record) { r.Back, r.Next = r.Next+1, r.Back },
			"Lsn and Txn":   func(r *api.Record) { r.Lsn, r.Txn = r.Txn+1, r.Lsn },
			"all":           func(r *api.Record) { *r = api.Record{Lsn: r.Lsn + 1} },
		} {
			x := copied(r)
			change(&x)
			if record.Same(r, x) || record.Same(x, r) {
				t.Errorf("Same: another %s is not told of %v", name, r)
			}
		}
	}
}

// P5.1, R3: nil and empty lists are the same; of lists of one length each byte counts.
func TestSameLists(t *testing.T) {
	if !record.Same(api.Record{Old: []byte{}}, api.Record{New: []byte{}}) || !record.Same(api.Record{New: []byte{}}, api.Record{}) {
		t.Errorf("Same: nil and empty lists are not the same")
	}
	for n := 1; n <= 53; n++ {
		b := row(n, uint32(n))
		for i := range n {
			c := slices.Clone(b)
			c[i]++
			if record.Same(api.Record{Old: b}, api.Record{Old: c}) || record.Same(api.Record{New: b}, api.Record{New: c}) {
				t.Errorf("Same: lists of %d bytes, one of which is another one at place %d", n, i)
			}
		}
		if record.Same(api.Record{Old: b}, api.Record{Old: b[:n-1]}) || record.Same(api.Record{New: b[:n-1]}, api.Record{New: b}) {
			t.Errorf("Same: a list of %d bytes, and its beginning", n)
		}
		if record.Same(api.Record{Old: b}, api.Record{New: b}) {
			t.Errorf("Same: Old and New are taken for one another")
		}
	}
}

// P5.1: Same tells of all records what their fields tell, of those that may not be, too.
func TestSameOfAny(t *testing.T) {
	for a := range choices {
		b := copied(a)
		if !record.Same(a, b) {
			t.Fatalf("Same: %v is not the same as its copy", a)
		}
	}
}
