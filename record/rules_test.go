package record_test

import (
	"bytes"
	"slices"
	"testing"

	"gazetteer/api"
	"gazetteer/record"
)

// roomy is b with room behind its end that holds numbers, and all of it.
func roomy(b []byte) (list, whole []byte) {
	whole = append(slices.Clone(b), row(80, 9)...)
	return whole[:len(b)], whole
}

// all are a call's answers to one record, or one row, and to their bytes.
func all(r api.Record, b []byte, l []api.Record, rows []byte) {
	record.Check(r)
	record.Encode(r)
	record.Same(r, r)
	record.Decode(b)
	record.CheckRow(l)
	record.EncodeRow(l)
	record.DecodeRow(rows)
}

// R3: what is handed in is as it was, and the room behind its end, whether it is taken or refused.
func TestWhatIsGivenStays(t *testing.T) {
	for _, kind := range []int{0, 1, 2, 3, 4, 5} {
		r := change()
		r.Kind = kind
		if kind > 1 {
			r.Old = nil
		}
		var beforeAll, afterAll []byte
		r.Old, beforeAll = roomy(r.Old)
		r.New, afterAll = roomy(r.New)
		was, b, a := copied(r), slices.Clone(beforeAll), slices.Clone(afterAll)
		bytesOne, oneAll := roomy(laid(r))
		l := append(line(3, r.Lsn-3), r, commit(), end())[:4]
		bytesRow, rowAll := roomy(laidRow(l))
		wholeOne, wholeRow := slices.Clone(oneAll), slices.Clone(rowAll)
		var records []api.Record
		for _, x := range l[:6] {
			records = append(records, copied(x))
		}
		all(r, bytesOne, l, bytesRow)
		if !same(r, was) || !bytes.Equal(beforeAll, b) || !bytes.Equal(afterAll, a) {
			t.Errorf("Kind %d: the record is changed, or the room behind its lists", kind)
		}
		if !bytes.Equal(oneAll, wholeOne) || !bytes.Equal(rowAll, wholeRow) {
			t.Errorf("Kind %d: the bytes are changed, or the room behind them", kind)
		}
		if !slices.EqualFunc(l[:6], records, same) {
			t.Errorf("Kind %d: the row is changed, or the room behind it", kind)
		}
	}
}

// R3: what Encode and EncodeRow answer is new memory.
func TestBytesAreNew(t *testing.T) {
	r := change()
	l := line(4, 5)
	for name, encode := range map[string]func() []byte{
		"Encode":    func() []byte { b, _ := record.Encode(r); return b },
		"EncodeRow": func() []byte { b, _ := record.EncodeRow(l); return b },
	} {
		first, second := encode(), encode()
		want := slices.Clone(second)
		clear(first[:cap(first)])
		if !bytes.Equal(second, want) || !bytes.Equal(encode(), want) {
			t.Errorf("%s answers the same memory twice, or what it was given", name)
		}
		clear(r.Old)
		clear(l[0].New)
		if !bytes.Equal(second, want) {
			t.Errorf("%s keeps what it was given", name)
		}
		r, l = change(), line(4, 5)
	}
}

// R3: what Decode answers is new memory, each list its own, with the room behind it.
func TestDecodedRecordIsNew(t *testing.T) {
	for _, want := range one() {
		b, whole := roomy(laid(want))
		was := slices.Clone(whole)
		r, _, e := record.Decode(b)
		if e != api.OK || !same(r, want) {
			t.Fatalf("Decode(% x): %v, error %d; want %v", b, r, e, want)
		}
		after := slices.Clone(r.New)
		clear(r.Old[:cap(r.Old)])
		if !bytes.Equal(r.New, after) {
			t.Errorf("Kind %d: Old and New share memory", want.Kind)
		}
		clear(r.New[:cap(r.New)])
		if !bytes.Equal(whole, was) {
			t.Errorf("Kind %d: Decode answers what it was given", want.Kind)
		}
		r, _, _ = record.Decode(b)
		clear(whole)
		if !same(r, want) {
			t.Errorf("Kind %d: Decode keeps what it was given", want.Kind)
		}
	}
}

// R3: what DecodeRow answers is new memory, each record's lists their own.
func TestDecodedRowIsNew(t *testing.T) {
	want := line(6, 5)
	b, whole := roomy(laidRow(want))
	was := slices.Clone(whole)
	first, e := record.DecodeRow(b)
	second, f := record.DecodeRow(b)
	if e != api.OK || f != api.OK || !slices.EqualFunc(first, want, same) {
		t.Fatalf("DecodeRow: %v, errors %d, %d; want %v", first, e, f, want)
	}
	for i := range first {
		rest := slices.Clone(first[i+1:])
		for j := range rest {
			rest[j] = copied(rest[j])
		}
		clear(first[i].Old[:cap(first[i].Old)])
		clear(first[i].New[:cap(first[i].New)])
		if !slices.EqualFunc(first[i+1:], rest, same) {
			t.Errorf("the lists of record %d are those of others, too", i)
		}
	}
	clear(first[:cap(first)])
	if !bytes.Equal(whole, was) || !slices.EqualFunc(second, want, same) {
		t.Errorf("DecodeRow answers what it was given, or one memory twice")
	}
	clear(whole)
	if !slices.EqualFunc(second, want, same) {
		t.Errorf("DecodeRow keeps what it was given")
	}
}

// R3, R5: whether a list is nil or empty, and what stands in the room behind it, makes no difference.
func TestListsAreTheirItems(t *testing.T) {
	for _, r := range one() {
		want, _ := record.Encode(r)
		x := copied(r)
		x.Old, _ = roomy(x.Old)
		x.New, _ = roomy(x.New)
		if b, e := record.Encode(x); e != api.OK || !bytes.Equal(b, want) || !record.Same(r, x) {
			t.Errorf("Encode(%v) with room: % x, error %d; want % x", x, b, e, want)
		}
		b, _ := roomy(want)
		if got, n, e := record.Decode(b); e != api.OK || n != len(b) || !same(got, r) {
			t.Errorf("Decode(% x) with room: %v, %d bytes, error %d", b, got, n, e)
		}
		cut, _ := roomy(want[:len(want)-1])
		wantError(t, "a record cut off, with room", cut, api.ErrShort)
	}
	l := append(line(2, 3), commits(5, 9)...)
	wantCheckRow(t, "with room", l[:2], api.OK)
	rows, _ := roomy(laidRow(l[:2]))
	if got, e := record.DecodeRow(rows); e != api.OK || len(got) != 2 {
		t.Errorf("DecodeRow with room: %v, error %d", got, e)
	}
	whole := laidRow(l)
	wantRowError(t, "a row cut off, with room", whole[:len(whole)-1], api.ErrShort)
}

// R3: fields that do not count are zero in what is told, lists of nothing have nothing.
func TestWhatDoesNotCountIsZero(t *testing.T) {
	for _, r := range []api.Record{commit(), end(), undo()} {
		got, _, e := record.Decode(append(laid(r), row(200, 10)...))
		if e != api.OK || len(got.Old) != 0 || r.Kind != api.RecUndo && (got.Page != 0 || got.Slot != 0 || len(got.New) != 0 || got.Next != 0) {
			t.Errorf("Decode of Kind %d: %v, error %d", r.Kind, got, e)
		}
	}
}

// R5: calls leave nothing behind for later ones.
func TestCallsStandAlone(t *testing.T) {
	good, bad := laidRow(line(5, 2)), laidRow(append(line(3, 2), commit()))
	want, _ := record.DecodeRow(good)
	for range 3 {
		wantRowError(t, "a wrong row", bad, api.ErrRecord)
		wantRowError(t, "a row cut off", good[:30], api.ErrShort)
		if got, e := record.DecodeRow(good); e != api.OK || !slices.EqualFunc(got, want, same) {
			t.Errorf("DecodeRow again: %v, error %d; want %v", got, e, want)
		}
	}
}
