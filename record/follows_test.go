package record_test

import (
	"bytes"
	"slices"
	"testing"

	"gazetteer/api"
	"gazetteer/record"
)

// P5.4: Decode of Encode is the record, and all bytes, whatever comes behind them; Encode of that the bytes; of each beginning it is ErrShort.
func TestEncodedIsDecoded(t *testing.T) {
	told := 0
	for r := range choices {
		b, e := record.Encode(r)
		if e != api.OK {
			continue
		}
		told++
		got, n, e := record.Decode(append(slices.Clone(b), 3, 0, 1))
		if e != api.OK || n != len(b) || !record.Same(got, r) {
			t.Fatalf("Decode of Encode(%v): %v, %d bytes of %d, error %d", r, got, n, len(b), e)
		}
		again, e := record.Encode(got)
		if e != api.OK || !bytes.Equal(again, b) {
			t.Fatalf("Encode(%v): % x, error %d; want % x", got, again, e, b)
		}
		if told%7 == 0 {
			wantBeginnings(t, b)
		}
	}
	if told < 1000 {
		t.Errorf("%d records only", told)
	}
}

// wantBeginnings wants of each beginning of a record's bytes that it is too short.
func wantBeginnings(t *testing.T, b []byte) {
	t.Helper()
	for n := range b {
		if r, size, e := record.Decode(b[:n]); e != api.ErrShort || size != 0 || !same(r, api.Record{}) {
			t.Fatalf("Decode(% x): %v, %d bytes, error %d; want error %d", b[:n], r, size, e, api.ErrShort)
		}
	}
}

// P5.4: items of each length there may be.
func TestItemsOfEachLength(t *testing.T) {
	for n := range api.MaxItem + 1 {
		for m := range api.MaxItem + 1 {
			r := api.Record{Kind: api.RecChange, Lsn: 2, Txn: 3, Back: 1, Page: n % 32, Slot: m % 4, Old: row(n, 1), New: row(m, 2)}
			if n+m == 0 {
				continue
			}
			b, e := record.Encode(r)
			if e != api.OK || len(b) != 29+n+m {
				t.Fatalf("Encode(%v): % x, error %d", r, b, e)
			}
			got, size, e := record.Decode(b)
			if e != api.OK || size != len(b) || !record.Same(got, r) || !same(got, r) {
				t.Fatalf("Decode(% x): %v, %d bytes, error %d; want %v", b, got, size, e, r)
			}
			wantBeginnings(t, b)
		}
		r := api.Record{Kind: api.RecUndo, Lsn: 2, Txn: 3, Back: 1, New: row(n, 3), Next: 1}
		b, _ := record.Encode(r)
		if got, size, e := record.Decode(b); e != api.OK || size != 36+n || !record.Same(got, r) {
			t.Fatalf("Decode(% x): %v, %d bytes, error %d; want %v", b, got, size, e, r)
		}
		wantBeginnings(t, b)
	}
}

// P5.4: DecodeRow of EncodeRow is the row; of each beginning it is ErrShort.
func TestEncodedRowIsDecoded(t *testing.T) {
	for n := range api.MaxRecords + 1 {
		for _, l := range [][]api.Record{line(n, 1), line(n, greatest-uint64(n)+1), commits(77, slices.Repeat([]uint64{5, 6, 6, 7}, n)[:n]...)} {
			b, e := record.EncodeRow(l)
			if e != api.OK {
				t.Fatalf("EncodeRow(%v): error %d", l, e)
			}
			got, e := record.DecodeRow(b)
			if e != api.OK || !slices.EqualFunc(got, l, record.Same) {
				t.Fatalf("DecodeRow(% x): %v, error %d; want %v", b, got, e, l)
			}
			for i := range b {
				wantRowError(t, "a beginning", b[:i], api.ErrShort)
			}
		}
	}
}

// P5.4: EncodeRow of DecodeRow is the bytes, of any that it takes; so it is with Encode, and those that Decode tells.
func TestDecodedIsEncoded(t *testing.T) {
	told := 0
	for seed := range uint32(30000) {
		b := chance(row(200, seed))
		l, e := record.DecodeRow(b)
		if e != api.OK {
			continue
		}
		told++
		if again, e := record.EncodeRow(l); e != api.OK || !bytes.Equal(again, b) {
			t.Fatalf("EncodeRow(%v): % x, error %d; want % x", l, again, e, b)
		}
		for at := 2; at < len(b); {
			r, n, e := record.Decode(b[at:])
			again, f := record.Encode(r)
			if e != api.OK || f != api.OK || !bytes.Equal(again, b[at:at+n]) {
				t.Fatalf("Encode of Decode(% x): % x, errors %d, %d", b[at:], again, e, f)
			}
			at += n
		}
	}
	if told < 100 {
		t.Errorf("%d rows only", told)
	}
}
