package record_test

import (
	"bytes"
	"slices"
	"testing"

	"gazetteer/api"
	"gazetteer/record"
)

// P5.2: the bytes of a record of each Kind, written out.
func TestEncodeKnown(t *testing.T) {
	for _, c := range []struct {
		r api.Record
		b []byte
	}{
		{api.Record{Kind: api.RecCommit, Lsn: 2, Txn: 1, Back: 1},
			[]byte{3, 0, 0, 0, 0, 0, 0, 0, 2, 0, 0, 0, 0, 0, 0, 0, 1, 0, 0, 0, 0, 0, 0, 0, 1}},
		{api.Record{Kind: api.RecEnd, Lsn: 1<<56 + 258, Txn: 1<<64 - 1, Back: 1 << 56},
			[]byte{4, 1, 0, 0, 0, 0, 0, 1, 2, 255, 255, 255, 255, 255, 255, 255, 255, 1, 0, 0, 0, 0, 0, 0, 0}},
		{api.Record{Kind: api.RecChange, Lsn: 1, Txn: 1, Page: 2, Slot: 3, New: []byte{7}},
			[]byte{1, 0, 0, 0, 0, 0, 0, 0, 1, 0, 0, 0, 0, 0, 0, 0, 1, 0, 0, 0, 0, 0, 0, 0, 0, 2, 3, 0, 1, 7}},
		{api.Record{Kind: api.RecChange, Lsn: 9, Txn: 4, Back: 8, Page: 31, Slot: 0, Old: []byte{5, 6}, New: []byte{}},
			[]byte{1, 0, 0, 0, 0, 0, 0, 0, 9, 0, 0, 0, 0, 0, 0, 0, 4, 0, 0, 0, 0, 0, 0, 0, 8, 31, 0, 2, 5, 6, 0}},
		{api.Record{Kind: api.RecUndo, Lsn: 9, Txn: 4, Back: 8, Page: 0, Slot: 1, New: []byte{7, 6, 5}, Next: 3},
			[]byte{2, 0, 0, 0, 0, 0, 0, 0, 9, 0, 0, 0, 0, 0, 0, 0, 4, 0, 0, 0, 0, 0, 0, 0, 8, 0, 1, 3, 7, 6, 5, 0, 0, 0, 0, 0, 0, 0, 3}},
		{api.Record{Kind: api.RecUndo, Lsn: 515, Txn: 4, Back: 514, Page: 0, Slot: 0, Next: 513},
			[]byte{2, 0, 0, 0, 0, 0, 0, 2, 3, 0, 0, 0, 0, 0, 0, 0, 4, 0, 0, 0, 0, 0, 0, 2, 2, 0, 0, 0, 0, 0, 0, 0, 0, 0, 2, 1}},
	} {
		if b, e := record.Encode(c.r); e != api.OK || !bytes.Equal(b, c.b) {
			t.Errorf("Encode(%v): % x, error %d; want % x", c.r, b, e, c.b)
		}
		for _, behind := range [][]byte{nil, {0}, {3}, {5, 5, 5}, c.b} {
			r, n, e := record.Decode(slices.Concat(c.b, behind))
			if e != api.OK || n != len(c.b) || !same(r, c.r) {
				t.Errorf("Decode(% x) with % x behind: %v, %d bytes, error %d; want %v", c.b, behind, r, n, e, c.r)
			}
		}
	}
}

// P5.2: a first byte that is no Kind, alone and with others behind it: that goes ahead of bytes that are not there. No bytes at all are too short.
func TestDecodeFirstByte(t *testing.T) {
	wantError(t, "nil", nil, api.ErrShort)
	wantError(t, "none", []byte{}, api.ErrShort)
	for c := range 256 {
		err := api.ErrRecord
		if c >= api.RecChange && c <= api.RecEnd {
			err = api.ErrShort
		}
		wantError(t, "one byte", []byte{byte(c)}, err)
		wantError(t, "that and a nought", []byte{byte(c), 0}, err)
		wantError(t, "that and 23 bytes", append([]byte{byte(c)}, row(23, 1)...), err)
		if err == api.ErrRecord {
			for _, r := range one() {
				b := laid(r)
				b[0] = byte(c)
				wantError(t, "a record but for that", b, err)
				wantError(t, "that, and a record", append([]byte{byte(c)}, laid(r)...), err)
			}
		}
	}
}

// P5.2: records that end too early, of which what is there may not be, too, are too short; whole, they may not be.
func TestDecodeShortGoesAhead(t *testing.T) {
	long := bytes.Repeat([]byte{1}, 53)
	for _, c := range []struct {
		name string
		r    api.Record
	}{
		{"Lsn 0", api.Record{Kind: 3, Txn: 1}},
		{"Txn 0", api.Record{Kind: 4, Lsn: 1}},
		{"Back of Lsn", api.Record{Kind: 3, Lsn: 2, Txn: 1, Back: 2}},
		{"Back above Lsn", api.Record{Kind: 3, Lsn: 2, Txn: 1, Back: 3}},
		{"page 32", api.Record{Kind: 1, Lsn: 2, Txn: 1, Page: 32, New: []byte{1}}},
		{"page 255", api.Record{Kind: 1, Lsn: 2, Txn: 1, Page: 255, New: []byte{1}}},
		{"slot 4", api.Record{Kind: 1, Lsn: 2, Txn: 1, Slot: 4, New: []byte{1}}},
		{"slot 255", api.Record{Kind: 1, Lsn: 2, Txn: 1, Slot: 255, New: []byte{1}}},
		{"none and none", api.Record{Kind: 1, Lsn: 2, Txn: 1}},
		{"the same ones", api.Record{Kind: 1, Lsn: 2, Txn: 1, Old: []byte{3, 4}, New: []byte{3, 4}}},
		{"Old of 53 bytes", api.Record{Kind: 1, Lsn: 2, Txn: 1, Old: long}},
		{"New of 53 bytes", api.Record{Kind: 1, Lsn: 2, Txn: 1, New: long}},
		{"New of 255 bytes", api.Record{Kind: 1, Lsn: 2, Txn: 1, New: row(255, 2)}},
		{"page 32 undone", api.Record{Kind: 2, Lsn: 2, Txn: 1, Page: 32}},
		{"slot 4 undone", api.Record{Kind: 2, Lsn: 2, Txn: 1, Slot: 4}},
		{"53 bytes undone", api.Record{Kind: 2, Lsn: 2, Txn: 1, New: long}},
		{"Next above Back", api.Record{Kind: 2, Lsn: 3, Txn: 1, Back: 1, Next: 2}},
		{"the greatest Next", api.Record{Kind: 2, Lsn: 3, Txn: 1, Back: 1, Next: greatest}},
	} {
		b := laid(c.r)
		wantError(t, c.name, b, api.ErrRecord)
		wantError(t, c.name+", and more", append(slices.Clone(b), 3, 0, 0), api.ErrRecord)
		for n := range b {
			wantError(t, c.name+", cut off", b[:n], api.ErrShort)
		}
		if e := record.Check(c.r); e != api.ErrRecord {
			t.Errorf("Check of %s: error %d; want %d", c.name, e, api.ErrRecord)
		}
	}
}

// P5.2: an item that says that it has more bytes than there are.
func TestDecodeItemsCutOff(t *testing.T) {
	for n := range 256 {
		b := laid(api.Record{Kind: 1, Lsn: 1, Txn: 1, Old: row(n, 3), New: []byte{1}})
		wantDecode(t, b)
		wantDecode(t, laid(api.Record{Kind: 1, Lsn: 1, Txn: 1, New: row(n, 3)}))
		wantDecode(t, laid(api.Record{Kind: 2, Lsn: 1, Txn: 1, New: row(n, 3)}))
		wantError(t, "Old without its last byte", b[:27+n], api.ErrShort)
		b[27] = 255
		wantDecode(t, b)
		wantError(t, "Old of 255 bytes that are not there", b[:min(len(b), 28+254)], api.ErrShort)
	}
}

// P5.2: each byte of records turned to each other one, with bytes behind them and with none, against the chapter's words.
func TestDecodeAnyByteChanged(t *testing.T) {
	full := api.Record{Kind: 1, Lsn: greatest, Txn: greatest, Back: greatest - 1, Page: 31, Slot: 3, Old: row(52, 4), New: row(52, 5)}
	small := []api.Record{{Kind: 1, Lsn: 1, Txn: 1, Old: []byte{0}}, {Kind: 2, Lsn: 1, Txn: 1}, {Kind: 2, Lsn: 3, Txn: 1, Back: 2, Next: 2}, {Kind: 3, Lsn: 1, Txn: 1}}
	for _, r := range append(append(one(), small...), full) {
		whole := laid(r)
		for _, b := range [][]byte{whole, append(slices.Clone(whole), row(40, 6)...), append(slices.Clone(whole), make([]byte, 300)...)} {
			turnEach(b, len(whole), func(b []byte) { wantDecode(t, b) })
		}
	}
}

// P5.2: any bytes, a Kind ahead of them or not, against the chapter's words.
func TestDecodeAnyBytes(t *testing.T) {
	for seed := range uint32(60000) {
		b := row(int(seed%150), seed)
		if len(b) > 0 && seed%2 == 0 {
			b[0] = byte(seed/2) % 6
		}
		if len(b) > 28 && seed%3 == 0 {
			copy(b[1:25], make([]byte, 24))
			b[8], b[16], b[24] = b[8]%4, b[16]%3, b[24]%4
			b[25], b[26], b[27] = b[25]%33, b[26]%5, b[27]%60
		}
		wantDecode(t, b)
	}
}
