package record_test

import (
	"bytes"
	"slices"
	"testing"

	"gazetteer/api"
	"gazetteer/record"
)

// line is n records of one transaction, from an Lsn on, each behind the other.
func line(n int, from uint64) []api.Record {
	var l []api.Record
	back := from - 1
	for i := range n {
		r := one()[i%4]
		r.Lsn, r.Back = from+uint64(i), back
		r.Next = min(r.Next, back)
		back = r.Lsn
		l = append(l, r)
	}
	return l
}

// commits are records of those transactions, 1 Lsn behind the other, each with the Back that is right.
func commits(from uint64, txns ...uint64) []api.Record {
	last := map[uint64]uint64{}
	var l []api.Record
	for i, txn := range txns {
		r := api.Record{Kind: api.RecCommit, Lsn: from + uint64(i), Txn: txn, Back: last[txn]}
		last[txn] = r.Lsn
		l = append(l, r)
	}
	return l
}

// wantCheckRow wants that of CheckRow, of EncodeRow, and of the bytes of the row, if it is not too long.
func wantCheckRow(t *testing.T, name string, l []api.Record, want api.Errno) {
	t.Helper()
	if e := record.CheckRow(l); e != want {
		t.Errorf("%s: CheckRow(%v): error %d; want %d", name, l, e, want)
	}
	b, e := record.EncodeRow(l)
	if e != want || e != api.OK && b != nil {
		t.Errorf("%s: EncodeRow(%v): % x, error %d; want error %d", name, l, b, e, want)
	}
	if want != api.OK {
		wantRowError(t, name, laidRow(l), want)
		return
	}
	if !bytes.Equal(b, laidRow(l)) {
		t.Errorf("%s: EncodeRow(%v): % x; want % x", name, l, b, laidRow(l))
	}
	if got, e := record.DecodeRow(b); e != api.OK || !slices.EqualFunc(got, l, same) {
		t.Errorf("%s: DecodeRow: %v, error %d; want %v", name, got, e, l)
	}
}

// P5.1, P5.3: the chapter's examples.
func TestRowExamples(t *testing.T) {
	change := api.Record{Kind: api.RecChange, Lsn: 1, Txn: 1, Page: 2, Slot: 3, New: []byte{7}}
	commit := api.Record{Kind: api.RecCommit, Lsn: 2, Txn: 1, Back: 1}
	wantCheckRow(t, "the first one behind the second one", []api.Record{change, commit}, api.OK)
	wantCheckRow(t, "the wrong way round", []api.Record{commit, change}, api.ErrRecord)
	commit.Txn = 9
	wantCheckRow(t, "of another transaction", []api.Record{change, commit}, api.ErrRecord)
	b, e := record.EncodeRow([]api.Record{change})
	if want := append([]byte{0, 1}, laid(change)...); e != api.OK || !bytes.Equal(b, want) {
		t.Errorf("EncodeRow: % x, error %d; want % x", b, e, want)
	}
}

// P5.1, P5.3: rows of none, of one, of as many as may be, and of one more.
func TestRowLengths(t *testing.T) {
	wantCheckRow(t, "nil", nil, api.OK)
	wantCheckRow(t, "none", []api.Record{}, api.OK)
	for n := range api.MaxRecords + 1 {
		wantCheckRow(t, "a line", line(n, 9), api.OK)
		wantCheckRow(t, "a line from 1 on", line(n, 1), api.OK)
	}
	wantCheckRow(t, "one too many", line(api.MaxRecords+1, 9), api.ErrLong)
	wantCheckRow(t, "too many", line(300, 9), api.ErrLong)
	wantCheckRow(t, "too many noughts", make([]api.Record, api.MaxRecords+1), api.ErrLong)
	wantCheckRow(t, "noughts", make([]api.Record, api.MaxRecords), api.ErrRecord)
	if b, e := record.EncodeRow(nil); e != api.OK || !bytes.Equal(b, []byte{0, 0}) {
		t.Errorf("EncodeRow of none: % x, error %d; want 00 00", b, e)
	}
}

// P5.1: that there are too many goes ahead of one that may not be; else one is told at each place.
func TestRowWithOneThatMayNotBe(t *testing.T) {
	for _, n := range []int{1, 2, 5, api.MaxRecords, api.MaxRecords + 1} {
		want := api.ErrRecord
		if n > api.MaxRecords {
			want = api.ErrLong
		}
		for i := range n {
			for _, change := range []func(r *api.Record){
				func(r *api.Record) { r.Txn = 0 },
				func(r *api.Record) { r.Kind = 5 },
				func(r *api.Record) { r.Kind = 0 },
				func(r *api.Record) { r.Page = -1 },
				func(r *api.Record) { r.Slot = 4 },
				func(r *api.Record) { r.New = make([]byte, 53) },
				func(r *api.Record) { r.Next = r.Lsn },
			} {
				l := line(n, 7)
				change(&l[i])
				if e := record.CheckRow(l); e != want {
					t.Errorf("CheckRow of %d, the one at place %d being %v: error %d; want %d", n, i, l[i], e, want)
				}
				if b, e := record.EncodeRow(l); e != want || b != nil {
					t.Errorf("EncodeRow of %d, the one at place %d being %v: % x, error %d; want %d", n, i, l[i], b, e, want)
				}
			}
		}
	}
}

// P5.1: Lsns that skip, repeat or fall, at each place; those that stand at the greatest number, or go beyond it.
func TestRowLsns(t *testing.T) {
	for _, n := range []int{2, 3, 6, api.MaxRecords} {
		for i := 1; i < n; i++ {
			for _, by := range []int{-2, -1, 1, 2, 256} {
				txns := make([]uint64, n)
				for j := range txns {
					txns[j] = uint64(j) + 1
				}
				l := commits(100, txns...)
				for j := i; j < n; j++ {
					l[j].Lsn += uint64(by)
				}
				wantCheckRow(t, "a skip", l, api.ErrRecord)
				l = commits(100, txns...)
				l[i].Lsn += uint64(by)
				wantCheckRow(t, "one that is wrong", l, api.ErrRecord)
			}
		}
	}
	wantCheckRow(t, "the greatest Lsn", commits(greatest, 5), api.OK)
	wantCheckRow(t, "up to the greatest Lsn", commits(greatest-2, 5, 6, 5), api.OK)
	wantCheckRow(t, "64 up to the greatest Lsn", line(64, greatest-63), api.OK)
	wantCheckRow(t, "beyond the greatest Lsn", commits(greatest, 5, 6), api.ErrRecord)
	wantCheckRow(t, "the greatest Lsn twice", append(commits(greatest, 5), commits(greatest, 6)...), api.ErrRecord)
	wantCheckRow(t, "behind the greatest Lsn 1", append(commits(greatest, 5), commits(1, 6)...), api.ErrRecord)
	wantCheckRow(t, "from 0 on", commits(0, 5, 6), api.ErrRecord)
}

// P5.1: what a Back may say.
func TestRowBacks(t *testing.T) {
	for _, c := range []struct {
		name string
		txns []uint64
		at   int
		back uint64
		want api.Errno
	}{
		{"below the first one's Lsn", []uint64{1, 1, 1}, 2, 9, api.OK},
		{"0, of one whose transaction stands ahead", []uint64{1, 1, 1}, 2, 0, api.OK},
		{"1, of one whose transaction stands ahead", []uint64{1, 2, 1}, 2, 1, api.OK},
		{"below the first one's Lsn, of the first one", []uint64{1, 2, 1}, 0, 9, api.OK},
		{"below the first one's Lsn, of a transaction that is not there", []uint64{1, 2, 3}, 2, 9, api.OK},
		{"the first one's", []uint64{1, 2, 1}, 2, 10, api.OK},
		{"the first one's, of another transaction", []uint64{1, 2, 2}, 2, 10, api.ErrRecord},
		{"the first one's, which is not the last of its own", []uint64{1, 1, 1}, 2, 10, api.ErrRecord},
		{"the one's ahead", []uint64{2, 1, 1}, 2, 11, api.OK},
		{"the one's ahead, of another transaction", []uint64{1, 2, 1}, 2, 11, api.ErrRecord},
		{"the one's ahead, of a transaction that is not there", []uint64{1, 2, 3}, 2, 11, api.ErrRecord},
		{"not the last of its own, with another one between", []uint64{1, 1, 2, 1}, 3, 10, api.ErrRecord},
		{"the last of its own, with another one between", []uint64{1, 1, 2, 1}, 3, 11, api.OK},
		{"another one's between", []uint64{1, 1, 2, 1}, 3, 12, api.ErrRecord},
		{"its own Lsn", []uint64{1, 1, 1}, 2, 12, api.ErrRecord},
		{"one behind it", []uint64{1, 1, 1}, 1, 12, api.ErrRecord},
		{"the first one's, of itself", []uint64{1, 2}, 0, 10, api.ErrRecord},
	} {
		l := commits(10, c.txns...)
		l[c.at].Back = c.back
		wantCheckRow(t, c.name, l, c.want)
	}
}

// P5.1, P5.3: all rows of up to four records of up to three transactions with each Back there may be, against the chapter's words.
func TestRowsOfFew(t *testing.T) {
	told := map[api.Errno]int{}
	for _, from := range []uint64{1, 2, 6, greatest - 2} {
		for n := 1; n <= 4; n++ {
			grow(nil, n, from, func(l []api.Record) {
				want := plainCheckRow(l)
				told[want]++
				wantCheckRow(t, "few", l, want)
			})
		}
	}
	if told[api.OK] < 500 || told[api.ErrRecord] < 500 {
		t.Errorf("told: %v", told)
	}
}

// grow tells l with n more records in all ways.
func grow(l []api.Record, n int, from uint64, tell func(l []api.Record)) {
	if n == 0 {
		tell(l)
		return
	}
	lsn := from + uint64(len(l))
	backs := []uint64{0, from - 1}
	for i := range len(l) + 1 {
		backs = append(backs, from+uint64(i))
	}
	for txn := uint64(1); txn <= 3; txn++ {
		for _, back := range backs {
			grow(append(slices.Clone(l), api.Record{Kind: api.RecEnd, Lsn: lsn, Txn: txn, Back: back}), n-1, from, tell)
		}
	}
}

// P5.3: a row of bytes that ends ahead of the number, or tells of too many, however many bytes come then.
func TestDecodeRowNumber(t *testing.T) {
	wantRowError(t, "nil", nil, api.ErrShort)
	wantRowError(t, "none", []byte{}, api.ErrShort)
	for c := range 256 {
		wantRowError(t, "one byte", []byte{byte(c)}, api.ErrShort)
	}
	for n := range 1 << 16 {
		number := []byte{byte(n >> 8), byte(n)}
		want := api.ErrShort
		switch {
		case n == 0:
			want = api.OK
		case n > api.MaxRecords:
			want = api.ErrLong
		}
		wantRowError(t, "a number", number, want)
		if want == api.ErrLong {
			wantRowError(t, "a number and no record", append(number, 5), want)
		}
	}
	wantRowError(t, "too many that are there", laidRow(line(65, 1)), api.ErrLong)
	wantRowError(t, "too many, one of which is refused", append(laidRow(line(65, 1))[:500], 5), api.ErrLong)
}

// P5.3: the error of the first record that is refused goes ahead of what is wrong with others, with the row, and with its end.
func TestDecodeRowFirstError(t *testing.T) {
	good := line(3, 4)
	bad := api.Record{Kind: api.RecCommit, Lsn: 5, Txn: 0}
	gap := commits(9, 1)
	cut := laid(good[2])[:20]
	join := func(n int, parts ...[]byte) []byte {
		return append([]byte{0, byte(n)}, slices.Concat(parts...)...)
	}
	for _, c := range []struct {
		name string
		b    []byte
		want api.Errno
	}{
		{"the last one missing", join(3, laid(good[0]), laid(good[1])), api.ErrShort},
		{"the last one cut off", join(3, laid(good[0]), laid(good[1]), cut), api.ErrShort},
		{"no Kind", join(2, laid(good[0]), []byte{5}), api.ErrRecord},
		{"no Kind, and more behind it", join(2, laid(good[0]), []byte{0}, laid(good[1])), api.ErrRecord},
		{"one that may not be, then one cut off", join(3, laid(good[0]), laid(bad), cut), api.ErrRecord},
		{"no Kind, then none", join(3, []byte{9}), api.ErrRecord},
		{"one with a wrong Lsn, then one cut off", join(3, laid(good[0]), laid(gap[0]), cut), api.ErrShort},
		{"one with a wrong Lsn, then none", join(3, laid(good[0]), laid(gap[0])), api.ErrShort},
		{"one with a wrong Lsn", join(2, laid(good[0]), laid(gap[0])), api.ErrRecord},
		{"a byte behind the last one", join(2, laid(good[0]), laid(good[1]), []byte{0}), api.ErrRecord},
		{"a record behind the last one", join(2, laid(good[0]), laid(good[1]), laid(good[2])), api.ErrRecord},
		{"a record's beginning behind the last one", join(2, laid(good[0]), laid(good[1]), cut), api.ErrRecord},
		{"a byte behind none", join(0, []byte{0}), api.ErrRecord},
		{"a record behind none", join(0, laid(good[0])), api.ErrRecord},
		{"a byte ahead", append([]byte{0}, laidRow(good)...), api.ErrRecord},
		{"a number of two", join(2, []byte{0, 0}), api.ErrRecord},
	} {
		wantRowError(t, c.name, c.b, c.want)
	}
}

// P5.3: bytes behind the last record of a row, whatever they are.
func TestDecodeRowGoesOn(t *testing.T) {
	for _, n := range []int{0, 1, 2, 4, 63, 64} {
		b := laidRow(line(n, 3))
		for c := range 256 {
			wantRowError(t, "a byte more", append(slices.Clone(b), byte(c)), api.ErrRecord)
		}
		wantRowError(t, "bytes more", append(slices.Clone(b), row(100, 7)...), api.ErrRecord)
		wantRowError(t, "the row twice", slices.Concat(b, b), api.ErrRecord)
	}
}

// P5.3: each byte of a row turned to each other one, against the chapter's words.
func TestDecodeRowAnyByteChanged(t *testing.T) {
	for _, l := range [][]api.Record{nil, line(1, 1), line(4, 5), commits(greatest-3, 1, 2, 1, 1), line(8, 255)} {
		b := laidRow(l)
		turnEach(b, len(b), func(b []byte) { wantDecodeRow(t, b) })
	}
}

// P5.3: any bytes behind a number, and records put together by chance, against the chapter's words.
func TestDecodeRowAnyBytes(t *testing.T) {
	told := map[api.Errno]int{}
	for seed := range uint32(30000) {
		b := row(int(seed%300), seed)
		if len(b) > 1 {
			b[0], b[1] = 0, b[1]%66
		}
		wantDecodeRow(t, b)
		b = chance(row(200, seed))
		wantDecodeRow(t, b)
		_, e := plainDecodeRow(b)
		told[e]++
	}
	if told[api.OK] < 100 || told[api.ErrRecord] < 100 || told[api.ErrShort] < 100 {
		t.Errorf("told: %v", told)
	}
}

// chance is bytes of records that go together more or less, as dice say.
func chance(dice []byte) []byte {
	throw := func(n int) int {
		c := int(dice[0])
		dice = dice[1:]
		return c % n
	}
	var l []api.Record
	lsn, n := uint64(throw(3)+1), throw(5)
	for range n {
		r := one()[throw(4)]
		r.Lsn, r.Txn, r.Back = lsn, uint64(throw(8)/6+1), lsn-1-uint64(throw(9)/8)
		r.Next = min(r.Next, r.Back)
		lsn += 1 + uint64(throw(30)/29)
		l = append(l, r)
	}
	b := laidRow(l)
	if throw(4) == 0 {
		b[1] = byte(int(b[1]) + throw(3))
	}
	if throw(4) == 0 {
		b = append(b, byte(throw(6)))
	}
	return b[:len(b)-throw(30)/29]
}
