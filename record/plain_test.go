package record_test

import (
	"bytes"
	"slices"
	"testing"

	"gazetteer/api"
	"gazetteer/record"
)

// greatest is the greatest number that an Lsn may be.
const greatest = 1<<64 - 1

// plainlyMayBe is the chapter's words on what a record may be, kind by kind.
func plainlyMayBe(r api.Record) bool {
	if r.Lsn == 0 || r.Txn == 0 || r.Back != 0 && r.Back >= r.Lsn {
		return false
	}
	placed := 0 <= r.Page && r.Page <= 31 && 0 <= r.Slot && r.Slot <= 3
	switch r.Kind {
	case 1:
		return placed && len(r.Old) <= 52 && len(r.New) <= 52 && string(r.Old) != string(r.New) && r.Next == 0
	case 2:
		return placed && len(r.New) <= 52 && r.Next <= r.Back && len(r.Old) == 0
	case 3, 4:
		return r.Page == 0 && r.Slot == 0 && len(r.Old)+len(r.New) == 0 && r.Next == 0
	}
	return false
}

// plainlyARow is the chapter's words on rows: of each record that of its Back, if that is not below the first one's Lsn, is looked for.
func plainlyARow(l []api.Record) bool {
	for i, r := range l {
		if !plainlyMayBe(r) || i > 0 && (l[i-1].Lsn == greatest || r.Lsn != l[i-1].Lsn+1) {
			return false
		}
		if r.Back < l[0].Lsn {
			continue
		}
		at := i - 1
		for at >= 0 && l[at].Txn != r.Txn {
			at--
		}
		if at < 0 || l[at].Lsn != r.Back {
			return false
		}
	}
	return true
}

// plainCheck is Check's answer in the chapter's words, plainCheckRow is CheckRow's.
func plainCheck(r api.Record) api.Errno {
	if plainlyMayBe(r) {
		return api.OK
	}
	return api.ErrRecord
}

func plainCheckRow(l []api.Record) api.Errno {
	if len(l) > 64 {
		return api.ErrLong
	}
	if plainlyARow(l) {
		return api.OK
	}
	return api.ErrRecord
}

// big is x in 8 bytes, the highest first.
func big(x uint64) []byte {
	b := make([]byte, 8)
	for i := 7; i >= 0; i-- {
		b[i] = byte(x % 256)
		x /= 256
	}
	return b
}

// small is the number that bytes say, the highest first.
func small(b []byte) uint64 {
	x := uint64(0)
	for _, c := range b {
		x = 256*x + uint64(c)
	}
	return x
}

// laid is a record as bytes, whether it may be or not: what counts in its Kind, as far as it goes into its bytes.
func laid(r api.Record) []byte {
	b := slices.Concat([]byte{byte(r.Kind)}, big(r.Lsn), big(r.Txn), big(r.Back))
	if r.Kind == 1 {
		b = append(b, byte(r.Page), byte(r.Slot), byte(len(r.Old)))
		b = append(append(b, r.Old...), byte(len(r.New)))
		b = append(b, r.New...)
	}
	if r.Kind == 2 {
		b = append(b, byte(r.Page), byte(r.Slot), byte(len(r.New)))
		b = append(append(b, r.New...), big(r.Next)...)
	}
	return b
}

// laidRow is records as a row's bytes, whether they may be or not.
func laidRow(l []api.Record) []byte {
	b := []byte{byte(len(l) / 256), byte(len(l) % 256)}
	for _, r := range l {
		b = append(b, laid(r)...)
	}
	return b
}

// ends are the places at which the parts of what b begins with end, as far as b tells them, its first byte being a Kind.
func ends(b []byte) []int {
	at := []int{1, 9, 17, 25}
	item := func() {
		from := at[len(at)-1]
		at = append(at, from+1)
		if from < len(b) {
			at = append(at, from+1+int(b[from]))
		}
	}
	switch b[0] {
	case 1:
		at = append(at, 27)
		item()
		item()
	case 2:
		at = append(at, 27)
		item()
		at = append(at, at[len(at)-1]+8)
	}
	return at
}

// plainDecode is Decode's answer in the chapter's words.
func plainDecode(b []byte) (api.Record, int, api.Errno) {
	if len(b) == 0 {
		return api.Record{}, 0, api.ErrShort
	}
	if b[0] < 1 || b[0] > 4 {
		return api.Record{}, 0, api.ErrRecord
	}
	at := ends(b)
	n := at[len(at)-1]
	if n > len(b) {
		return api.Record{}, 0, api.ErrShort
	}
	r := api.Record{Kind: int(b[0]), Lsn: small(b[1:9]), Txn: small(b[9:17]), Back: small(b[17:25])}
	switch b[0] {
	case 1:
		r.Page, r.Slot = int(b[25]), int(b[26])
		r.Old, r.New = b[at[5]:at[6]], b[at[7]:at[8]]
	case 2:
		r.Page, r.Slot = int(b[25]), int(b[26])
		r.New, r.Next = b[at[5]:at[6]], small(b[at[6]:at[7]])
	}
	if !plainlyMayBe(r) {
		return api.Record{}, 0, api.ErrRecord
	}
	return r, n, api.OK
}

// plainDecodeRow is DecodeRow's answer in the chapter's words.
func plainDecodeRow(b []byte) ([]api.Record, api.Errno) {
	if len(b) < 2 {
		return nil, api.ErrShort
	}
	n := small(b[:2])
	if n > 64 {
		return nil, api.ErrLong
	}
	b = b[2:]
	var l []api.Record
	for uint64(len(l)) < n {
		r, size, e := plainDecode(b)
		if e != api.OK {
			return nil, e
		}
		l, b = append(l, r), b[size:]
	}
	if len(b) != 0 || !plainlyARow(l) {
		return nil, api.ErrRecord
	}
	return l, api.OK
}

// same holds records against each other in the test's own way.
func same(a, b api.Record) bool {
	return [...]uint64{a.Lsn, a.Txn, a.Back, a.Next} == [...]uint64{b.Lsn, b.Txn, b.Back, b.Next} &&
		[...]int{a.Kind, a.Page, a.Slot} == [...]int{b.Kind, b.Page, b.Slot} &&
		bytes.Equal(a.Old, b.Old) && bytes.Equal(a.New, b.New)
}

// row is n bytes, another row for each seed.
func row(n int, seed uint32) []byte {
	b := make([]byte, n)
	x := seed*2654435761 | 1
	for i := range b {
		x ^= x << 13
		x ^= x >> 17
		x ^= x << 5
		b[i] = byte(x >> 24)
	}
	return b
}

// turnEach turns each of the first n bytes of b to each there is, and tells b each time.
func turnEach(b []byte, n int, tell func(b []byte)) {
	for i := range n {
		was := b[i]
		for c := range 256 {
			b[i] = byte(c)
			tell(b)
		}
		b[i] = was
	}
}

// copied is a record with lists of its own.
func copied(r api.Record) api.Record {
	r.Old, r.New = slices.Clone(r.Old), slices.Clone(r.New)
	return r
}

// wantDecode decodes b, and holds what is answered against the chapter's words.
func wantDecode(t *testing.T, b []byte) {
	t.Helper()
	want, size, err := plainDecode(b)
	got, n, e := record.Decode(b)
	if e != err || n != size || !same(got, want) {
		t.Fatalf("Decode(% x): %v, %d bytes, error %d; want %v, %d bytes, error %d", b, got, n, e, want, size, err)
	}
}

// wantDecodeRow decodes the row b, and holds what is answered against the chapter's words.
func wantDecodeRow(t *testing.T, b []byte) {
	t.Helper()
	want, err := plainDecodeRow(b)
	got, e := record.DecodeRow(b)
	if e != err || !slices.EqualFunc(got, want, same) {
		t.Fatalf("DecodeRow(% x): %v, error %d; want %v, error %d", b, got, e, want, err)
	}
}

// wantError decodes b, and wants that error, and nothing beside it.
func wantError(t *testing.T, name string, b []byte, err api.Errno) {
	t.Helper()
	if r, n, e := record.Decode(b); e != err || n != 0 || !same(r, api.Record{}) {
		t.Errorf("Decode of %s: %v, %d bytes, error %d; want none, error %d", name, r, n, e, err)
	}
}

// wantRowError decodes the row b, and wants that error, and nothing beside it.
func wantRowError(t *testing.T, name string, b []byte, err api.Errno) {
	t.Helper()
	if l, e := record.DecodeRow(b); e != err || len(l) != 0 {
		t.Errorf("DecodeRow of %s: %v, error %d; want none, error %d", name, l, e, err)
	}
}
