package record

import (
	"iter"

	"gazetteer/api"
	"gazetteer/octet"
)

// reader reads records from bytes.
type reader struct {
	*octet.Reader
}

func read(b []byte) reader {
	return reader{octet.Read(b)}
}

// records tells the next n, each with the error of reading it.
func (r reader) records(n int) iter.Seq2[api.Record, api.Errno] {
	return func(yield func(api.Record, api.Errno) bool) {
		for range n {
			if !yield(r.record()) {
				return
			}
		}
	}
}

// record reads the next one. It is held against what may be when all of it is there, as that it ends too early goes ahead.
func (r reader) record() (api.Record, api.Errno) {
	kind := int(r.U8())
	f := counted(kind)
	if r.Err() == api.OK && f == 0 {
		return api.Record{}, api.ErrRecord
	}
	x := r.fields(f)
	x.Kind = kind
	if r.Err() != api.OK {
		return api.Record{}, r.Err()
	}
	if err := Check(x); err != api.OK {
		return api.Record{}, err
	}
	return x, api.OK
}

// fields reads those fields of a record.
func (r reader) fields(f fields) api.Record {
	x := api.Record{Lsn: r.U64(), Txn: r.U64(), Back: r.U64()}
	if f.has(place) {
		x.Page, x.Slot = int(r.U8()), int(r.U8())
	}
	if f.has(before) {
		x.Old = r.item()
	}
	if f.has(after) {
		x.New = r.item()
	}
	if f.has(next) {
		x.Next = r.U64()
	}
	return x
}

// item reads bytes, ahead of which stands how many they are.
func (r reader) item() []byte {
	return r.Raw(int(r.U8()))
}

// bytesOf is the bytes of a record that may be.
func bytesOf(r api.Record) []byte {
	f := counted(r.Kind)
	b := []byte{byte(r.Kind)}
	for _, x := range []uint64{r.Lsn, r.Txn, r.Back} {
		b = octet.Put64(b, x)
	}
	if f.has(place) {
		b = append(b, byte(r.Page), byte(r.Slot))
	}
	if f.has(before) {
		b = putItem(b, r.Old)
	}
	if f.has(after) {
		b = putItem(b, r.New)
	}
	if f.has(next) {
		b = octet.Put64(b, r.Next)
	}
	return b
}

// putItem is b, and behind it how many bytes an item has, and these.
func putItem(b, item []byte) []byte {
	return append(append(b, byte(len(item))), item...)
}
