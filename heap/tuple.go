package heap

import (
	"gazetteer/api"
	"gazetteer/key"
	"gazetteer/octet"
)

// tupleBytes is how many bytes a tuple has: three numbers of 4, five of 8.
const tupleBytes = 3*4 + 5*8

// Check: P10.1.
func Check(t api.Tuple) api.Errno {
	switch {
	case t.Row == 0, t.Xmin == 0, t.Xmin > api.MaxTxn, t.Xmax > api.MaxTxn:
		return api.ErrTuple
	case key.Check(api.ClassBox, t.Key) != api.OK:
		return api.ErrTuple
	}
	return api.OK
}

// Encode: P10.1. Of a tuple that may be Xmin and Xmax have no more than the 4 bytes that they get.
func Encode(t api.Tuple) ([]byte, api.Errno) {
	if err := Check(t); err != api.OK {
		return nil, err
	}
	k := t.Key
	b := put(nil, octet.Put32, t.Row, uint32(t.Xmin), uint32(t.Xmax))
	b = put(b, octet.Put64, uint64(k.X0), uint64(k.X1), uint64(k.Y0), uint64(k.Y1), uint64(t.Value))
	return b, api.OK
}

// Decode: P10.1.
func Decode(b []byte) (api.Tuple, api.Errno) {
	if len(b) != tupleBytes {
		return api.Tuple{}, api.ErrTuple
	}
	t := read(octet.Read(b))
	if err := Check(t); err != api.OK {
		return api.Tuple{}, err
	}
	return t, api.OK
}

// put is b, and behind it some numbers, each put by one.
func put[N any](b []byte, one func([]byte, N) []byte, numbers ...N) []byte {
	for _, x := range numbers {
		b = one(b, x)
	}
	return b
}

// read reads a tuple, whether it may be or not.
func read(r *octet.Reader) api.Tuple {
	t := api.Tuple{Row: r.U32()}
	for _, x := range []*uint64{&t.Xmin, &t.Xmax} {
		*x = uint64(r.U32())
	}
	for _, x := range []*int64{&t.Key.X0, &t.Key.X1, &t.Key.Y0, &t.Key.Y1, &t.Value} {
		*x = int64(r.U64())
	}
	return t
}
