package heap_test

import (
	"bytes"
	"math"
	"slices"
	"testing"

	"gazetteer/api"
	"gazetteer/heap"
)

// wantTuple wants of a tuple what the chapter says: of Check, and of Encode.
func wantTuple(t *testing.T, x api.Tuple, want api.Errno) {
	t.Helper()
	var wantBytes []byte
	if want == api.OK {
		wantBytes = laid(x)
	}
	if e := heap.Check(x); e != want {
		t.Errorf("Check(%v): error %d; want %d", x, e, want)
	}
	if b, e := heap.Encode(x); e != want || !bytes.Equal(b, wantBytes) {
		t.Errorf("Encode(%v): % x, error %d; want % x, error %d", x, b, e, wantBytes, want)
	}
}

// wantDecode wants of bytes what the chapter says.
func wantDecode(t *testing.T, b []byte) {
	t.Helper()
	want, err := plainDecode(b)
	if x, e := heap.Decode(b); e != err || x != want {
		t.Fatalf("Decode(% x): %v, error %d; want %v, error %d", b, x, e, want, err)
	}
}

// P10.1: each field at its edges, while all others may be.
func TestCheck(t *testing.T) {
	right := api.Tuple{Row: 4, Xmin: 5, Xmax: 6, Key: api.Key{X0: -1, X1: 2, Y0: 3, Y1: 4}, Value: 7}
	change := func(to func(x *api.Tuple), want api.Errno) {
		t.Helper()
		x := right
		to(&x)
		wantTuple(t, x, want)
	}
	change(func(x *api.Tuple) {}, api.OK)
	for row, want := range map[uint32]api.Errno{0: api.ErrTuple, 1: api.OK, 2: api.OK, 1 << 31: api.OK, topRow: api.OK} {
		change(func(x *api.Tuple) { x.Row = row }, want)
	}
	for id, want := range map[uint64]api.Errno{1: api.OK, 1<<32 - 1: api.OK, 1 << 32: api.ErrTuple, 1<<32 + 5: api.ErrTuple, 1 << 63: api.ErrTuple, math.MaxUint64: api.ErrTuple} {
		change(func(x *api.Tuple) { x.Xmin = id }, want)
		change(func(x *api.Tuple) { x.Xmax = id }, want)
		change(func(x *api.Tuple) { x.Xmin, x.Xmax = id, id }, want)
	}
	change(func(x *api.Tuple) { x.Xmin = 0 }, api.ErrTuple)
	change(func(x *api.Tuple) { x.Xmax = 0 }, api.OK)
	change(func(x *api.Tuple) { x.Xmin, x.Xmax = 9, 8 }, api.OK)
	for _, value := range []int64{0, -1, least, most} {
		change(func(x *api.Tuple) { x.Value = value }, api.OK)
	}
	for _, c := range []struct {
		k    api.Key
		want api.Errno
	}{
		{api.Key{}, api.OK},
		{api.Key{X1: 1}, api.OK},
		{api.Key{Y1: 1}, api.OK},
		{api.Key{X0: 1}, api.ErrTuple},
		{api.Key{Y0: 1}, api.ErrTuple},
		{api.Key{X1: -1}, api.ErrTuple},
		{api.Key{Y1: -1}, api.ErrTuple},
		{api.Key{X0: 3, X1: 2, Y0: 1, Y1: 9}, api.ErrTuple},
		{api.Key{X0: least, X1: most, Y0: least, Y1: most}, api.OK},
		{api.Key{X0: most, X1: least}, api.ErrTuple},
		{api.Key{Y0: most, Y1: least}, api.ErrTuple},
	} {
		change(func(x *api.Tuple) { x.Key = c.k }, c.want)
	}
	wantTuple(t, api.Tuple{}, api.ErrTuple)
}

// P10.1: edges of all fields together, against the chapter's words; what is read of their bytes, too.
func TestEdgesTogether(t *testing.T) {
	count := map[api.Errno]int{}
	for x := range choices {
		want := plainCheck(x)
		count[want]++
		wantTuple(t, x, want)
		wantDecode(t, laid(x))
	}
	if count[api.OK] < 1000 || count[api.ErrTuple] < 1000 {
		t.Errorf("counted: %v", count)
	}
}

// P10.1: the bytes of tuples, written out.
func TestEncodeKnown(t *testing.T) {
	for _, c := range []struct {
		x api.Tuple
		b string
	}{
		{api.Tuple{Row: 1, Xmin: 2, Key: api.Key{X1: 1, Y0: -1}, Value: 3},
			"\x00\x00\x00\x01\x00\x00\x00\x02\x00\x00\x00\x00" +
				"\x00\x00\x00\x00\x00\x00\x00\x00\x00\x00\x00\x00\x00\x00\x00\x01" +
				"\xff\xff\xff\xff\xff\xff\xff\xff\x00\x00\x00\x00\x00\x00\x00\x00\x00\x00\x00\x00\x00\x00\x00\x03"},
		{some()[4],
			"\x01\x02\x03\x04\x05\x06\x07\x08\x09\x0a\x0b\x0c" +
				"\x11\x12\x13\x14\x15\x16\x17\x18\x21\x22\x23\x24\x25\x26\x27\x28" +
				"\x31\x32\x33\x34\x35\x36\x37\x38\x41\x42\x43\x44\x45\x46\x47\x48\x51\x52\x53\x54\x55\x56\x57\x58"},
		{api.Tuple{Row: topRow, Xmin: api.MaxTxn, Xmax: 256, Key: api.Key{X0: least, X1: most, Y0: -2, Y1: 256}, Value: least + 1},
			"\xff\xff\xff\xff\xff\xff\xff\xff\x00\x00\x01\x00" +
				"\x80\x00\x00\x00\x00\x00\x00\x00\x7f\xff\xff\xff\xff\xff\xff\xff" +
				"\xff\xff\xff\xff\xff\xff\xff\xfe\x00\x00\x00\x00\x00\x00\x01\x00\x80\x00\x00\x00\x00\x00\x00\x01"},
	} {
		if b, e := heap.Encode(c.x); e != api.OK || string(b) != c.b {
			t.Errorf("Encode(%v): % x, error %d; want % x", c.x, b, e, c.b)
		}
		if x, e := heap.Decode([]byte(c.b)); e != api.OK || x != c.x {
			t.Errorf("Decode(% x): %v, error %d; want %v", c.b, x, e, c.x)
		}
	}
}

// P10.1: bytes that are fewer, or more: a tuple's ends, its bytes and others behind them, noughts, twice a tuple.
func TestDecodeOtherLengths(t *testing.T) {
	wantNone := func(b []byte) {
		t.Helper()
		if x, e := heap.Decode(b); e != api.ErrTuple || x != (api.Tuple{}) {
			t.Errorf("Decode(% x): %v, error %d; want error %d", b, x, e, api.ErrTuple)
		}
	}
	wantNone(nil)
	wantNone([]byte{})
	for _, x := range some() {
		b := laid(x)
		for n := range 52 {
			wantNone(b[:n])
			wantNone(b[52-n:])
		}
		for n := 1; n < 300; n++ {
			wantNone(append(slices.Clone(b), make([]byte, n)...))
			wantNone(append(slices.Clone(b), bytes.Repeat([]byte{1}, n)...))
			wantNone(append(make([]byte, n), b...))
		}
		wantNone(append(slices.Clone(b), b...))
	}
	for n := range 300 {
		wantNone(make([]byte, n))
	}
}

// P10.1: bytes of tuples that may not be.
func TestDecodeRefuses(t *testing.T) {
	for _, b := range wrong() {
		if x, e := heap.Decode(b); e != api.ErrTuple || x != (api.Tuple{}) {
			t.Errorf("Decode(% x): %v, error %d; want error %d", b, x, e, api.ErrTuple)
		}
	}
}

// P10.1: each byte of tuples turned to each other one, against the chapter's words.
func TestDecodeAnyByteChanged(t *testing.T) {
	for _, x := range some() {
		b := laid(x)
		for i, was := range b {
			for c := range 256 {
				b[i] = byte(c)
				wantDecode(t, b)
			}
			b[i] = was
		}
	}
}

// P10.1: any 52 bytes, against the chapter's words.
func TestDecodeAnyBytes(t *testing.T) {
	pick := picker(1)
	for range 50000 {
		b := make([]byte, 52)
		for i := range b {
			b[i] = byte(pick(256))
		}
		if pick(3) == 0 {
			clear(b[4*pick(3):][:4])
		}
		if pick(3) == 0 {
			copy(b[12:], b[28:44])
		}
		wantDecode(t, b)
	}
}
