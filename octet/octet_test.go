package octet_test

import (
	"bytes"
	"math"
	"slices"
	"testing"

	"gazetteer/api"
	"gazetteer/octet"
)

// puts are the three calls, with numbers of 64 bits, and how many bytes each lays.
var puts = []struct {
	name string
	size int
	put  func(b []byte, x uint64) []byte
}{
	{"Put16", 2, func(b []byte, x uint64) []byte { return octet.Put16(b, uint16(x)) }},
	{"Put32", 4, func(b []byte, x uint64) []byte { return octet.Put32(b, uint32(x)) }},
	{"Put64", 8, func(b []byte, x uint64) []byte { return octet.Put64(b, x) }},
}

// numbers of size bytes: the least, the greatest, each byte alone, all bytes different, and those beside the powers of 2; rising, none twice.
func numbers(size int) []uint64 {
	greatest := uint64(math.MaxUint64) >> (64 - 8*size)
	list := []uint64{0, 1, greatest, greatest - 1, 0x0123456789abcdef & greatest, 0xfedcba9876543210 & greatest}
	for i := range 8 * size {
		power := uint64(1) << i
		list = append(list, power-1, power, power+1, greatest-power)
	}
	for i := range size {
		list = append(list, 0xff<<(8*i))
	}
	slices.Sort(list)
	return slices.Compact(list)
}

// readAs is the next number of size bytes.
func readAs(r *octet.Reader, size int) uint64 {
	switch size {
	case 1:
		return uint64(r.U8())
	case 2:
		return uint64(r.U16())
	case 4:
		return uint64(r.U32())
	}
	return r.U64()
}

// wantReader asks a reader for its error and for how many bytes are left.
func wantReader(t *testing.T, r *octet.Reader, left int, err api.Errno) {
	t.Helper()
	if r.Left() != left || r.Err() != err {
		t.Errorf("%d left, error %d; want %d left, error %d", r.Left(), r.Err(), left, err)
	}
}

// P1.1: the chapter's examples, no bytes, the greatest numbers.
func TestPut(t *testing.T) {
	for _, c := range []struct {
		name      string
		got, want []byte
	}{
		{"Put16 behind 07", octet.Put16([]byte{7}, 258), []byte{7, 1, 2}},
		{"Put32 of 1", octet.Put32(nil, 1), []byte{0, 0, 0, 1}},
		{"Put64 of 256", octet.Put64(nil, 256), []byte{0, 0, 0, 0, 0, 0, 1, 0}},
		{"Put16 behind none", octet.Put16([]byte{}, 0), []byte{0, 0}},
		{"Put16 of the greatest", octet.Put16(nil, math.MaxUint16), []byte{255, 255}},
		{"Put32 of the greatest", octet.Put32([]byte{0}, math.MaxUint32), []byte{0, 255, 255, 255, 255}},
		{"Put64 of the greatest", octet.Put64([]byte{1, 2}, math.MaxUint64), []byte{1, 2, 255, 255, 255, 255, 255, 255, 255, 255}},
		{"Put16 of all different", octet.Put16(nil, 0x0102), []byte{1, 2}},
		{"Put32 of all different", octet.Put32(nil, 0x01020304), []byte{1, 2, 3, 4}},
		{"Put64 of all different", octet.Put64([]byte{9}, 0x0102030405060708), []byte{9, 1, 2, 3, 4, 5, 6, 7, 8}},
		{"Put32 behind more", octet.Put32([]byte{255, 0, 255}, 0x80000000), []byte{255, 0, 255, 128, 0, 0, 0}},
	} {
		if !bytes.Equal(c.got, c.want) {
			t.Errorf("%s: % x; want % x", c.name, c.got, c.want)
		}
	}
}

// P1.1, R3: what is handed in is as it was, the room behind its end too, and the answer is other memory.
func TestPutLeavesWhatItIsGiven(t *testing.T) {
	for _, p := range puts {
		whole := []byte{1, 2, 3, 4, 5, 6, 7, 8, 9, 10, 11, 12}
		was := slices.Clone(whole)
		first := p.put(whole[:2], math.MaxUint64)
		second := p.put(whole[:2], 0)
		if !bytes.Equal(whole, was) {
			t.Errorf("%s changed what it was given: % x", p.name, whole)
		}
		if want := append([]byte{1, 2}, bytes.Repeat([]byte{255}, p.size)...); !bytes.Equal(first, want) {
			t.Errorf("%s: the second call changed the first one's answer: % x", p.name, first)
		}
		clear(first)
		clear(second)
		if !bytes.Equal(whole, was) {
			t.Errorf("%s answers what it was given", p.name)
		}
	}
}

// P1.2: the same bytes, and as many.
func TestEqual(t *testing.T) {
	for _, c := range []struct {
		a, b []byte
		want bool
	}{
		{[]byte{1, 2}, []byte{1, 2}, true},
		{[]byte{1}, []byte{1, 0}, false},
		{[]byte{1, 0}, []byte{1}, false},
		{nil, nil, true},
		{nil, []byte{}, true},
		{[]byte{}, nil, true},
		{nil, []byte{0}, false},
		{[]byte{0}, nil, false},
		{[]byte{1, 2}, []byte{2, 1}, false},
		{[]byte{1, 2, 3}, []byte{0, 2, 3}, false},
		{[]byte{1, 2, 3}, []byte{1, 0, 3}, false},
		{[]byte{1, 2, 3}, []byte{1, 2, 0}, false},
		{[]byte{0x80}, []byte{0}, false},
		{[]byte{3, 3}, []byte{5, 5}, false},
		{[]byte{1, 255}, []byte{0, 0}, false},
		{[]byte{255, 0, 255}, []byte{255, 0, 255}, true},
	} {
		if got := octet.Equal(c.a, c.b); got != c.want {
			t.Errorf("Equal(% x, % x): %t", c.a, c.b, got)
		}
	}
}

// P1.2: any bit of any byte tells.
func TestEqualAndZeroAtEachBit(t *testing.T) {
	for at := range 9 {
		for bit := range 8 {
			a, b := make([]byte, 9), make([]byte, 9)
			b[at] = 1 << bit
			if octet.Equal(a, b) || octet.Equal(b, a) || octet.Zero(b) || !octet.Equal(b, slices.Clone(b)) || !octet.Zero(a) {
				t.Errorf("bit %d of byte %d is not told", bit, at)
			}
		}
	}
}

// P1.2: all are 0; of no bytes it is true.
func TestZero(t *testing.T) {
	for _, c := range []struct {
		b    []byte
		want bool
	}{
		{nil, true},
		{[]byte{}, true},
		{[]byte{0}, true},
		{[]byte{0, 0}, true},
		{[]byte{0, 1}, false},
		{[]byte{1, 0}, false},
		{[]byte{0, 0x80, 0}, false},
		{[]byte{1, 1}, false},
		{[]byte{1, 255}, false},
		{[]byte{255, 255}, false},
	} {
		if got := octet.Zero(c.b); got != c.want {
			t.Errorf("Zero(% x): %t", c.b, got)
		}
	}
}

// P1.3: the chapter's example.
func TestReadExample(t *testing.T) {
	r := octet.Read([]byte{1, 2, 5})
	wantReader(t, r, 3, api.OK)
	if x := r.U16(); x != 258 {
		t.Errorf("U16: %d", x)
	}
	wantReader(t, r, 1, api.OK)
	if x := r.U16(); x != 0 {
		t.Errorf("U16 at the end: %d", x)
	}
	wantReader(t, r, 1, api.ErrShort)
	if b := r.Raw(1); len(b) != 0 {
		t.Errorf("Raw behind an error: % x", b)
	}
	wantReader(t, r, 1, api.ErrShort)
}

// P1.3: each kind of number, one behind the other.
func TestReadAllKinds(t *testing.T) {
	list := make([]byte, 20)
	for i := range list {
		list[i] = byte(0xf0 + i)
	}
	r := octet.Read(list)
	if x := r.U8(); x != 0xf0 {
		t.Errorf("U8: %x", x)
	}
	wantReader(t, r, 19, api.OK)
	if x := r.U16(); x != 0xf1f2 {
		t.Errorf("U16: %x", x)
	}
	wantReader(t, r, 17, api.OK)
	if x := r.U32(); x != 0xf3f4f5f6 {
		t.Errorf("U32: %x", x)
	}
	wantReader(t, r, 13, api.OK)
	if x := r.U64(); x != 0xf7f8f9fafbfcfdfe {
		t.Errorf("U64: %x", x)
	}
	wantReader(t, r, 5, api.OK)
	if b := r.Raw(3); !bytes.Equal(b, []byte{0xff, 0, 1}) {
		t.Errorf("Raw: % x", b)
	}
	wantReader(t, r, 2, api.OK)
	if b := r.Raw(0); len(b) != 0 {
		t.Errorf("Raw(0): % x", b)
	}
	wantReader(t, r, 2, api.OK)
	if b := r.Raw(2); !bytes.Equal(b, []byte{2, 3}) {
		t.Errorf("Raw of the rest: % x", b)
	}
	wantReader(t, r, 0, api.OK)
}

// P1.3: the end is no error till something more is read.
func TestReadNothing(t *testing.T) {
	for _, b := range [][]byte{nil, {}} {
		r := octet.Read(b)
		wantReader(t, r, 0, api.OK)
		if got := r.Raw(0); len(got) != 0 {
			t.Errorf("Raw(0): % x", got)
		}
		wantReader(t, r, 0, api.OK)
		if x := r.U8(); x != 0 {
			t.Errorf("U8: %d", x)
		}
		wantReader(t, r, 0, api.ErrShort)
	}
}

// P1.3: with fewer bytes left than are asked for it tells 0 and stands where it stood.
func TestReadPastTheEnd(t *testing.T) {
	for _, size := range []int{1, 2, 4, 8} {
		for left := range size + 1 {
			r := octet.Read(bytes.Repeat([]byte{255}, 3+left))
			r.Raw(3)
			want, err, rest := uint64(0), api.ErrShort, left
			if left == size {
				want, err, rest = math.MaxUint64>>(64-8*size), api.OK, 0
			}
			if x := readAs(r, size); x != want {
				t.Errorf("%d bytes with %d left: %x", size, left, x)
			}
			wantReader(t, r, rest, err)
		}
	}
	for _, n := range []int{3, 4, 1 << 31, math.MaxInt - 1, math.MaxInt} {
		r := octet.Read([]byte{1, 2, 3})
		r.U8()
		if b := r.Raw(n); len(b) != 0 {
			t.Errorf("Raw(%d) with 2 left: % x", n, b)
		}
		wantReader(t, r, 2, api.ErrShort)
	}
}

// P1.3: Raw of a number below 0.
func TestRawBelowZero(t *testing.T) {
	for _, n := range []int{-1, -2, -3, math.MinInt + 1, math.MinInt} {
		for _, list := range [][]byte{nil, {1, 2, 3}} {
			r := octet.Read(list)
			r.Raw(min(2, len(list)))
			left := r.Left()
			if b := r.Raw(n); len(b) != 0 {
				t.Errorf("Raw(%d): % x", n, b)
			}
			wantReader(t, r, left, api.ErrArg)
		}
	}
}

// P1.3: behind an error nothing is told, though there are bytes; the error is the first one, and it stands where it stood.
func TestReaderThatHasAnError(t *testing.T) {
	for _, first := range []struct {
		n   int
		err api.Errno
	}{{-1, api.ErrArg}, {100, api.ErrShort}} {
		r := octet.Read(bytes.Repeat([]byte{255}, 16))
		r.U8()
		r.Raw(first.n)
		wantReader(t, r, 15, first.err)
		for _, size := range []int{1, 2, 4, 8} {
			if x := readAs(r, size); x != 0 {
				t.Errorf("%d bytes behind error %d: %x", size, first.err, x)
			}
			wantReader(t, r, 15, first.err)
		}
		for _, n := range []int{0, 1, 15, 16, -1, math.MaxInt, math.MinInt} {
			if b := r.Raw(n); len(b) != 0 {
				t.Errorf("Raw(%d) behind error %d: % x", n, first.err, b)
			}
			wantReader(t, r, 15, first.err)
		}
	}
}

// P1.3, R4: a nil reader.
func TestNilReader(t *testing.T) {
	var r *octet.Reader
	for _, size := range []int{1, 2, 4, 8} {
		if x := readAs(r, size); x != 0 {
			t.Errorf("%d bytes: %x", size, x)
		}
	}
	for _, n := range []int{-1, 0, 1, math.MaxInt} {
		if b := r.Raw(n); len(b) != 0 {
			t.Errorf("Raw(%d): % x", n, b)
		}
	}
	wantReader(t, r, 0, api.ErrNil)
}

// P1.3, R3: a reader hangs on the bytes as they were when it was made, and shares none with what it is given or answers.
func TestReaderSharesNothing(t *testing.T) {
	list := []byte{1, 2, 3, 4, 5, 6, 7, 8}
	r := octet.Read(list[:6])
	wantReader(t, r, 6, api.OK)
	clear(list)
	first := r.Raw(2)
	if !bytes.Equal(first, []byte{1, 2}) {
		t.Errorf("Raw behind a change of the bytes: % x", first)
	}
	// an append to an answer must not write into what is still to be read
	_ = append(first, 9, 9, 9, 9)
	clear(first[:cap(first)])
	if x := r.U16(); x != 0x0304 {
		t.Errorf("U16 behind a change of an answer: %x", x)
	}
	if !bytes.Equal(list, make([]byte, 8)) {
		t.Errorf("the bytes were changed: % x", list)
	}
	if b := r.Raw(3); len(b) != 0 || r.Err() != api.ErrShort {
		t.Errorf("the room behind the end is read: % x", b)
	}
}

// P1.3: readers of the same bytes go each on its own.
func TestTwoReaders(t *testing.T) {
	list := []byte{1, 2, 3}
	a, b := octet.Read(list), octet.Read(list)
	a.Raw(-1)
	if x := b.U16(); x != 0x0102 {
		t.Errorf("U16: %x", x)
	}
	wantReader(t, a, 3, api.ErrArg)
	wantReader(t, b, 1, api.OK)
	if !bytes.Equal(list, []byte{1, 2, 3}) {
		t.Errorf("the bytes were changed: % x", list)
	}
}

// P1.4: what was put is read as the same, and nothing is left; the bytes of a greater number are greater.
func TestPutAndRead(t *testing.T) {
	for _, p := range puts {
		var before []byte
		for i, x := range numbers(p.size) {
			b := p.put(nil, x)
			if len(b) != p.size {
				t.Errorf("%s of %x: %d bytes", p.name, x, len(b))
			}
			if i > 0 && bytes.Compare(before, b) >= 0 {
				t.Errorf("%s of %x: % x is not greater than % x", p.name, x, b, before)
			}
			before = b
			r := octet.Read(b)
			if y := readAs(r, p.size); y != x {
				t.Errorf("%s of %x: read as %x", p.name, x, y)
			}
			wantReader(t, r, 0, api.OK)
		}
	}
}

// P1.4: all numbers of 16 bits, in order.
func TestPutAndReadAll16(t *testing.T) {
	before := octet.Put16(nil, 0)
	for x := 1; x <= math.MaxUint16; x++ {
		b := octet.Put16(nil, uint16(x))
		if bytes.Compare(before, b) >= 0 {
			t.Fatalf("% x is not greater than % x", b, before)
		}
		before = b
		if y := octet.Read(b).U16(); int(y) != x {
			t.Fatalf("%d is read as %d", x, y)
		}
	}
}

// P1.4: numbers and bytes, one behind the other.
func TestPutAndReadMixed(t *testing.T) {
	for _, x := range numbers(8) {
		b := octet.Put64([]byte{byte(x)}, x)
		b = octet.Put16(b, uint16(x))
		b = octet.Put32(b, uint32(x))
		b = append(b, 1, 2, 3)
		r := octet.Read(b)
		if r.U8() != byte(x) || r.U64() != x || r.U16() != uint16(x) || r.U32() != uint32(x) || !octet.Equal(r.Raw(3), []byte{1, 2, 3}) {
			t.Errorf("%x is read as another", x)
		}
		wantReader(t, r, 0, api.OK)
	}
}
