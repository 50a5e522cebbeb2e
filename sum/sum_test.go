package sum_test

import (
	"bytes"
	"slices"
	"testing"

	"gazetteer/api"
	"gazetteer/sum"
)

// kind is one of the two checksums: its size in bytes, its constant, its calls with a sum of 64 bits.
type kind struct {
	name string
	size int
	p    uint64
	sum  func(b []byte) uint64
	seal func(b []byte) []byte
	open func(b []byte) ([]byte, api.Errno)
}

// kinds are both checksums.
var kinds = []kind{
	{"16", 2, 33800, func(b []byte) uint64 { return uint64(sum.Sum16(b)) }, sum.Seal16, sum.Open16},
	{"32", 4, 2197175160, func(b []byte) uint64 { return uint64(sum.Sum32(b)) }, sum.Seal32, sum.Open32},
}

// plain is the sum as the chapter's words say it, with numbers that are halved, and whose bits are turned one by one.
func (k kind) plain(b []byte) uint64 {
	all := uint64(1)<<(8*k.size) - 1
	s := all
	for _, c := range b {
		s = turned(s, uint64(c))
		for range 8 {
			if s%2 == 1 {
				s = turned((s-1)/2, k.p)
			} else {
				s /= 2
			}
		}
	}
	return all - s
}

// turned is x, its bits turned where those of y are 1.
func turned(x, y uint64) uint64 {
	var z uint64
	for power := uint64(1); power < 1<<40; power *= 2 {
		if x/power%2 != y/power%2 {
			z += power
		}
	}
	return z
}

// behind is b, and behind it the bytes of s, the lowest first.
func (k kind) behind(b []byte, s uint64) []byte {
	out := slices.Clone(b)
	for range k.size {
		out = append(out, byte(s%256))
		s /= 256
	}
	return out
}

// row is n bytes, all different ones beside each other, another row for each seed.
func row(n int, seed uint32) []byte {
	b := make([]byte, n)
	x := seed*2654435761 + 1
	for i := range b {
		x = x*1664525 + 1013904223
		b[i] = byte(x >> 24)
	}
	return b
}

// samples are lists of bytes: none, noughts, all ones, rising and falling ones, mixed ones; of many lengths.
func samples() [][]byte {
	list := [][]byte{nil, {}, []byte("123456789"), []byte("a"), []byte("abc")}
	for n := 1; n <= 40; n++ {
		rising, falling := make([]byte, n), make([]byte, n)
		for i := range n {
			rising[i], falling[i] = byte(i), byte(n-1-i)
		}
		list = append(list, make([]byte, n), bytes.Repeat([]byte{255}, n), rising, falling, row(n, uint32(n)))
	}
	for _, n := range []int{52, 60, 62, 64, 127, 128, 256, 257, 1000} {
		list = append(list, row(n, uint32(n)))
	}
	return list
}

// wantOpen opens b, and holds what is answered against what is wanted.
func (k kind) wantOpen(t *testing.T, b, wanted []byte, err api.Errno) {
	t.Helper()
	got, e := k.open(b)
	if e != err || !bytes.Equal(got, wanted) {
		t.Errorf("Open%s(% x): % x, error %d; want % x, error %d", k.name, b, got, e, wanted, err)
	}
}

// P3.1: the chapter's examples, and sums of CRC-16/X.25 and CRC-32C that are known elsewhere.
func TestSumKnown(t *testing.T) {
	rising, falling := make([]byte, 32), make([]byte, 32)
	for i := range 32 {
		rising[i], falling[i] = byte(i), byte(31-i)
	}
	for _, c := range []struct {
		name  string
		b     []byte
		sum32 uint32
	}{
		{"31 to 39", []byte("123456789"), 3808858755},
		{"nil", nil, 0},
		{"none", []byte{}, 0},
		{"32 noughts", make([]byte, 32), 0x8A9136AA},
		{"32 of all ones", bytes.Repeat([]byte{255}, 32), 0x62A8AB43},
		{"rising", rising, 0x46DD794E},
		{"falling", falling, 0x113FDB5C},
	} {
		if got := sum.Sum32(c.b); got != c.sum32 {
			t.Errorf("Sum32 of %s: %08x; want %08x", c.name, got, c.sum32)
		}
	}
	for _, c := range []struct {
		name  string
		b     []byte
		sum16 uint16
	}{
		{"31 to 39", []byte("123456789"), 36974},
		{"nil", nil, 0},
		{"none", []byte{}, 0},
		{"a nought", []byte{0}, 0xF078},
		{"all ones", []byte{255}, 0xFF00},
	} {
		if got := sum.Sum16(c.b); got != c.sum16 {
			t.Errorf("Sum16 of %s: %04x; want %04x", c.name, got, c.sum16)
		}
	}
}

// P3.1: against the chapter's words.
func TestSumIsAsTheWordsSay(t *testing.T) {
	for _, k := range kinds {
		for _, b := range samples() {
			if got, wanted := k.sum(b), k.plain(b); got != wanted {
				t.Errorf("Sum%s(% x): %x; want %x", k.name, b, got, wanted)
			}
		}
		for c := range 256 {
			for _, b := range [][]byte{{byte(c)}, {byte(c), 0}, {0, byte(c)}, {255, byte(c), 255}} {
				if got, wanted := k.sum(b), k.plain(b); got != wanted {
					t.Errorf("Sum%s(% x): %x; want %x", k.name, b, got, wanted)
				}
			}
		}
	}
}

// P3.1: noughts count, and the order of the bytes, too.
func TestSumTellsLengthAndOrder(t *testing.T) {
	for _, k := range kinds {
		told := map[uint64]int{}
		for n := range 64 {
			told[k.sum(make([]byte, n))]++
		}
		if len(told) != 64 {
			t.Errorf("Sum%s: lists of noughts have %d sums; want 64", k.name, len(told))
		}
		if k.sum([]byte{1, 2, 3}) == k.sum([]byte{3, 2, 1}) || k.sum([]byte{0, 1}) == k.sum([]byte{1, 0}) {
			t.Errorf("Sum%s does not hang on the order", k.name)
		}
	}
}

// P3.2: the bytes, and their sum behind them, its lowest byte first.
func TestSeal(t *testing.T) {
	digits := []byte("123456789")
	for _, c := range []struct {
		name      string
		got, want []byte
	}{
		{"Seal16 of 31 to 39", sum.Seal16(digits), append(slices.Clone(digits), 0x6E, 0x90)},
		{"Seal32 of 31 to 39", sum.Seal32(digits), append(slices.Clone(digits), 0x83, 0x92, 0x06, 0xE3)},
		{"Seal16 of none", sum.Seal16(nil), []byte{0, 0}},
		{"Seal32 of none", sum.Seal32(nil), []byte{0, 0, 0, 0}},
		{"Seal16 of no bytes", sum.Seal16([]byte{}), []byte{0, 0}},
		{"Seal32 of no bytes", sum.Seal32([]byte{}), []byte{0, 0, 0, 0}},
		{"Seal16 of a nought", sum.Seal16([]byte{0}), []byte{0, 0x78, 0xF0}},
	} {
		if !bytes.Equal(c.got, c.want) {
			t.Errorf("%s: % x; want % x", c.name, c.got, c.want)
		}
	}
	for _, k := range kinds {
		for _, b := range samples() {
			if got, wanted := k.seal(b), k.behind(b, k.plain(b)); !bytes.Equal(got, wanted) {
				t.Errorf("Seal%s(% x): % x; want % x", k.name, b, got, wanted)
			}
		}
	}
}

// P3.2: the chapter's examples; lists that are as long as a sum, and those beside them.
func TestOpenShortLists(t *testing.T) {
	for _, c := range []struct {
		name string
		b    []byte
		kind int
		err  api.Errno
	}{
		{"nil by 16", nil, 0, api.ErrShort},
		{"none by 16", []byte{}, 0, api.ErrShort},
		{"one nought by 16", []byte{0}, 0, api.ErrShort},
		{"one byte by 16", []byte{1}, 0, api.ErrShort},
		{"two noughts by 16", []byte{0, 0}, 0, api.OK},
		{"two bytes by 16, the first wrong", []byte{1, 0}, 0, api.ErrSum},
		{"two bytes by 16, the last wrong", []byte{0, 1}, 0, api.ErrSum},
		{"three noughts by 16", []byte{0, 0, 0}, 0, api.ErrSum},
		{"three bytes by 16", []byte{1, 2, 3}, 0, api.ErrSum},
		{"four noughts by 16", []byte{0, 0, 0, 0}, 0, api.ErrSum},
		{"nil by 32", nil, 1, api.ErrShort},
		{"none by 32", []byte{}, 1, api.ErrShort},
		{"one byte by 32", []byte{1}, 1, api.ErrShort},
		{"two noughts by 32", []byte{0, 0}, 1, api.ErrShort},
		{"three noughts by 32", []byte{0, 0, 0}, 1, api.ErrShort},
		{"three bytes by 32", []byte{1, 2, 3}, 1, api.ErrShort},
		{"four noughts by 32", []byte{0, 0, 0, 0}, 1, api.OK},
		{"four bytes by 32, the first wrong", []byte{1, 0, 0, 0}, 1, api.ErrSum},
		{"four bytes by 32, the second wrong", []byte{0, 1, 0, 0}, 1, api.ErrSum},
		{"four bytes by 32, the third wrong", []byte{0, 0, 1, 0}, 1, api.ErrSum},
		{"four bytes by 32, the last wrong", []byte{0, 0, 0, 1}, 1, api.ErrSum},
		{"five noughts by 32", []byte{0, 0, 0, 0, 0}, 1, api.ErrSum},
	} {
		if got, e := kinds[c.kind].open(c.b); e != c.err || len(got) != 0 {
			t.Errorf("%s: % x, error %d; want none, error %d", c.name, got, e, c.err)
		}
	}
}

// P3.2: three bytes by 16 are opened, if their last two say the first one's sum.
func TestOpenOneByte(t *testing.T) {
	for _, k := range kinds {
		for c := range 256 {
			b := []byte{byte(c)}
			k.wantOpen(t, k.behind(b, k.plain(b)), b, api.OK)
		}
	}
}

// P3.2: a sum that is wrong in one of its bytes alone, by any number; nothing is answered beside the error.
func TestOpenWrongSum(t *testing.T) {
	for _, k := range kinds {
		for _, b := range [][]byte{nil, {0}, {7, 9}, []byte("123456789"), row(60, 1)} {
			for at := range k.size {
				for by := 1; by < 256; by++ {
					wrong := k.behind(b, k.plain(b))
					wrong[len(b)+at] += byte(by)
					got, e := k.open(wrong)
					if e != api.ErrSum || got != nil {
						t.Fatalf("Open%s(% x): % x, error %d; want nil, error %d", k.name, wrong, got, e, api.ErrSum)
					}
				}
			}
		}
	}
}

// P3.2: sums that are laid otherwise: the highest byte first, not turned at the end, the other kind's, ahead of the bytes; too much and too little.
func TestOpenSumsLaidOtherwise(t *testing.T) {
	b := []byte("123456789")
	for _, k := range kinds {
		right := k.behind(b, k.plain(b))
		other := slices.Clone(right)
		slices.Reverse(other[len(b):])
		k.wantOpen(t, other, nil, api.ErrSum)
		k.wantOpen(t, k.behind(b, ^k.plain(b)), nil, api.ErrSum)
		k.wantOpen(t, append(slices.Clone(right[len(b):]), b...), nil, api.ErrSum)
		k.wantOpen(t, append(slices.Clone(right), 0), nil, api.ErrSum)
		k.wantOpen(t, right[1:], nil, api.ErrSum)
		k.wantOpen(t, right[:len(right)-1], nil, api.ErrSum)
		k.wantOpen(t, b, nil, api.ErrSum)
	}
	if _, e := sum.Open16(sum.Seal32(b)); e != api.ErrSum {
		t.Errorf("Open16 of what Seal32 sealed: error %d", e)
	}
	if _, e := sum.Open32(sum.Seal16(b)); e != api.ErrSum {
		t.Errorf("Open32 of what Seal16 sealed: error %d", e)
	}
}

// R3: what is handed in is as it was, and the room behind its end; what is answered is other memory.
func TestSealLeavesWhatItIsGiven(t *testing.T) {
	for _, k := range kinds {
		whole := row(20, 3)
		was := slices.Clone(whole)
		first, second := k.seal(whole[:7]), k.seal(whole[:7])
		k.sum(whole[:7])
		if !bytes.Equal(whole, was) {
			t.Errorf("Seal%s changed what it was given: % x", k.name, whole)
		}
		clear(first[:cap(first)])
		if !bytes.Equal(whole, was) || !bytes.Equal(second, k.behind(was[:7], k.plain(was[:7]))) {
			t.Errorf("Seal%s answers what is not new", k.name)
		}
		clear(whole)
		if !bytes.Equal(second, k.behind(was[:7], k.plain(was[:7]))) {
			t.Errorf("Seal%s kept what it was given", k.name)
		}
	}
}

// R3, of an opening, of one that is refused, too.
func TestOpenLeavesWhatItIsGiven(t *testing.T) {
	for _, k := range kinds {
		b := row(7, 4)
		whole := append(k.behind(b, k.plain(b)), row(9, 5)...)
		was := slices.Clone(whole)
		n := len(b) + k.size
		first, e := k.open(whole[:n])
		second, f := k.open(whole[:n])
		if e != api.OK || f != api.OK || !bytes.Equal(first, b) {
			t.Fatalf("Open%s: % x, errors %d, %d", k.name, first, e, f)
		}
		k.wantOpen(t, whole[:n+1], nil, api.ErrSum)
		k.wantOpen(t, whole[:k.size-1], nil, api.ErrShort)
		clear(first[:cap(first)])
		_ = append(second, 1, 2, 3, 4, 5, 6)
		if !bytes.Equal(whole, was) || !bytes.Equal(second, b) {
			t.Errorf("Open%s: % x, % x: what is answered is not new, or what was given is changed", k.name, whole, second)
		}
		clear(whole)
		if !bytes.Equal(second, b) {
			t.Errorf("Open%s answers what it was given", k.name)
		}
	}
}

// R5: the room behind a list's end tells nothing, and calls leave nothing behind for later ones.
func TestSumsHangOnTheBytesAlone(t *testing.T) {
	for _, k := range kinds {
		b := row(11, 6)
		wanted := k.plain(b)
		for n := range 5 {
			whole := append(slices.Clone(b), row(n, uint32(n))...)
			k.open(whole)
			if got := k.sum(whole[:len(b)]); got != wanted {
				t.Errorf("Sum%s with %d bytes of room: %x; want %x", k.name, n, got, wanted)
			}
			k.wantOpen(t, k.seal(whole[:len(b)]), b, api.OK)
		}
	}
}
