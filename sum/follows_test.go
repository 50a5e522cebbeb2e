package sum_test

import (
	"slices"
	"testing"

	"gazetteer/api"
)

// places are lists whose seals have bits turned: none, noughts, ones, mixed ones.
func places() [][]byte {
	return [][]byte{nil, {0}, {255}, {0, 0, 0}, {1, 2, 3, 4}, {255, 255, 255, 255, 255}, row(9, 7), row(20, 8)}
}

// refuses wants an ErrSum, and nothing beside it, of bytes in which bits were turned.
func (k kind) refuses(t *testing.T, b []byte) {
	t.Helper()
	if got, e := k.open(b); e != api.ErrSum || got != nil {
		t.Fatalf("Open%s(% x): % x, error %d; want nil, error %d", k.name, b, got, e, api.ErrSum)
	}
}

// turn turns the bit at place i of b, counted from the lowest one of the first byte on.
func turn(b []byte, i int) {
	b[i/8] ^= 1 << (i % 8)
}

// turnAll turns the bits of b from byte at on that are 1 in by, its lowest byte first.
func turnAll(b []byte, at int, by uint32) {
	for ; by != 0; by >>= 8 {
		b[at] ^= byte(by)
		at++
	}
}

// P3.3: what was sealed is opened, and is as it was; sealed twice, too.
func TestSealedIsOpened(t *testing.T) {
	for _, k := range kinds {
		for _, b := range samples() {
			once := k.seal(b)
			k.wantOpen(t, once, b, api.OK)
			k.wantOpen(t, k.seal(once), once, api.OK)
		}
		for _, other := range kinds {
			b := other.seal(row(30, 9))
			k.wantOpen(t, k.seal(b), b, api.OK)
		}
	}
}

// P3.3: the sum of all that is sealed by a kind is one number, whatever was sealed: a sum knows bits turned by the bits alone.
func TestSealedHaveOneSum(t *testing.T) {
	wanted := map[string]uint64{"16": 0x0F47, "32": 0x48674BC7}
	for _, k := range kinds {
		for _, b := range samples() {
			if got := k.sum(k.seal(b)); got != wanted[k.name] {
				t.Errorf("Sum%s of the seal of % x: %x; want %x", k.name, b, got, wanted[k.name])
			}
		}
	}
}

// P3.3: one bit turned, at each place of what was sealed.
func TestOneBitTurned(t *testing.T) {
	for _, k := range kinds {
		for _, b := range samples() {
			sealed := k.seal(b)
			for i := range 8 * len(sealed) {
				turn(sealed, i)
				k.refuses(t, sealed)
				turn(sealed, i)
			}
			k.wantOpen(t, sealed, b, api.OK)
		}
	}
}

// P3.3: two bits turned, whose bytes are at most 8 from one another.
func TestTwoBitsTurned(t *testing.T) {
	for _, k := range kinds {
		for _, b := range places() {
			sealed := k.seal(b)
			for i := range 8 * len(sealed) {
				for j := i + 1; j < min(8*len(sealed), 8*(i/8+9)); j++ {
					turn(sealed, i)
					turn(sealed, j)
					k.refuses(t, sealed)
					turn(sealed, i)
					turn(sealed, j)
				}
			}
			k.wantOpen(t, sealed, b, api.OK)
		}
	}
}

// P3.3: any bits turned within as many bytes side by side as a sum of 16 bits has: all of them, at each place.
func TestTwoBytesTurned(t *testing.T) {
	for _, k := range kinds {
		for _, b := range [][]byte{nil, {255}, row(7, 10)} {
			sealed := k.seal(b)
			for at := range len(sealed) - 1 {
				for by := uint32(1); by < 1<<16; by++ {
					turnAll(sealed, at, by)
					k.refuses(t, sealed)
					turnAll(sealed, at, by)
				}
			}
			k.wantOpen(t, sealed, b, api.OK)
		}
	}
}

// P3.3: bits turned within four bytes side by side, by 32: up to three bits, all bits but up to three, and rows of numbers that reach all over.
func TestFourBytesTurned(t *testing.T) {
	k := kinds[1]
	patterns := bursts()
	for _, b := range [][]byte{nil, {255}, row(7, 11)} {
		sealed := k.seal(b)
		for at := range len(sealed) - 3 {
			for _, by := range patterns {
				turnAll(sealed, at, by)
				k.refuses(t, sealed)
				turnAll(sealed, at, by)
			}
		}
		k.wantOpen(t, sealed, b, api.OK)
	}
}

// bursts are numbers of 32 bits that are not 0.
func bursts() []uint32 {
	var list []uint32
	for i := range 32 {
		for j := range i + 1 {
			for k := range j + 1 {
				few := uint32(1)<<i | 1<<j | 1<<k
				list = append(list, few, ^few)
			}
		}
	}
	for x := uint32(1); x < 1<<15; x++ {
		list = append(list, x*2654435761, x<<17|x)
	}
	return append(list, 1<<32-1)
}

// P3.3: of any bits within as many bytes side by side as a sum has, no choice leaves the sum as it is. The differences that single bits make to a sum are put together without a carry to those of several; so it holds for all 2^32 - 1 choices when none of the single ones is made of others.
func TestBitsSideBySideAreTold(t *testing.T) {
	for _, k := range kinds {
		for _, b := range places() {
			sealed := k.seal(b)
			for at := range len(sealed) - k.size + 1 {
				var kept []uint64
				for i := range 8 * k.size {
					d := k.difference(sealed, 8*at+i)
					for _, other := range kept {
						d = min(d, d^other)
					}
					if d == 0 {
						t.Fatalf("Sum%s: bit %d of the bytes from %d on of % x is told by others", k.name, i, at, sealed)
					}
					kept = append(kept, d)
				}
			}
		}
	}
}

// difference is by which bits the sum of b is another one when the bit at place i is turned.
func (k kind) difference(b []byte, i int) uint64 {
	other := slices.Clone(b)
	turn(other, i)
	return k.sum(b) ^ k.sum(other)
}

// P3.3: that differences are put together without a carry, which the test ahead of this leans on.
func TestDifferencesAreSums(t *testing.T) {
	for _, k := range kinds {
		b := k.seal(row(12, 12))
		for seed := range uint32(500) {
			other, all := slices.Clone(b), uint64(0)
			for i, c := range row(8*len(b), seed) {
				if c%2 == 1 {
					turn(other, i)
					all ^= k.difference(b, i)
				}
			}
			if got := k.sum(b) ^ k.sum(other); got != all {
				t.Errorf("Sum%s: the bits' differences are %x together; want %x", k.name, all, got)
			}
		}
	}
}
