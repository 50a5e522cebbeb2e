package wide_test

import (
	"math"
	"strings"

	"gazetteer/api"
)

// The tests hold wide against two plain readings: numbers as rows of bits, which are added and multiplied as on paper, and numbers as texts of digits.

// bits is a whole number below 2^256: its bits, the lowest first.
type bits [256]byte

// bitsOf is a number of 64 bits.
func bitsOf(x uint64) bits {
	var b bits
	for i := 0; x > 0; i++ {
		b[i] = byte(x % 2)
		x /= 2
	}
	return b
}

// wideBits is a wide number: Hi times 2^64 and Lo.
func wideBits(a api.Wide) bits {
	b, high := bitsOf(a.Lo), bitsOf(a.Hi)
	copy(b[64:], high[:64])
	return b
}

// wideOf is what of a number stands below 2^128, and whether that is all of it.
func (b bits) wideOf() (api.Wide, bool) {
	number := func(row []byte) uint64 {
		x := uint64(0)
		for i := len(row) - 1; i >= 0; i-- {
			x = 2*x + uint64(row[i])
		}
		return x
	}
	rest := bits{}
	copy(rest[:], b[128:])
	return api.Wide{Hi: number(b[64:128]), Lo: number(b[:64])}, rest == bits{}
}

// plus is the sum, bit by bit.
func (b bits) plus(c bits) bits {
	carry := byte(0)
	for i := range b {
		n := b[i] + c[i] + carry
		b[i], carry = n%2, n/2
	}
	return b
}

// minus is the difference, with 2^256 added if it is below 0, bit by bit.
func (b bits) minus(c bits) bits {
	borrow := byte(0)
	for i := range b {
		n := 2 + b[i] - c[i] - borrow
		b[i], borrow = n%2, 1-n/2
	}
	return b
}

// times is the product: the first number once for each bit of the second one that is 1, moved up to it.
func (b bits) times(c bits) bits {
	var product bits
	for i, bit := range c {
		if bit == 1 {
			var moved bits
			copy(moved[i:], b[:])
			product = product.plus(moved)
		}
	}
	return product
}

// below tells whether a number is below another one: the highest bit in which they differ says.
func (b bits) below(c bits) bool {
	for i := len(b) - 1; i >= 0; i-- {
		if b[i] != c[i] {
			return b[i] < c[i]
		}
	}
	return false
}

// plainMul, plainAdd, plainSub and plainCmp are the calls in the chapter's words.
func plainMul(a, b uint64) api.Wide {
	x, _ := bitsOf(a).times(bitsOf(b)).wideOf()
	return x
}

func plainAdd(a, b api.Wide) (api.Wide, bool) {
	return wideBits(a).plus(wideBits(b)).wideOf()
}

func plainSub(a, b api.Wide) (api.Wide, bool) {
	x, _ := wideBits(a).minus(wideBits(b)).wideOf()
	return x, plainCmp(a, b) >= 0
}

func plainCmp(a, b api.Wide) int {
	switch {
	case wideBits(a).below(wideBits(b)):
		return -1
	case wideBits(b).below(wideBits(a)):
		return 1
	}
	return 0
}

// plainWidth is how wide a row is, without a difference that passes int64: how far lo is below 0, and how far hi is above.
func plainWidth(lo, hi int64) uint64 {
	switch {
	case lo > hi:
		return 0
	case lo < 0 && hi >= 0:
		return uint64(-(lo + 1)) + 1 + uint64(hi)
	}
	return uint64(hi - lo)
}

// plainText is a number in digits: for each bit, the highest first, the text is doubled.
func plainText(a api.Wide) string {
	text := "0"
	b := wideBits(a)
	for i := 127; i >= 0; i-- {
		text = doubled(text, b[i])
	}
	return text
}

// doubled is twice a text of digits, and one more, if one is 1.
func doubled(text string, one byte) string {
	digits, carry := []byte(text), one
	for i := len(digits) - 1; i >= 0; i-- {
		n := 2*(digits[i]-'0') + carry
		digits[i], carry = '0'+n%10, n/10
	}
	return strings.TrimLeft(string('0'+rune(carry))+string(digits[:len(digits)-1]), "0") + string(digits[len(digits)-1:])
}

// halfEdges are numbers of 64 bits: small ones, and those at the borders of halves, of signs, of digits, of all.
func halfEdges() []uint64 {
	list := []uint64{
		0, 1, 2, 3, 7, 9, 10, 11,
		math.MaxUint16, 1 << 16,
		1<<31 - 1, 1 << 31, 1<<31 + 1,
		1<<32 - 2, 1<<32 - 1, 1 << 32, 1<<32 + 1,
		1<<33 - 1, 1 << 33, 1<<48 + 5,
		1<<63 - 1, 1 << 63, 1<<63 + 1,
		1e19 - 1, 1e19, 1e19 + 1,
		math.MaxUint64 - 1<<32, math.MaxUint64 - 1<<32 + 1, math.MaxUint64 - 1<<32 + 2,
		math.MaxUint64 - 2, math.MaxUint64 - 1, math.MaxUint64,
		0x5555555555555555, 0xAAAAAAAAAAAAAAAA, 0x00000000FFFFFFFF, 0xFFFFFFFF00000000,
	}
	return list
}

// wideEdges are wide numbers, both of whose halves are at borders.
func wideEdges() []api.Wide {
	var list []api.Wide
	few := []uint64{0, 1, 2, 1<<32 - 1, 1 << 32, 1<<63 - 1, 1 << 63, 1<<63 + 1, math.MaxUint64 - 1, math.MaxUint64}
	for _, high := range few {
		for _, low := range few {
			list = append(list, api.Wide{Hi: high, Lo: low})
		}
	}
	return list
}

// coordinates are numbers of int64: small ones, and those at both ends.
func coordinates() []int64 {
	return []int64{
		math.MinInt64, math.MinInt64 + 1, math.MinInt64 + 2, -1<<62 - 1, -1 << 62, -1<<32 - 1, -1 << 32, -1<<31 - 1, -1 << 31,
		-10, -2, -1, 0, 1, 2, 3, 10,
		1<<31 - 1, 1 << 31, 1<<32 - 1, 1 << 32, 1 << 62, 1<<62 + 1, math.MaxInt64 - 2, math.MaxInt64 - 1, math.MaxInt64,
	}
}

// row is n numbers all over uint64; those of other seeds are others.
func row(n int, seed uint64) []uint64 {
	list := make([]uint64, n)
	for i := range list {
		for range 2 {
			seed = seed*6364136223846793005 + 1442695040888963407
			list[i] = list[i]<<32 | seed>>32
		}
	}
	return list
}

// wideRow is n wide numbers, some of whose halves are short.
func wideRow(n int, seed uint64) []api.Wide {
	halves := row(2*n, seed)
	list := make([]api.Wide, n)
	for i := range list {
		list[i] = api.Wide{Hi: halves[2*i] >> (i % 7 * 10), Lo: halves[2*i+1] >> (i % 5 * 15)}
	}
	return list
}
