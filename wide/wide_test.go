package wide_test

import (
	"math"
	"strings"
	"testing"

	"gazetteer/api"
	"gazetteer/wide"
)

// wantMul wants the product that the chapter's words say.
func wantMul(t *testing.T, a, b uint64) {
	t.Helper()
	if got, want := wide.Mul(a, b), plainMul(a, b); got != want {
		t.Errorf("Mul(%d, %d): %x; want %x", a, b, got, want)
	}
}

// wantSums wants the sum, the difference and the order that the chapter's words say.
func wantSums(t *testing.T, a, b api.Wide) {
	t.Helper()
	got, ok := wide.Add(a, b)
	if want, whole := plainAdd(a, b); got != want || ok != whole {
		t.Errorf("Add(%x, %x): %x, %t; want %x, %t", a, b, got, ok, want, whole)
	}
	got, ok = wide.Sub(a, b)
	if want, whole := plainSub(a, b); got != want || ok != whole {
		t.Errorf("Sub(%x, %x): %x, %t; want %x, %t", a, b, got, ok, want, whole)
	}
	if got, want := wide.Cmp(a, b), plainCmp(a, b); got != want {
		t.Errorf("Cmp(%x, %x): %d; want %d", a, b, got, want)
	}
}

// P7.1: products that are known, and those whose parts carry.
func TestMul(t *testing.T) {
	const most = math.MaxUint64
	for _, c := range []struct {
		a, b uint64
		want api.Wide
	}{
		{0, 0, api.Wide{}},
		{0, most, api.Wide{}},
		{1, most, api.Wide{Lo: most}},
		{2, most, api.Wide{Hi: 1, Lo: most - 1}},
		{2, 3, api.Wide{Lo: 6}},
		{most, most, api.Wide{Hi: most - 1, Lo: 1}},
		{1 << 32, 1 << 32, api.Wide{Hi: 1}},
		{1<<32 - 1, 1<<32 - 1, api.Wide{Lo: 0xFFFFFFFE00000001}},
		{1<<32 + 1, 1<<32 + 1, api.Wide{Hi: 1, Lo: 1<<33 + 1}},
		{1 << 63, 2, api.Wide{Hi: 1}},
		{1 << 63, 1 << 63, api.Wide{Hi: 1 << 62}},
		{most, 1 << 32, api.Wide{Hi: 1<<32 - 1, Lo: most - 1<<32 + 1}},
		{1e19, 1e19, api.Wide{Hi: 5421010862427522170, Lo: 687399551400673280}},
	} {
		if got := wide.Mul(c.a, c.b); got != c.want {
			t.Errorf("Mul(%d, %d): %x; want %x", c.a, c.b, got, c.want)
		}
	}
}

// P7.1: products of edges, of powers of two, and of numbers all over, against the chapter's words.
func TestMulPlain(t *testing.T) {
	for _, a := range halfEdges() {
		for _, b := range halfEdges() {
			wantMul(t, a, b)
		}
	}
	for i := range 64 {
		for j := range 64 {
			wantMul(t, 1<<i, 1<<j)
			wantMul(t, 1<<i-1, math.MaxUint64<<j)
		}
	}
	list := row(400, 1)
	for i, b := range list {
		a := list[(i+1)%len(list)]
		wantMul(t, a, b)
		wantMul(t, a>>(i%64), b)
		wantMul(t, a, b>>(i%64))
		wantMul(t, a<<(i%64), b|math.MaxUint32)
	}
}

// P7.1: sums that are known: with a carry between the halves, and with what passes 2^128.
func TestAdd(t *testing.T) {
	const most = math.MaxUint64
	for _, c := range []struct {
		a, b, want api.Wide
		ok         bool
	}{
		{api.Wide{}, api.Wide{}, api.Wide{}, true},
		{api.Wide{Lo: 1}, api.Wide{Lo: 2}, api.Wide{Lo: 3}, true},
		{api.Wide{Lo: most}, api.Wide{Lo: 1}, api.Wide{Hi: 1}, true},
		{api.Wide{Lo: most}, api.Wide{Lo: most}, api.Wide{Hi: 1, Lo: most - 1}, true},
		{api.Wide{Hi: most}, api.Wide{Lo: most}, api.Wide{Hi: most, Lo: most}, true},
		{api.Wide{Hi: most, Lo: most}, api.Wide{}, api.Wide{Hi: most, Lo: most}, true},
		{api.Wide{Hi: most, Lo: most}, api.Wide{Lo: 1}, api.Wide{}, false},
		{api.Wide{Hi: most, Lo: most}, api.Wide{Hi: most, Lo: most}, api.Wide{Hi: most, Lo: most - 1}, false},
		{api.Wide{Hi: 1 << 63}, api.Wide{Hi: 1 << 63}, api.Wide{}, false},
		{api.Wide{Hi: 1 << 63, Lo: 5}, api.Wide{Hi: 1 << 63, Lo: 6}, api.Wide{Lo: 11}, false},
		{api.Wide{Hi: most - 1, Lo: 1}, api.Wide{Hi: 1, Lo: most}, api.Wide{}, false},
		{api.Wide{Hi: most - 1, Lo: 1}, api.Wide{Hi: 1, Lo: most - 1}, api.Wide{Hi: most, Lo: most}, true},
		// a half that is full takes the carry: the sum of the halves itself wraps round
		{api.Wide{Hi: most, Lo: 1}, api.Wide{Hi: 0, Lo: most}, api.Wide{}, false},
		{api.Wide{Hi: most, Lo: 1}, api.Wide{Hi: most, Lo: most}, api.Wide{Hi: most}, false},
	} {
		if got, ok := wide.Add(c.a, c.b); got != c.want || ok != c.ok {
			t.Errorf("Add(%x, %x): %x, %t; want %x, %t", c.a, c.b, got, ok, c.want, c.ok)
		}
	}
}

// P7.1: differences that are known: at 0, with what goes from one half to the other, and below 0, where 2^128 is added.
func TestSub(t *testing.T) {
	const most = math.MaxUint64
	for _, c := range []struct {
		a, b, want api.Wide
		ok         bool
	}{
		{api.Wide{}, api.Wide{}, api.Wide{}, true},
		{api.Wide{Lo: 3}, api.Wide{Lo: 2}, api.Wide{Lo: 1}, true},
		{api.Wide{Lo: 2}, api.Wide{Lo: 3}, api.Wide{Hi: most, Lo: most}, false},
		{api.Wide{}, api.Wide{Lo: 1}, api.Wide{Hi: most, Lo: most}, false},
		{api.Wide{}, api.Wide{Hi: 1}, api.Wide{Hi: most}, false},
		{api.Wide{}, api.Wide{Hi: most, Lo: most}, api.Wide{Lo: 1}, false},
		{api.Wide{Hi: 1}, api.Wide{Lo: 1}, api.Wide{Lo: most}, true},
		{api.Wide{Hi: 1}, api.Wide{Lo: most}, api.Wide{Lo: 1}, true},
		{api.Wide{Hi: 1}, api.Wide{Hi: 1}, api.Wide{}, true},
		{api.Wide{Hi: 1}, api.Wide{Hi: 1, Lo: 1}, api.Wide{Hi: most, Lo: most}, false},
		{api.Wide{Hi: 5, Lo: 1}, api.Wide{Hi: 4, Lo: 2}, api.Wide{Lo: most}, true},
		{api.Wide{Hi: 4, Lo: 2}, api.Wide{Hi: 5, Lo: 1}, api.Wide{Hi: most, Lo: 1}, false},
		{api.Wide{Hi: most, Lo: most}, api.Wide{Hi: most, Lo: most}, api.Wide{}, true},
		{api.Wide{Hi: most, Lo: most}, api.Wide{}, api.Wide{Hi: most, Lo: most}, true},
		{api.Wide{Hi: 1 << 63}, api.Wide{Lo: 1}, api.Wide{Hi: 1<<63 - 1, Lo: most}, true},
	} {
		if got, ok := wide.Sub(c.a, c.b); got != c.want || ok != c.ok {
			t.Errorf("Sub(%x, %x): %x, %t; want %x, %t", c.a, c.b, got, ok, c.want, c.ok)
		}
	}
}

// P7.1: the higher half counts ahead of the lower one, and neither has a sign.
func TestCmp(t *testing.T) {
	const most = math.MaxUint64
	for _, c := range []struct {
		a, b api.Wide
		want int
	}{
		{api.Wide{}, api.Wide{}, 0},
		{api.Wide{Lo: 1}, api.Wide{}, 1},
		{api.Wide{Hi: 1}, api.Wide{Lo: most}, 1},
		{api.Wide{Hi: 1, Lo: 2}, api.Wide{Hi: 2, Lo: 1}, -1},
		{api.Wide{Hi: 1, Lo: 2}, api.Wide{Hi: 1, Lo: 3}, -1},
		{api.Wide{Hi: 1, Lo: 2}, api.Wide{Hi: 1, Lo: 2}, 0},
		{api.Wide{Hi: most}, api.Wide{Hi: 1}, 1},
		{api.Wide{Hi: 1 << 63}, api.Wide{Hi: 1<<63 - 1}, 1},
		{api.Wide{Lo: 1 << 63}, api.Wide{Lo: 1<<63 - 1}, 1},
		{api.Wide{Hi: most, Lo: most}, api.Wide{Hi: most, Lo: most}, 0},
		{api.Wide{Hi: most, Lo: most}, api.Wide{}, 1},
	} {
		if got := wide.Cmp(c.a, c.b); got != c.want {
			t.Errorf("Cmp(%x, %x): %d; want %d", c.a, c.b, got, c.want)
		}
		if got := wide.Cmp(c.b, c.a); got != -c.want {
			t.Errorf("Cmp(%x, %x): %d; want %d", c.b, c.a, got, -c.want)
		}
	}
}

// P7.1: sums, differences and orders of edges and of numbers all over, against the chapter's words.
func TestSumsPlain(t *testing.T) {
	for _, a := range wideEdges() {
		for _, b := range wideEdges() {
			wantSums(t, a, b)
		}
	}
	list := wideRow(1000, 2)
	for i, b := range list {
		a := list[(i+1)%len(list)]
		wantSums(t, a, b)
		wantSums(t, b, b)
		wantSums(t, api.Wide{Hi: b.Hi, Lo: a.Lo}, b)
		wantSums(t, api.Wide{Hi: ^b.Hi, Lo: a.Lo}, b)
		wantSums(t, api.Wide{Hi: ^b.Hi, Lo: ^b.Lo}, b)
	}
}

// P7.2: rows that are known: of one place, over 0, of all of int64, and those the wrong way round.
func TestWidth(t *testing.T) {
	for _, c := range []struct {
		lo, hi int64
		want   uint64
	}{
		{0, 0, 0},
		{5, 5, 0},
		{2, 3, 1},
		{3, 2, 0},
		{-3, -1, 2},
		{-1, -3, 0},
		{-3, 4, 7},
		{4, -3, 0},
		{0, math.MaxInt64, math.MaxInt64},
		{-1, math.MaxInt64, 1 << 63},
		{math.MinInt64, -1, math.MaxInt64},
		{math.MinInt64, 0, 1 << 63},
		{math.MinInt64, math.MaxInt64, math.MaxUint64},
		{math.MinInt64 + 1, math.MaxInt64, math.MaxUint64 - 1},
		{math.MaxInt64, math.MinInt64, 0},
		{math.MinInt64, math.MinInt64, 0},
		{math.MaxInt64, math.MaxInt64, 0},
		{math.MaxInt64, math.MaxInt64 - 1, 0},
	} {
		if got := wide.Width(c.lo, c.hi); got != c.want {
			t.Errorf("Width(%d, %d): %d; want %d", c.lo, c.hi, got, c.want)
		}
	}
}

// P7.2: boxes that are known: a point, a span, all there is, and those that are no boxes, whose wrong way is 0 wide.
func TestAreaAndMargin(t *testing.T) {
	const least, most, all = math.MinInt64, math.MaxInt64, math.MaxUint64
	for _, c := range []struct {
		k            api.Key
		area, margin api.Wide
	}{
		{api.Key{}, api.Wide{}, api.Wide{}},
		{api.Key{X0: 7, X1: 7, Y0: -7, Y1: -7}, api.Wide{}, api.Wide{}},
		{api.Key{X1: 2, Y1: 3}, api.Wide{Lo: 6}, api.Wide{Lo: 5}},
		{api.Key{X1: 9}, api.Wide{}, api.Wide{Lo: 9}},
		{api.Key{Y1: 9}, api.Wide{}, api.Wide{Lo: 9}},
		{api.Key{X0: -2, X1: 2, Y0: -3, Y1: 4}, api.Wide{Lo: 28}, api.Wide{Lo: 11}},
		{api.Key{X0: least, X1: most, Y0: least, Y1: most}, api.Wide{Hi: all - 1, Lo: 1}, api.Wide{Hi: 1, Lo: all - 1}},
		{api.Key{X0: least, X1: most, Y0: 5, Y1: 6}, api.Wide{Lo: all}, api.Wide{Hi: 1}},
		{api.Key{X0: least, X1: 0, Y0: -1, Y1: most}, api.Wide{Hi: 1 << 62}, api.Wide{Hi: 1}},
		{api.Key{X0: 3, X1: 1, Y0: 0, Y1: 5}, api.Wide{}, api.Wide{Lo: 5}},
		{api.Key{X0: 0, X1: 5, Y0: 3, Y1: 1}, api.Wide{}, api.Wide{Lo: 5}},
		{api.Key{X0: 3, X1: 1, Y0: 9, Y1: 5}, api.Wide{}, api.Wide{}},
		{api.Key{X0: most, X1: least, Y0: most, Y1: least}, api.Wide{}, api.Wide{}},
	} {
		if got := wide.Area(c.k); got != c.area {
			t.Errorf("Area(%d): %x; want %x", c.k, got, c.area)
		}
		if got := wide.Margin(c.k); got != c.margin {
			t.Errorf("Margin(%d): %x; want %x", c.k, got, c.margin)
		}
	}
}

// P7.2: all rows between edges, and all boxes of them, against the chapter's words.
func TestWidthPlain(t *testing.T) {
	type side struct {
		lo, hi int64
		width  uint64
	}
	var sides []side
	for _, lo := range coordinates() {
		for _, hi := range coordinates() {
			want := plainWidth(lo, hi)
			if got := wide.Width(lo, hi); got != want {
				t.Errorf("Width(%d, %d): %d; want %d", lo, hi, got, want)
			}
			sides = append(sides, side{lo, hi, want})
		}
	}
	for i, x := range sides {
		for j := i % 11; j < len(sides); j += 11 {
			y := sides[j]
			k := api.Key{X0: x.lo, X1: x.hi, Y0: y.lo, Y1: y.hi}
			if got, want := wide.Area(k), plainMul(x.width, y.width); got != want {
				t.Fatalf("Area(%d): %x; want %x", k, got, want)
			}
			want, _ := plainAdd(api.Wide{Lo: x.width}, api.Wide{Lo: y.width})
			if got := wide.Margin(k); got != want {
				t.Fatalf("Margin(%d): %x; want %x", k, got, want)
			}
		}
	}
}

// P7.3: numbers that are known, none of which has a nought ahead but 0.
func TestText(t *testing.T) {
	const most = math.MaxUint64
	for _, c := range []struct {
		a    api.Wide
		want string
	}{
		{api.Wide{}, "0"},
		{api.Wide{Lo: 1}, "1"},
		{api.Wide{Lo: 9}, "9"},
		{api.Wide{Lo: 10}, "10"},
		{api.Wide{Lo: 105}, "105"},
		{api.Wide{Lo: 1e19}, "10000000000000000000"},
		{api.Wide{Lo: most}, "18446744073709551615"},
		{api.Wide{Hi: 1}, "18446744073709551616"},
		{api.Wide{Hi: 1, Lo: 1}, "18446744073709551617"},
		{api.Wide{Hi: 1 << 63}, "170141183460469231731687303715884105728"},
		{api.Wide{Hi: 5421010862427522170, Lo: 687399551400673280}, "1" + strings.Repeat("0", 38)},
		{api.Wide{Hi: 5421010862427522170, Lo: 687399551400673279}, strings.Repeat("9", 38)},
		{api.Wide{Hi: most}, "340282366920938463444927863358058659840"},
		{api.Wide{Hi: most - 1, Lo: 1}, "340282366920938463426481119284349108225"},
		{api.Wide{Hi: most, Lo: most}, "340282366920938463463374607431768211455"},
	} {
		if got := wide.Text(c.a); got != c.want {
			t.Errorf("Text(%x): %q; want %q", c.a, got, c.want)
		}
	}
}

// tens are the powers of ten that are wide numbers, from 1 on.
func tens() []api.Wide {
	list := []api.Wide{{Lo: 1}}
	for len(list) < 39 {
		x := wideBits(list[len(list)-1]).times(bitsOf(10))
		next, _ := x.wideOf()
		list = append(list, next)
	}
	return list
}

// P7.3: at each power of ten the text grows by a digit; times each digit it has that one ahead.
func TestTextTens(t *testing.T) {
	for i, ten := range tens() {
		noughts := strings.Repeat("0", i)
		for digit := uint64(1); digit < 10; digit++ {
			a, whole := wideBits(ten).times(bitsOf(digit)).wideOf()
			if want := string('0'+rune(digit)) + noughts; whole && wide.Text(a) != want {
				t.Errorf("Text(%x): %q; want %q", a, wide.Text(a), want)
			}
		}
		below, _ := plainSub(ten, api.Wide{Lo: 1})
		if want := strings.Repeat("9", i); i > 0 && wide.Text(below) != want {
			t.Errorf("Text(%x): %q; want %q", below, wide.Text(below), want)
		}
	}
}

// P7.3: powers of two, edges and numbers all over, against the chapter's words.
func TestTextPlain(t *testing.T) {
	list := append(wideEdges(), wideRow(500, 3)...)
	for i := range 64 {
		list = append(list, api.Wide{Lo: 1 << i}, api.Wide{Lo: 1<<i - 1}, api.Wide{Hi: 1 << i}, api.Wide{Hi: 1<<i - 1, Lo: math.MaxUint64})
	}
	for i := range uint64(2000) {
		list = append(list, api.Wide{Lo: i})
	}
	for _, a := range list {
		if got, want := wide.Text(a), plainText(a); got != want {
			t.Errorf("Text(%x): %q; want %q", a, got, want)
		}
	}
}
