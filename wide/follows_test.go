package wide_test

import (
	"slices"
	"testing"

	"gazetteer/api"
	"gazetteer/wide"
)

// halfNumbers are the edges of 64 bits, and some numbers all over.
func halfNumbers() []uint64 {
	return append(halfEdges(), row(40, 4)...)
}

// wideNumbers are wide edges, and some numbers all over.
func wideNumbers() []api.Wide {
	return append(wideEdges(), wideRow(60, 5)...)
}

// P7.4: neither a product nor a sum hangs on the order.
func TestOrderIsNothing(t *testing.T) {
	for _, a := range halfNumbers() {
		for _, b := range halfNumbers() {
			if x, y := wide.Mul(a, b), wide.Mul(b, a); x != y {
				t.Errorf("Mul of %d and %d: %x, the other way round %x", a, b, x, y)
			}
		}
	}
	for _, a := range wideNumbers() {
		for _, b := range wideNumbers() {
			x, ok := wide.Add(a, b)
			y, same := wide.Add(b, a)
			if x != y || ok != same {
				t.Errorf("Add of %x and %x: %x, %t, the other way round %x, %t", a, b, x, ok, y, same)
			}
		}
	}
}

// P7.4: of a sum and one of both the difference is the other one, of a sum that has passed 2^128, too: there it is below 0.
func TestSubOfSum(t *testing.T) {
	told := map[bool]int{}
	for _, a := range wideNumbers() {
		for _, b := range wideNumbers() {
			sum, whole := wide.Add(a, b)
			told[whole]++
			if x, ok := wide.Sub(sum, b); x != a || ok != whole {
				t.Errorf("Sub of %x and %x, which is their sum less the second one: %x, %t; want %x, %t", a, b, x, ok, a, whole)
			}
			if x, ok := wide.Sub(sum, a); x != b || ok != whole {
				t.Errorf("Sub of %x and %x, which is their sum less the first one: %x, %t; want %x, %t", a, b, x, ok, b, whole)
			}
			difference, above := wide.Sub(a, b)
			if x, ok := wide.Add(difference, b); x != a || ok != above {
				t.Errorf("Add of %x to %x less that: %x, %t; want %x, %t", b, a, x, ok, a, above)
			}
		}
	}
	if told[true] < 1000 || told[false] < 1000 {
		t.Errorf("told: %v", told)
	}
}

// P7.4: a product by what is not 0 is at least the other number, and grows with both.
func TestProductsGrow(t *testing.T) {
	list := halfNumbers()
	slices.Sort(list)
	for _, a := range list {
		last := api.Wide{}
		for i, b := range list {
			x := wide.Mul(a, b)
			if a != 0 && wide.Cmp(x, api.Wide{Lo: b}) < 0 || b != 0 && wide.Cmp(x, api.Wide{Lo: a}) < 0 {
				t.Errorf("Mul(%d, %d) is below one of both: %x", a, b, x)
			}
			if i == 0 {
				last = x
				continue
			}
			want := 1
			if a == 0 || b == list[i-1] {
				want = 0
			}
			if got := wide.Cmp(x, last); got != want {
				t.Errorf("Mul(%d, %d): %x, behind Mul(%d, %d), %x: Cmp says %d; want %d", a, b, x, a, list[i-1], last, got, want)
			}
			last = x
		}
	}
}

// P7.4: a product grows by the other number when one of both is one greater.
func TestProductsGrowByTheOther(t *testing.T) {
	for _, a := range halfNumbers() {
		for _, b := range halfNumbers() {
			if b+1 == 0 {
				continue
			}
			want, ok := wide.Add(wide.Mul(a, b), api.Wide{Lo: a})
			if got := wide.Mul(a, b+1); !ok || got != want {
				t.Errorf("Mul(%d, %d): %x; want %x", a, b+1, got, want)
			}
		}
	}
}

// P7.4: there is one order: numbers that Cmp has sorted stand so, each with each, as the plain reading has it.
func TestCmpIsOneOrder(t *testing.T) {
	list := wideNumbers()
	slices.SortFunc(list, wide.Cmp)
	list = slices.Compact(list)
	if len(list) < 150 {
		t.Fatalf("%d numbers", len(list))
	}
	for i, a := range list {
		for j, b := range list {
			want := 0
			if i < j {
				want = -1
			} else if i > j {
				want = 1
			}
			if got := wide.Cmp(a, b); got != want || plainCmp(a, b) != want {
				t.Errorf("Cmp(%x, %x): %d; want %d", a, b, got, want)
			}
		}
	}
}

// P7.4: a number is above another one if the difference is not below 0 and not nothing.
func TestCmpIsTheDifferences(t *testing.T) {
	for _, a := range wideNumbers() {
		for _, b := range wideNumbers() {
			difference, ok := wide.Sub(a, b)
			want := -1
			if ok && difference == (api.Wide{}) {
				want = 0
			} else if ok {
				want = 1
			}
			if got := wide.Cmp(a, b); got != want {
				t.Errorf("Cmp(%x, %x): %d; want %d, as the difference is %x, %t", a, b, got, want, difference, ok)
			}
		}
	}
}

// nested are rows of edges, each of which lies in the one ahead of it: by turns it is shorter below, above, and at both ends; the seed says by which turn it begins.
func nested(seed int) [][2]int64 {
	c := coordinates()
	var list [][2]int64
	lo, hi := 0, len(c)-1
	for i := seed; lo <= hi; i++ {
		list = append(list, [2]int64{c[lo], c[hi]})
		if i%3 > 0 {
			lo++
		}
		if i%3 < 2 {
			hi--
		}
	}
	return list
}

// P7.4: a box that another one covers has at most its area, and its margin.
func TestCoveredIsNoGreater(t *testing.T) {
	for seeds := range 9 {
		xs, ys := nested(seeds%3), nested(seeds/3)
		for i, x := range xs {
			for j, y := range ys {
				outer := api.Key{X0: x[0], X1: x[1], Y0: y[0], Y1: y[1]}
				for _, in := range [][2]int{{i + 1, j}, {i, j + 1}, {i + 1, j + 1}, {len(xs) - 1, len(ys) - 1}, {i, j}} {
					if in[0] >= len(xs) || in[1] >= len(ys) {
						continue
					}
					inX, inY := xs[in[0]], ys[in[1]]
					inner := api.Key{X0: inX[0], X1: inX[1], Y0: inY[0], Y1: inY[1]}
					if wide.Cmp(wide.Area(inner), wide.Area(outer)) > 0 || wide.Cmp(wide.Margin(inner), wide.Margin(outer)) > 0 {
						t.Errorf("the box %d lies in %d: areas %x, %x, margins %x, %x", inner, outer, wide.Area(inner), wide.Area(outer), wide.Margin(inner), wide.Margin(outer))
					}
				}
			}
		}
	}
}

// R7: a text is just 0, or a digit from 1 to 9 and further digits, and another one for each number; read again it is the number.
func TestTextIsReadAgain(t *testing.T) {
	for _, a := range append(wideNumbers(), tens()...) {
		text := wide.Text(a)
		if text == "" || text[0] == '0' && text != "0" {
			t.Fatalf("Text(%x): %q", a, text)
		}
		read := api.Wide{}
		for i := range len(text) {
			if text[i] < '0' || text[i] > '9' {
				t.Fatalf("Text(%x): %q", a, text)
			}
			moved, whole := wideBits(read).times(bitsOf(10)).wideOf()
			next, fits := plainAdd(moved, api.Wide{Lo: uint64(text[i] - '0')})
			if !whole || !fits {
				t.Fatalf("Text(%x): %q passes 2^128", a, text)
			}
			read = next
		}
		if read != a {
			t.Errorf("Text(%x): %q, which is %x", a, text, read)
		}
	}
}

// R5: calls leave nothing behind for later ones.
func TestCallsStandAlone(t *testing.T) {
	a, b := wideRow(2, 6)[0], wideRow(2, 6)[1]
	k := api.Key{X0: -3, X1: 4, Y0: 1, Y1: 9}
	sum, _ := wide.Add(a, b)
	difference, _ := wide.Sub(a, b)
	text, product, area := wide.Text(a), wide.Mul(a.Lo, b.Lo), wide.Area(k)
	for range 3 {
		wide.Text(b)
		wide.Area(api.Key{X0: 9, X1: 1})
		again, _ := wide.Add(a, b)
		less, _ := wide.Sub(a, b)
		if again != sum || less != difference || wide.Text(a) != text || wide.Mul(a.Lo, b.Lo) != product || wide.Area(k) != area {
			t.Error("a call is answered otherwise when it comes again")
		}
	}
}
