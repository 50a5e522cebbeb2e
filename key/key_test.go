package key_test

import (
	"math"
	"testing"

	"gazetteer/api"
	"gazetteer/key"
)

const least, most = math.MinInt64, math.MaxInt64

// P9.1: keys of each class and of none, at the borders; classes that there are not.
func TestCheck(t *testing.T) {
	for _, c := range []struct {
		k                api.Key
		box, span, point bool
	}{
		{api.Key{}, true, true, true},
		{span(0, 1), true, true, false},
		{span(5, 5), true, true, true},
		{span(-7, -7), true, true, true},
		{span(-3, 4), true, true, false},
		{span(1, 0), false, false, false},
		{span(least, most), true, true, false},
		{span(most, least), false, false, false},
		{span(least, least), true, true, true},
		{box(0, 1, 1, 1), true, false, false},
		{box(0, 1, -1, 0), true, false, false},
		{box(0, 1, 0, 1), true, false, false},
		{box(0, 1, -1, 1), true, false, false},
		{box(0, 1, 1, 0), false, false, false},
		{box(0, 0, 0, 1), true, false, false},
		{box(0, 0, 1, 0), false, false, false},
		{box(0, 0, -1, 0), true, false, false},
		{box(1, 0, 1, 0), false, false, false},
		{box(1, 0, 1, 1), false, false, false},
		{box(2, 2, 3, 4), true, false, false},
		{box(2, 3, 4, 4), true, false, false},
		{point(3, 4), true, false, true},
		{point(3, -4), true, false, true},
		{point(3, 0), true, true, true},
		{point(least, most), true, false, true},
		{box(least, most, least, most), true, false, false},
		{box(least, most, most, least), false, false, false},
		{box(most, least, least, most), false, false, false},
	} {
		for class, of := range map[int]bool{1: c.box, 2: c.span, 3: c.point, 0: false, 4: false, -1: false, math.MaxInt: false, math.MinInt: false} {
			want := api.ErrArg
			if of {
				want = api.OK
			}
			if got := key.Check(class, c.k); got != want {
				t.Errorf("Check(%d, %d): %d; want %d", class, c.k, got, want)
			}
		}
	}
}

// P9.1: the classes are numbered from 1 on, and all that is of a class is a box.
func TestCheckPlain(t *testing.T) {
	if api.ClassBox != 1 || api.ClassSpan != 2 || api.ClassPoint != 3 {
		t.Fatal("the classes")
	}
	all := append(append(grid(2), edges()...), noBoxes()...)
	for _, k := range all {
		for class := -2; class < 7; class++ {
			if got, want := key.Check(class, k), plainCheck(class, k); got != want {
				t.Errorf("Check(%d, %d): %d; want %d", class, k, got, want)
			}
			if key.Check(class, k) == api.OK && key.Check(api.ClassBox, k) != api.OK {
				t.Errorf("%d is of class %d, and no box", k, class)
			}
		}
	}
}

// P9.2: boxes that touch, that lie beside, above and in one another, and those at the ends of int64.
func TestMeetsCoversUnion(t *testing.T) {
	all := box(least, most, least, most)
	for _, c := range []struct {
		a, b          api.Key
		meet          bool
		covers, other bool
		union         api.Key
	}{
		{box(0, 2, 0, 2), box(2, 3, 2, 3), true, false, false, box(0, 3, 0, 3)},
		{box(0, 2, 0, 2), box(3, 4, 0, 2), false, false, false, box(0, 4, 0, 2)},
		{box(0, 2, 0, 2), box(0, 2, 3, 4), false, false, false, box(0, 2, 0, 4)},
		{box(0, 2, 0, 2), box(2, 4, 0, 2), true, false, false, box(0, 4, 0, 2)},
		{box(0, 2, 0, 2), box(0, 2, 2, 4), true, false, false, box(0, 2, 0, 4)},
		{box(0, 2, 0, 2), box(2, 4, 3, 5), false, false, false, box(0, 4, 0, 5)},
		{box(0, 2, 0, 2), box(3, 5, 2, 4), false, false, false, box(0, 5, 0, 4)},
		{box(0, 2, 0, 2), box(0, 2, 0, 2), true, true, true, box(0, 2, 0, 2)},
		{box(0, 2, 0, 2), box(0, 2, 0, 1), true, true, false, box(0, 2, 0, 2)},
		{box(0, 2, 0, 2), box(0, 2, 1, 2), true, true, false, box(0, 2, 0, 2)},
		{box(0, 2, 0, 2), box(1, 2, 0, 2), true, true, false, box(0, 2, 0, 2)},
		{box(0, 2, 0, 2), box(0, 1, 0, 2), true, true, false, box(0, 2, 0, 2)},
		{box(0, 2, 0, 2), point(1, 1), true, true, false, box(0, 2, 0, 2)},
		{box(0, 2, 0, 2), point(2, 0), true, true, false, box(0, 2, 0, 2)},
		{box(0, 2, 0, 2), point(3, 0), false, false, false, box(0, 3, 0, 2)},
		{box(0, 2, 0, 2), point(-1, 0), false, false, false, box(-1, 2, 0, 2)},
		{box(0, 2, 0, 2), point(0, -1), false, false, false, box(0, 2, -1, 2)},
		// a cross: neither has a corner in the other one
		{box(0, 9, 4, 5), box(4, 5, 0, 9), true, false, false, box(0, 9, 0, 9)},
		{span(-5, -1), span(-1, 5), true, false, false, span(-5, 5)},
		{span(-5, -1), span(0, 5), false, false, false, span(-5, 5)},
		{point(1, 1), point(1, 1), true, true, true, point(1, 1)},
		{point(1, 1), point(1, 2), false, false, false, box(1, 1, 1, 2)},
		{api.Key{}, api.Key{}, true, true, true, api.Key{}},
		{all, point(0, 0), true, true, false, all},
		{all, all, true, true, true, all},
		{all, point(least, most), true, true, false, all},
		{point(least, least), point(most, most), false, false, false, all},
		{box(least, 0, least, 0), box(0, most, 0, most), true, false, false, all},
		{box(least, -1, least, 0), box(0, most, 0, most), false, false, false, all},
	} {
		if key.Meets(c.a, c.b) != c.meet || key.Meets(c.b, c.a) != c.meet {
			t.Errorf("Meets(%d, %d): %t, the other way round %t; want %t", c.a, c.b, key.Meets(c.a, c.b), key.Meets(c.b, c.a), c.meet)
		}
		if key.Covers(c.a, c.b) != c.covers || key.Covers(c.b, c.a) != c.other {
			t.Errorf("Covers(%d, %d): %t, the other way round %t; want %t, %t", c.a, c.b, key.Covers(c.a, c.b), key.Covers(c.b, c.a), c.covers, c.other)
		}
		if key.Union(c.a, c.b) != c.union || key.Union(c.b, c.a) != c.union {
			t.Errorf("Union(%d, %d): %d, the other way round %d; want %d", c.a, c.b, key.Union(c.a, c.b), key.Union(c.b, c.a), c.union)
		}
	}
}

// P9.2: of what is no box, on either side or on both, with a box that it would meet or lie in: false, false, the zero key.
func TestMeetsCoversUnionOfNoBox(t *testing.T) {
	boxes := append(edges(), api.Key{}, box(-9, 9, -9, 9), box(least, most, least, most))
	for _, no := range noBoxes() {
		for _, k := range append(boxes, noBoxes()...) {
			for _, c := range [][2]api.Key{{no, k}, {k, no}, {no, no}} {
				if key.Meets(c[0], c[1]) || key.Covers(c[0], c[1]) || key.Union(c[0], c[1]) != (api.Key{}) {
					t.Errorf("of %d and %d, one of which is no box: %t, %t, %d", c[0], c[1], key.Meets(c[0], c[1]), key.Covers(c[0], c[1]), key.Union(c[0], c[1]))
				}
			}
		}
	}
}

// wantTwo wants what the chapter's words say of two keys.
func wantTwo(t *testing.T, a, b api.Key) {
	t.Helper()
	if got, want := key.Meets(a, b), plainMeets(a, b); got != want {
		t.Errorf("Meets(%d, %d): %t; want %t", a, b, got, want)
	}
	if got, want := key.Covers(a, b), plainCovers(a, b); got != want {
		t.Errorf("Covers(%d, %d): %t; want %t", a, b, got, want)
	}
	if got, want := key.Union(a, b), plainUnion(a, b); got != want {
		t.Errorf("Union(%d, %d): %d; want %d", a, b, got, want)
	}
	area, margin := key.Grows(a, b)
	if want := plainGrows(a, b); area != want[0].wide() || margin != want[1].wide() {
		t.Errorf("Grows(%d, %d): %x, %x; want %x", a, b, area, margin, want)
	}
}

// P9.2, P9.4: all keys of a grid, boxes or not, and boxes at the ends of int64, each with each, against the chapter's words.
func TestTwoPlain(t *testing.T) {
	small := grid(3)
	for _, a := range small {
		for _, b := range small {
			wantTwo(t, a, b)
		}
	}
	great := append(edges(), noBoxes()...)
	for _, a := range great {
		for _, b := range great {
			wantTwo(t, a, b)
		}
	}
	next := rows(1)
	for range 400 {
		list := next(8)
		for _, a := range list {
			for _, b := range list {
				wantTwo(t, a, b)
			}
		}
	}
}

// points is those of a grid of 4 by 4 that a key has, a bit each.
func points(k api.Key) uint16 {
	var set uint16
	for x := range int64(4) {
		for y := range int64(4) {
			if k.X0 <= x && x <= k.X1 && k.Y0 <= y && y <= k.Y1 {
				set |= 1 << (4*x + y)
			}
		}
	}
	return set
}

// P9.2: boxes as the points that they have: those that meet have one in common, one that covers has all of the other one.
func TestMeetsAndCoversByPoints(t *testing.T) {
	for _, a := range boxGrid(3) {
		for _, b := range boxGrid(3) {
			p, q := points(a), points(b)
			if got, want := key.Meets(a, b), p&q != 0; got != want {
				t.Errorf("Meets(%d, %d): %t; want %t", a, b, got, want)
			}
			if got, want := key.Covers(a, b), p|q == p; got != want {
				t.Errorf("Covers(%d, %d): %t; want %t", a, b, got, want)
			}
		}
	}
}

// P9.3: of none, of one, of several; one that is no box, wherever it stands.
func TestBound(t *testing.T) {
	for _, c := range []struct {
		l    []api.Key
		want api.Key
		err  api.Errno
	}{
		{nil, api.Key{}, api.ErrArg},
		{[]api.Key{}, api.Key{}, api.ErrArg},
		{[]api.Key{{}}, api.Key{}, api.OK},
		{[]api.Key{box(5, 6, 7, 8)}, box(5, 6, 7, 8), api.OK},
		{[]api.Key{point(least, most)}, point(least, most), api.OK},
		{[]api.Key{box(1, 2, 3, 4), box(5, 6, 7, 8)}, box(1, 6, 3, 8), api.OK},
		{[]api.Key{box(5, 6, 7, 8), box(1, 2, 3, 4)}, box(1, 6, 3, 8), api.OK},
		{[]api.Key{point(4, 0), point(0, 4), point(8, 4), point(4, 8)}, box(0, 8, 0, 8), api.OK},
		{[]api.Key{box(-9, 9, -9, 9), box(1, 2, 3, 4), point(0, 0)}, box(-9, 9, -9, 9), api.OK},
		{[]api.Key{point(least, 0), point(0, most), point(most, 0), point(0, least)}, box(least, most, least, most), api.OK},
		{[]api.Key{span(1, 0)}, api.Key{}, api.ErrArg},
		{[]api.Key{{Y0: 1}}, api.Key{}, api.ErrArg},
		{[]api.Key{span(1, 0), point(1, 1), point(2, 2)}, api.Key{}, api.ErrArg},
		{[]api.Key{point(1, 1), span(1, 0), point(2, 2)}, api.Key{}, api.ErrArg},
		{[]api.Key{point(1, 1), point(2, 2), {Y0: 1}}, api.Key{}, api.ErrArg},
	} {
		if got, err := key.Bound(c.l); got != c.want || err != c.err {
			t.Errorf("Bound(%d): %d, %d; want %d, %d", c.l, got, err, c.want, c.err)
		}
	}
}

// P9.3: more than may be parted have a union, too; against the chapter's words.
func TestBoundPlain(t *testing.T) {
	next := rows(2)
	for n := range 200 {
		for i := range 10 {
			l := next(n)
			if i == 9 && n > 0 {
				l[n*5/7] = noBoxes()[n%len(noBoxes())]
			}
			got, err := key.Bound(l)
			if want, e := plainBound(l); got != want || err != e {
				t.Fatalf("Bound(%d): %d, %d; want %d, %d", l, got, err, want, e)
			}
		}
	}
}

// P9.4: boxes that grow by area, by margin alone, by nothing, and over all of int64.
func TestGrows(t *testing.T) {
	const whole = math.MaxUint64
	all := box(least, most, least, most)
	for _, c := range []struct {
		a, b         api.Key
		area, margin api.Wide
	}{
		{box(0, 2, 0, 2), box(2, 3, 2, 3), api.Wide{Lo: 5}, api.Wide{Lo: 2}},
		{box(2, 3, 2, 3), box(0, 2, 0, 2), api.Wide{Lo: 8}, api.Wide{Lo: 4}},
		{box(0, 2, 0, 2), box(0, 2, 0, 2), api.Wide{}, api.Wide{}},
		{box(0, 2, 0, 2), point(1, 2), api.Wide{}, api.Wide{}},
		{box(0, 2, 0, 3), point(4, 0), api.Wide{Lo: 6}, api.Wide{Lo: 2}},
		{box(0, 2, 0, 3), point(0, -1), api.Wide{Lo: 2}, api.Wide{Lo: 1}},
		{point(0, 0), point(0, 7), api.Wide{}, api.Wide{Lo: 7}},
		{span(0, 4), span(9, 9), api.Wide{}, api.Wide{Lo: 5}},
		{point(0, 0), point(-3, 7), api.Wide{Lo: 21}, api.Wide{Lo: 10}},
		{all, point(0, 0), api.Wide{}, api.Wide{}},
		{point(0, 0), all, api.Wide{Hi: whole - 1, Lo: 1}, api.Wide{Hi: 1, Lo: whole - 1}},
		{point(least, least), point(most, most), api.Wide{Hi: whole - 1, Lo: 1}, api.Wide{Hi: 1, Lo: whole - 1}},
		{box(least, most, least, most-1), point(0, most), api.Wide{Lo: whole}, api.Wide{Lo: 1}},
		{span(least, most), span(0, 0), api.Wide{}, api.Wide{}},
		{span(1, 0), box(0, 2, 0, 2), api.Wide{}, api.Wide{}},
		{box(0, 2, 0, 2), span(1, 0), api.Wide{}, api.Wide{}},
		{box(0, 2, 0, 2), api.Key{X0: 7, X1: 9, Y0: 6, Y1: 5}, api.Wide{}, api.Wide{}},
		{api.Key{X0: 7, X1: 9, Y0: 6, Y1: 5}, box(0, 2, 0, 2), api.Wide{}, api.Wide{}},
		{span(1, 0), span(1, 0), api.Wide{}, api.Wide{}},
	} {
		if area, margin := key.Grows(c.a, c.b); area != c.area || margin != c.margin {
			t.Errorf("Grows(%d, %d): %x, %x; want %x, %x", c.a, c.b, area, margin, c.area, c.margin)
		}
	}
}

// P9.4: the area counts ahead of the margin; who grows as much does not grow less; of what is no box, wherever it stands: false.
func TestLess(t *testing.T) {
	all := box(least, most, least, most)
	for _, c := range []struct {
		a, b, by         api.Key
		want, otherWayIs bool
	}{
		{point(0, 0), point(9, 9), point(1, 1), true, false},
		{point(0, 0), point(2, 2), point(1, 1), false, false},
		{span(0, 0), span(9, 9), span(4, 4), true, false},
		{span(0, 0), span(9, 9), span(5, 5), false, true},
		// by area 0 and by margin 9; by area 1 and by margin 2
		{point(0, 0), point(10, 1), point(9, 0), true, false},
		// by area 4 and by margin 1; by area 3 and by margin 3
		{box(0, 4, 0, 4), box(5, 5, 2, 5), box(5, 5, 3, 4), false, true},
		// by area 4 each, by margin 1 and 4
		{box(0, 4, 0, 4), box(7, 7, 2, 2), box(5, 5, 4, 4), true, false},
		{box(0, 4, 0, 4), box(0, 4, 0, 4), box(0, 9, 0, 9), false, false},
		{box(0, 4, 0, 4), box(1, 3, 1, 3), point(2, 2), false, false},
		// who is greater grows less
		{box(0, 4, 0, 4), box(1, 3, 1, 3), point(4, 4), true, false},
		{all, point(0, 0), point(1, 1), true, false},
		{point(least, least), point(most, most), point(0, 0), false, true},
		{point(least, least), point(most, most), point(-1, -1), true, false},
		{point(least, least), point(-1, -1), point(most, most), false, true},
		{span(1, 0), point(9, 9), point(4, 4), false, false},
		{api.Key{Y0: 1}, point(9, 9), point(4, 4), false, false},
		{point(9, 9), point(0, 0), span(1, 0), false, false},
		{span(1, 0), span(1, 0), point(4, 4), false, false},
		{span(1, 0), span(1, 0), span(1, 0), false, false},
	} {
		if got := key.Less(c.a, c.b, c.by); got != c.want {
			t.Errorf("Less(%d, %d, %d): %t; want %t", c.a, c.b, c.by, got, c.want)
		}
		if got := key.Less(c.b, c.a, c.by); got != c.otherWayIs {
			t.Errorf("Less(%d, %d, %d): %t; want %t", c.b, c.a, c.by, got, c.otherWayIs)
		}
	}
}

// P9.4: all boxes of a grid, three of each other; edges, and boxes all over, against the chapter's words.
func TestLessPlain(t *testing.T) {
	told := 0
	want := func(a, b, by api.Key) {
		got := key.Less(a, b, by)
		if got != plainLess(a, b, by) {
			t.Errorf("Less(%d, %d, %d): %t", a, b, by, got)
		}
		if got {
			told++
		}
	}
	all := func(list []api.Key) {
		for _, a := range list {
			for _, b := range list {
				for _, by := range list {
					want(a, b, by)
				}
			}
		}
	}
	all(boxGrid(2))
	all(append(noBoxes(), boxGrid(1)...))
	all(edges())
	next := rows(3)
	for range 300 {
		all(next(6))
	}
	if told < 10000 {
		t.Errorf("%d are less", told)
	}
}
