package key_test

import (
	"math"
	"math/bits"
	"slices"

	"gazetteer/api"
)

// The tests hold key against a plain reading of the chapter, which reckons areas and margins of its own: as pairs of halves, the higher one first.

// number is a whole number of 128 bits.
type number [2]uint64

// cmp is -1, 0 or 1, as n is below, the same as, or above m.
func (n number) cmp(m number) int {
	return slices.Compare(n[:], m[:])
}

// less is n less m, and 0 if that is below 0.
func (n number) less(m number) number {
	if n.cmp(m) < 0 {
		return number{}
	}
	low, borrow := bits.Sub64(n[1], m[1], 0)
	return number{n[0] - m[0] - borrow, low}
}

// wide is n as the package tells it.
func (n number) wide() api.Wide {
	return api.Wide{Hi: n[0], Lo: n[1]}
}

// plainArea and plainMargin are those of a box. A width may pass int64, never uint64.
func plainArea(k api.Key) number {
	high, low := bits.Mul64(uint64(k.X1-k.X0), uint64(k.Y1-k.Y0))
	return number{high, low}
}

func plainMargin(k api.Key) number {
	low, carry := bits.Add64(uint64(k.X1-k.X0), uint64(k.Y1-k.Y0), 0)
	return number{carry, low}
}

// plainBox tells whether a key is a box, and plainAre whether all of some are.
func plainBox(k api.Key) bool {
	return k.X0 <= k.X1 && k.Y0 <= k.Y1
}

func plainAre(list ...api.Key) bool {
	return !slices.ContainsFunc(list, func(k api.Key) bool { return !plainBox(k) })
}

// plainCheck is whether a key is of a class.
func plainCheck(class int, k api.Key) api.Errno {
	switch {
	case !plainBox(k):
		return api.ErrArg
	case class == 1:
		return api.OK
	case class == 2 && k.Y0 == 0 && k.Y1 == 0:
		return api.OK
	case class == 3 && k.X0 == k.X1 && k.Y0 == k.Y1:
		return api.OK
	}
	return api.ErrArg
}

// plainMeets: neither lies wholly beside the other one, nor above or below it.
func plainMeets(a, b api.Key) bool {
	beside := a.X1 < b.X0 || b.X1 < a.X0 || a.Y1 < b.Y0 || b.Y1 < a.Y0
	return plainAre(a, b) && !beside
}

// plainCovers: each border of b lies within a.
func plainCovers(a, b api.Key) bool {
	in := a.X0 <= b.X0 && b.X1 <= a.X1 && a.Y0 <= b.Y0 && b.Y1 <= a.Y1
	return plainAre(a, b) && in
}

// plainUnion goes from the least border of all boxes to the greatest one.
func plainUnion(list ...api.Key) api.Key {
	if len(list) == 0 || !plainAre(list...) {
		return api.Key{}
	}
	var xs, ys []int64
	for _, k := range list {
		xs = append(xs, k.X0, k.X1)
		ys = append(ys, k.Y0, k.Y1)
	}
	return api.Key{X0: slices.Min(xs), X1: slices.Max(xs), Y0: slices.Min(ys), Y1: slices.Max(ys)}
}

// plainBound is that of a list.
func plainBound(list []api.Key) (api.Key, api.Errno) {
	if len(list) == 0 || !plainAre(list...) {
		return api.Key{}, api.ErrArg
	}
	return plainUnion(list...), api.OK
}

// plainGrows is how much a grows by b: by area, and by margin.
func plainGrows(a, b api.Key) [2]number {
	if !plainAre(a, b) {
		return [2]number{}
	}
	u := plainUnion(a, b)
	return [2]number{plainArea(u).less(plainArea(a)), plainMargin(u).less(plainMargin(a))}
}

// cmpBoth holds two pairs of numbers against each other, the first of each first.
func cmpBoth(a, b [2]number) int {
	if c := a[0].cmp(b[0]); c != 0 {
		return c
	}
	return a[1].cmp(b[1])
}

// plainLess is whether a grows less than b does.
func plainLess(a, b, by api.Key) bool {
	return plainAre(a, b, by) && cmpBoth(plainGrows(a, by), plainGrows(b, by)) < 0
}

// plainSeeds has all pairs in their order, and puts those ahead that are apart more; those that are as much apart stay in their order.
func plainSeeds(list []api.Key) (int, int) {
	type pair struct {
		i, k  int
		apart [2]number
	}
	var pairs []pair
	for i, a := range list {
		for k := i + 1; k < len(list); k++ {
			u := plainUnion(a, list[k])
			area := plainArea(u).less(plainArea(a)).less(plainArea(list[k]))
			pairs = append(pairs, pair{i, k, [2]number{area, plainMargin(u)}})
		}
	}
	slices.SortStableFunc(pairs, func(p, q pair) int { return cmpBoth(q.apart, p.apart) })
	return pairs[0].i, pairs[0].k
}

// plainLeast is how many each side has at least.
func plainLeast(n int) int {
	least := 1
	for 5*(least+1) <= 2*n {
		least++
	}
	return least
}

// plainPart says of each place on which side it is; what the sides' unions are is reckoned anew from those at each step.
func plainPart(list []api.Key) ([]int, []int, api.Errno) {
	switch {
	case len(list) < 2 || !plainAre(list...):
		return nil, nil, api.ErrArg
	case len(list) > 64:
		return nil, nil, api.ErrLong
	}
	i, k := plainSeeds(list)
	sides := map[int]string{i: "left", k: "right"}
	places := func(side string) (places []int) {
		for p := range list {
			if sides[p] == side {
				places = append(places, p)
			}
		}
		return places
	}
	union := func(side string) api.Key {
		var boxes []api.Key
		for _, p := range places(side) {
			boxes = append(boxes, list[p])
		}
		return plainUnion(boxes...)
	}
	for p, by := range list {
		if sides[p] != "" {
			continue
		}
		left, right := len(places("left")), len(places("right"))
		short := plainLeast(len(list)) - (len(list) - left - right)
		grows := cmpBoth(plainGrows(union("left"), by), plainGrows(union("right"), by))
		switch {
		case left <= short:
			sides[p] = "left"
		case right <= short:
			sides[p] = "right"
		case grows < 0 || grows == 0 && left <= right:
			sides[p] = "left"
		default:
			sides[p] = "right"
		}
	}
	return places("left"), places("right"), api.OK
}

// box, span and point are keys of the classes.
func box(x0, x1, y0, y1 int64) api.Key {
	return api.Key{X0: x0, X1: x1, Y0: y0, Y1: y1}
}

func span(x0, x1 int64) api.Key {
	return api.Key{X0: x0, X1: x1}
}

func point(x, y int64) api.Key {
	return api.Key{X0: x, X1: x, Y0: y, Y1: y}
}

// grid is all keys whose numbers are from 0 to last, boxes or not.
func grid(last int64) []api.Key {
	var list []api.Key
	for x0 := range last + 1 {
		for x1 := range last + 1 {
			for y0 := range last + 1 {
				for y1 := range last + 1 {
					list = append(list, box(x0, x1, y0, y1))
				}
			}
		}
	}
	return list
}

// boxGrid is the boxes of a grid.
func boxGrid(last int64) []api.Key {
	return slices.DeleteFunc(grid(last), func(k api.Key) bool { return !plainBox(k) })
}

// edges are boxes at the borders of int64, and at 0.
func edges() []api.Key {
	c := []int64{math.MinInt64, math.MinInt64 + 1, -1 << 62, -1, 0, 1, 1 << 32, 1 << 62, math.MaxInt64 - 1, math.MaxInt64}
	var list []api.Key
	for i, x0 := range c {
		for j, x1 := range c[i:] {
			y0, y1 := c[(i*3+j*7)%len(c)], c[(i*5+j*2+3)%len(c)]
			list = append(list, box(x0, x1, min(y0, y1), max(y0, y1)))
		}
	}
	return list
}

// noBoxes are keys that are no boxes.
func noBoxes() []api.Key {
	return []api.Key{
		span(1, 0), {Y0: 1}, {X0: 1, Y0: 1}, {X0: 3, X1: 2, Y0: 5, Y1: 9}, {X0: 2, X1: 3, Y0: 9, Y1: 5}, {X1: -1}, {Y1: -1},
		{X0: math.MaxInt64, X1: math.MinInt64}, {Y0: math.MaxInt64, Y1: math.MinInt64},
		{X0: math.MinInt64 + 1, X1: math.MinInt64}, {Y0: math.MaxInt64, Y1: math.MaxInt64 - 1},
	}
}

// numbers tells numbers all over uint64, one at a call; those of other seeds are others.
func numbers(seed uint64) func() uint64 {
	return func() uint64 {
		x := uint64(0)
		for range 2 {
			seed = seed*6364136223846793005 + 1442695040888963407
			x = x<<32 | seed>>32
		}
		return x
	}
}

// rows tells lists of n boxes all over, one at a call: how far they lie about, and of which class they are, is another one each time.
func rows(seed uint64) func(n int) []api.Key {
	next := numbers(seed)
	return func(n int) []api.Key {
		far := []uint64{2, 3, 4, 8, 20, 1000, 1 << 33, 1 << 63, math.MaxUint64}[next()%9]
		class := next() % 4
		list := make([]api.Key, n)
		for i := range list {
			at := func() int64 { return int64(next()%far - far/2) }
			x0, x1, y0, y1 := at(), at(), at(), at()
			list[i] = box(min(x0, x1), max(x0, x1), min(y0, y1), max(y0, y1))
			switch {
			case class == 1:
				list[i] = span(list[i].X0, list[i].X1)
			case class == 2 || class == 3 && i%2 == 0:
				list[i] = point(x0, y0)
			}
		}
		return list
	}
}
