package key_test

import (
	"slices"
	"testing"

	"gazetteer/api"
	"gazetteer/key"
)

// wantPart wants that a list is parted so.
func wantPart(t *testing.T, l []api.Key, left, right []int) {
	t.Helper()
	p, q, err := key.Part(l)
	if !slices.Equal(p, left) || !slices.Equal(q, right) || err != api.OK {
		t.Errorf("Part(%d): %d, %d, %d; want %d, %d", l, p, q, err, left, right)
	}
}

// wantPlain wants that a list is parted as the chapter's words say.
func wantPlain(t *testing.T, l []api.Key) {
	t.Helper()
	p, q, err := key.Part(l)
	left, right, e := plainPart(l)
	if !slices.Equal(p, left) || !slices.Equal(q, right) || err != e {
		t.Errorf("Part(%d): %d, %d, %d; want %d, %d, %d", l, p, q, err, left, right, e)
	}
}

// spans are points of a line.
func spans(xs ...int64) []api.Key {
	var list []api.Key
	for _, x := range xs {
		list = append(list, span(x, x))
	}
	return list
}

// P9.5: lists that may not be parted: too short, too long, with one that is no box, which goes ahead of too long.
func TestPartWrong(t *testing.T) {
	at := func(n, place int, k api.Key) []api.Key {
		l := make([]api.Key, n)
		l[place] = k
		return l
	}
	for _, c := range []struct {
		l    []api.Key
		want api.Errno
	}{
		{nil, api.ErrArg},
		{[]api.Key{}, api.ErrArg},
		{[]api.Key{{}}, api.ErrArg},
		{[]api.Key{span(1, 0)}, api.ErrArg},
		{at(2, 0, span(1, 0)), api.ErrArg},
		{at(2, 1, span(1, 0)), api.ErrArg},
		{at(2, 1, api.Key{Y0: 1}), api.ErrArg},
		{at(3, 1, api.Key{Y0: 1}), api.ErrArg},
		{at(64, 63, api.Key{Y0: 1}), api.ErrArg},
		{make([]api.Key, 64), api.OK},
		{make([]api.Key, 65), api.ErrLong},
		{make([]api.Key, 1000), api.ErrLong},
		{at(65, 0, span(1, 0)), api.ErrArg},
		{at(65, 64, span(1, 0)), api.ErrArg},
		{at(1000, 999, api.Key{Y0: 1}), api.ErrArg},
	} {
		p, q, err := key.Part(c.l)
		if err != c.want || err != api.OK && (len(p) > 0 || len(q) > 0) {
			t.Errorf("Part of %d: %d, %d, %d; want %d", len(c.l), p, q, err, c.want)
		}
	}
}

// P9.5: the seeds: those whose union has most that neither has; then those of the greatest margin.
func TestSeeds(t *testing.T) {
	// the chapter's: 81, 72, 72 and 63
	wantPart(t, []api.Key{point(0, 0), point(1, 0), point(9, 9), point(8, 9)}, []int{0, 1}, []int{2, 3})
	// two: one goes to each side
	wantPart(t, []api.Key{point(9, 9), point(0, 0)}, []int{0}, []int{1})
	wantPart(t, []api.Key{point(5, 5), point(5, 5)}, []int{0}, []int{1})
	wantPart(t, []api.Key{box(0, 9, 0, 9), point(5, 5)}, []int{0}, []int{1})
	// no area: margins of 5, 4 and 9
	wantPart(t, spans(5, 0, 9), []int{1}, []int{0, 2})
	// the area counts ahead of the margin: 0 and 1 have 0 and 25, 0 and 2 have 40 and 14, 1 and 2 have 60 and 19
	wantPart(t, []api.Key{point(0, 0), point(25, 0), point(10, 4)}, []int{0, 1}, []int{2})
	// of the points 9604; of the box and each point nothing, as its own area is not wasted, be it the first or the second one
	wantPart(t, []api.Key{box(0, 100, 0, 100), point(1, 99), point(99, 1)}, []int{0, 1}, []int{2})
	wantPart(t, []api.Key{point(1, 99), point(99, 1), box(0, 100, 0, 100)}, []int{0, 2}, []int{1})
	// the boxes overlap: their union of 150 is below both areas, which counts as 0, as it does of each with the span; so their margin, the greatest, tells
	wantPart(t, []api.Key{box(6, 9, 0, 0), box(0, 10, 0, 10), box(5, 15, 0, 10)}, []int{0, 1}, []int{2})
	// and not as 2^128 less 50: the point is 300 apart from the first box, 200 from the second one
	wantPart(t, []api.Key{box(0, 10, 0, 10), box(5, 15, 0, 10), point(20, 20)}, []int{0, 1}, []int{2})
}

// P9.5: of several pairs that are as much apart that of the least i is taken, then that of the least k.
func TestSeedsFirst(t *testing.T) {
	// 100 of 0 and 1, and of 1 and 2
	wantPart(t, spans(0, 100, 0), []int{0, 2}, []int{1})
	// 81 of 0 and 1, and of 2 and 3: 2 grows both alike
	wantPart(t, []api.Key{point(0, 0), point(9, 9), point(0, 9), point(9, 0)}, []int{0, 2}, []int{1, 3})
	// 600 and 50 of 0 and 1, and of 0 and 3: were it 3, then 1 would be with it ahead of 2, which then would go there, too
	wantPart(t, []api.Key{point(0, 0), point(30, 20), point(5, 30), point(20, 30)}, []int{0, 2}, []int{1, 3})
	// the same box, as often as may be: by turns
	for n := 2; n <= 64; n++ {
		var sides [2][]int
		for i := range n {
			sides[i%2] = append(sides[i%2], i)
		}
		wantPart(t, slices.Repeat([]api.Key{box(-3, 4, 2, 9)}, n), sides[0], sides[1])
	}
}

// P9.5: each one goes to where the union, as it is by then, grows less, by area, then by margin.
func TestGrowsLess(t *testing.T) {
	// 40 is nearer to 0, and then 60 to what goes from 0 to 40
	wantPart(t, spans(0, 100, 40, 60), []int{0, 2, 3}, []int{1})
	// the same from the other side
	wantPart(t, spans(0, 100, 60, 40), []int{0}, []int{1, 2, 3})
	// those ahead of the seeds, and between them, come in their order, too
	wantPart(t, spans(40, 0, 60, 100), []int{0, 1, 2}, []int{3})
	wantPart(t, spans(60, 0, 40, 100), []int{1}, []int{0, 2, 3})
	// by area: 0 to the left, by a margin of 20; 50 to the right, by a margin of 15
	wantPart(t, []api.Key{point(0, 0), point(30, 5), point(20, 0)}, []int{0, 2}, []int{1})
	// by area 0 to both, as both cover it
	wantPart(t, []api.Key{box(0, 10, 0, 10), box(5, 15, 5, 15), box(6, 9, 6, 9)}, []int{0, 2}, []int{1})
}

// P9.5: one that grows both alike goes to where fewer are, to the left, if both have as many.
func TestGrowsAlike(t *testing.T) {
	// one and one: to the left
	wantPart(t, spans(0, 100, 50), []int{0, 2}, []int{1})
	wantPart(t, spans(100, 0, 50), []int{0, 2}, []int{1})
	// two and one: to the right; one and two: to the left
	wantPart(t, spans(0, 101, 1, 51), []int{0, 2}, []int{1, 3})
	wantPart(t, spans(0, 101, 100, 50), []int{0, 3}, []int{1, 2})
	// all lie in both: by turns, to the left first
	wantPart(t, []api.Key{span(0, 60), span(40, 100), span(50, 50), span(45, 55), span(60, 60), span(40, 60)}, []int{0, 2, 4}, []int{1, 3, 5})
}

// cluster is n keys: one that lies far off, at a place, and all others, which lie near one another.
func cluster(n, place int) []api.Key {
	var list []api.Key
	for i := range n {
		list = append(list, point(int64(i), 0))
	}
	list[place] = point(1000000, 7)
	return list
}

// P9.5: a side that needs all that are left to have two fifths, rounded down, at least one, gets them, and not a moment earlier.
func TestTwoFifths(t *testing.T) {
	wantPart(t, spans(0, 1, 100), []int{0, 1}, []int{2})
	wantPart(t, spans(0, 1, 2, 100), []int{0, 1, 2}, []int{3})
	wantPart(t, spans(0, 1, 2, 3, 100), []int{0, 1, 2}, []int{3, 4})
	wantPart(t, spans(0, 97, 98, 99, 100), []int{0, 3}, []int{1, 2, 4})
	wantPart(t, spans(0, 1, 2, 3, 4, 5, 100), []int{0, 1, 2, 3, 4}, []int{5, 6})
	wantPart(t, spans(0, 1, 2, 3, 4, 5, 6, 100), []int{0, 1, 2, 3, 4}, []int{5, 6, 7})
	wantPart(t, spans(0, 1, 2, 3, 4, 5, 6, 7, 8, 100), []int{0, 1, 2, 3, 4, 5}, []int{6, 7, 8, 9})
	for i, want := range []int{1, 1, 1, 2, 2, 2, 3, 3, 4, 4, 4, 5, 5, 6} {
		n := i + 2
		if p, q, err := key.Part(cluster(n, n-1)); len(p) != n-want || len(q) != want || err != api.OK {
			t.Errorf("of %d %d and %d, %d; want %d on the right", n, len(p), len(q), err, want)
		}
	}
	for n := 2; n <= 64; n++ {
		least := max(1, 2*n/5)
		all := make([]int, n)
		for i := range all {
			all[i] = i
		}
		// the last one lies far off: it is the second seed, and those right ahead of it go with it
		wantPart(t, cluster(n, n-1), all[:n-least], all[n-least:])
		// the first one lies far off, and is the first seed; of the others the second one is farthest from it: the last ones go with the first one
		if n > 2 {
			wantPart(t, cluster(n, 0), append([]int{0}, all[n-least+1:]...), all[1:n-least+1])
		}
	}
}

// P9.5: as many as may be parted, at the ends of int64, where areas need 128 bits.
func TestPartFar(t *testing.T) {
	corners := []api.Key{point(least, least), point(most, most), point(least, most), point(most, least)}
	wantPart(t, corners, []int{0, 2}, []int{1, 3})
	// all between 0 and 3 is one column more than all between 0 and 1; what lies in the middle is one place nearer to the one corner, or to the other one
	wantPart(t, []api.Key{point(least, least), point(most-1, most), point(-1, -1), point(most, most)}, []int{0, 2}, []int{1, 3})
	wantPart(t, []api.Key{point(least, least), point(most-1, most), point(0, 0), point(most, most)}, []int{0}, []int{1, 2, 3})
	wantPart(t, []api.Key{point(most-1, most), point(most, most), point(-2, -2), point(least, least)}, []int{0, 1}, []int{2, 3})
	all := box(least, most, least, most)
	wantPart(t, []api.Key{all, all, all, point(0, 0)}, []int{0, 2}, []int{1, 3})
	l := slices.Repeat(corners, 16)
	wantPlain(t, l)
	p, q, _ := key.Part(l)
	if len(p) != 32 || len(q) != 32 {
		t.Errorf("%d and %d", len(p), len(q))
	}
}

// P9.5: all short lists of the boxes of small grids, against the chapter's words.
func TestPartShortPlain(t *testing.T) {
	var all func(l []api.Key, n int, of []api.Key)
	all = func(l []api.Key, n int, of []api.Key) {
		if len(l) == n {
			wantPlain(t, l)
			return
		}
		for _, k := range of {
			all(append(l, k), n, of)
		}
	}
	all(nil, 2, append(noBoxes(), boxGrid(3)...))
	all(nil, 3, boxGrid(2))
	all(nil, 4, boxGrid(1))
	all(nil, 5, boxGrid(1))
	all(nil, 6, spans(0, 1, 2, 4))
	all(nil, 5, spans(0, 1, 3, 4, 7))
}

// P9.5: lists of each length of boxes all over, against the chapter's words.
func TestPartPlain(t *testing.T) {
	next := rows(4)
	for n := range 70 {
		for range 40 {
			wantPlain(t, next(n))
		}
	}
	for i := range 20000 {
		wantPlain(t, next(2+i%9))
	}
}
