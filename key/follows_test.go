package key_test

import (
	"slices"
	"testing"

	"gazetteer/api"
	"gazetteer/key"
)

// threes goes through all three of each other of a grid, of edges, and of lists all over.
func threes(yield func(a, b, c api.Key) bool) {
	lists := [][]api.Key{boxGrid(2), edges()[:30], edges()[25:]}
	next := rows(5)
	for range 300 {
		lists = append(lists, next(6))
	}
	for _, list := range lists {
		for _, a := range list {
			for _, b := range list {
				for _, c := range list {
					if !yield(a, b, c) {
						return
					}
				}
			}
		}
	}
}

// P9.6: the union covers both, and whatever covers both covers it.
func TestUnionIsTheLeast(t *testing.T) {
	told := 0
	for a, b := range twos() {
		if u := key.Union(a, b); !key.Covers(u, a) || !key.Covers(u, b) {
			t.Errorf("the union of %d and %d: %d", a, b, u)
		}
	}
	threes(func(a, b, c api.Key) bool {
		if key.Covers(c, a) && key.Covers(c, b) {
			told++
			if !key.Covers(c, key.Union(a, b)) {
				t.Errorf("%d covers %d and %d, and not their union", c, a, b)
			}
		}
		return true
	})
	if told < 5000 {
		t.Errorf("%d cover both", told)
	}
}

// twos is all pairs that stand first in threes.
func twos() func(yield func(a, b api.Key) bool) {
	return func(yield func(a, b api.Key) bool) {
		last := [2]api.Key{}
		threes(func(a, b, c api.Key) bool {
			if last == [2]api.Key{a, b} {
				return true
			}
			last = [2]api.Key{a, b}
			return yield(a, b)
		})
	}
}

// P9.6: what meets a box that another one covers meets that.
func TestMeetsWhatCovers(t *testing.T) {
	told := 0
	threes(func(a, b, c api.Key) bool {
		if key.Covers(a, b) && key.Meets(c, b) {
			told++
			if !key.Meets(c, a) || !key.Meets(a, c) {
				t.Errorf("%d meets %d, and not %d, which covers that", c, b, a)
			}
		}
		return true
	})
	if told < 5000 {
		t.Errorf("%d meet one that is covered", told)
	}
}

// P9.6: growing by what is covered is nothing, and so is not less than anything else.
func TestGrowsByNothing(t *testing.T) {
	told := 0
	for a, b := range twos() {
		if !key.Covers(a, b) {
			continue
		}
		told++
		if area, margin := key.Grows(a, b); area != (api.Wide{}) || margin != (api.Wide{}) {
			t.Errorf("%d covers %d, and grows by %x, %x", a, b, area, margin)
		}
		for _, c := range edges() {
			if key.Less(c, a, b) {
				t.Errorf("%d grows less than %d, which covers %d", c, a, b)
			}
		}
	}
	if told < 1000 {
		t.Errorf("%d are covered", told)
	}
}

// P9.3, P9.6: the union of a list covers each one of it, does not hang on their order, and is that of the unions of any two pieces.
func TestBoundIsTheUnion(t *testing.T) {
	next := rows(6)
	for i := range 2000 {
		l := next(2 + i%20)
		bound, _ := key.Bound(l)
		for _, k := range l {
			if !key.Covers(bound, k) {
				t.Errorf("the union of %d: %d", l, bound)
			}
		}
		cut := 1 + i%(len(l)-1)
		first, _ := key.Bound(l[:cut])
		second, _ := key.Bound(l[cut:])
		slices.Reverse(l)
		if again, _ := key.Bound(l); again != bound || key.Union(first, second) != bound {
			t.Errorf("the union of %d: %d, the other way round %d, of pieces %d", l, bound, again, key.Union(first, second))
		}
	}
}

// P9.5, P9.6: each place stands once, on one side, rising; each side has at least two fifths, rounded down, and one.
func TestPartHasAll(t *testing.T) {
	next := rows(7)
	for i := range 6000 {
		l := next(2 + i%63)
		left, right, err := key.Part(l)
		if err != api.OK {
			t.Fatalf("Part of %d: %d", len(l), err)
		}
		if !slices.IsSorted(left) || !slices.IsSorted(right) {
			t.Errorf("Part(%d): %d, %d", l, left, right)
		}
		all := slices.Concat(left, right)
		slices.Sort(all)
		for p := range l {
			if len(all) != len(l) || all[p] != p {
				t.Fatalf("Part(%d): %d, %d", l, left, right)
			}
		}
		if few := min(len(left), len(right)); few < 1 || few < 2*len(l)/5 {
			t.Errorf("Part of %d: %d and %d", len(l), len(left), len(right))
		}
	}
}
