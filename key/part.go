package key

import (
	"slices"

	"gazetteer/api"
	"gazetteer/wide"
)

// side is one of the two lists into which a list is parted: its places, and the union of what stands there.
type side struct {
	places []int
	union  api.Key
}

// take puts a place, and the key there, on the side.
func (s *side) take(place int, k api.Key) {
	s.places = append(s.places, place)
	s.union = Union(s.union, k)
}

// Part: P9.5.
func Part(l []api.Key) ([]int, []int, api.Errno) {
	if len(l) < 2 || !boxes(l...) {
		return nil, nil, api.ErrArg
	}
	if len(l) > api.MaxKeys {
		return nil, nil, api.ErrLong
	}
	left, right := parted(l)
	slices.Sort(left)
	slices.Sort(right)
	return left, right, api.OK
}

// parted is the places on the left, and on the right, in the order in which they came there. What a side has and what is open falls by at most one a key, and begins at the least or above: so it is asked whether it is just that. Both sides are never short at once, as twice two fifths are not all.
func parted(l []api.Key) ([]int, []int) {
	i, k := seeds(l)
	left, right := side{[]int{i}, l[i]}, side{[]int{k}, l[k]}
	least := max(1, 2*len(l)/5)
	goes := func(by api.Key) *side {
		open := len(l) - len(left.places) - len(right.places)
		switch {
		case len(left.places)+open == least:
			return &left
		case len(right.places)+open == least:
			return &right
		case Less(left.union, right.union, by):
			return &left
		case Less(right.union, left.union, by):
			return &right
		case len(right.places) < len(left.places):
			return &right
		}
		return &left
	}
	for place, by := range l {
		if place != i && place != k {
			goes(by).take(place, by)
		}
	}
	return left.places, right.places
}

// seeds is the places of the two with which to begin. A pair counts only if it is above the best one ahead of it; so the first of several stays, and the first pair of all, where none is above 0.
func seeds(l []api.Key) (int, int) {
	left, right := 0, 1
	best := [2]api.Wide{}
	for i := range l {
	pairs:
		for k := i + 1; k < len(l); k++ {
			found := apart(l[i], l[k])
			for n, x := range found {
				switch wide.Cmp(x, best[n]) {
				case 1:
					left, right, best = i, k, found
					continue pairs
				case -1:
					continue pairs
				}
			}
		}
	}
	return left, right
}

// apart is how much two boxes are apart: what the area of their union is above both of theirs, and then its margin.
func apart(a, b api.Key) [2]api.Wide {
	union := Union(a, b)
	area := above(above(wide.Area(union), wide.Area(a)), wide.Area(b))
	return [2]api.Wide{area, wide.Margin(union)}
}

// above is how much a is above b: 0, if it is not.
func above(a, b api.Wide) api.Wide {
	difference, whole := wide.Sub(a, b)
	if !whole {
		return api.Wide{}
	}
	return difference
}
