package key_test

import (
	"slices"
	"testing"

	"gazetteer/api"
	"gazetteer/key"
)

// R1, R2: no call panics, whatever it is given, and beside an error there is nothing.
func TestWhateverIsGiven(t *testing.T) {
	all := slices.Concat(edges(), noBoxes(), grid(1))
	for i, a := range all {
		for j, b := range all {
			c := all[(3*i+5*j)%len(all)]
			key.Check(i-j, a)
			key.Meets(a, b)
			key.Covers(a, b)
			key.Union(a, b)
			key.Grows(a, b)
			key.Less(a, b, c)
			l := []api.Key{a, b, c}
			if bound, err := key.Bound(l); err != api.OK && bound != (api.Key{}) {
				t.Errorf("Bound(%d): %d, %d", l, bound, err)
			}
			if left, right, err := key.Part(l); err != api.OK && (len(left) > 0 || len(right) > 0) {
				t.Errorf("Part(%d): %d, %d, %d", l, left, right, err)
			}
		}
	}
}

// R3: a list that is handed in is as it was, and the room behind its end, whether it is taken or refused.
func TestWhatIsGivenStays(t *testing.T) {
	next := rows(8)
	for n := range 70 {
		for _, last := range append(noBoxes()[:1], box(-1, 2, -3, 4)) {
			whole := append(next(n), last, point(7, 8), span(9, 1))
			was := slices.Clone(whole)
			for _, l := range [][]api.Key{whole[:n], whole[:n+1]} {
				key.Bound(l)
				key.Part(l)
			}
			if !slices.Equal(whole, was) {
				t.Fatalf("a list of %d is changed, or the room behind it", n)
			}
		}
	}
}

// R3: what Part answers is new memory: neither list shares with the other one, nor with what is answered again, the room behind their ends neither.
func TestPlacesAreNew(t *testing.T) {
	next := rows(9)
	for n := 2; n <= 64; n++ {
		l := next(n)
		left, right, _ := key.Part(l)
		p, q, _ := key.Part(l)
		wantLeft, wantRight := slices.Clone(left), slices.Clone(right)
		clear(p[:cap(p)])
		if !slices.Equal(right, wantRight) || !slices.Equal(q, wantRight) || !slices.Equal(left, wantLeft) {
			t.Fatalf("Part of %d: the left list shares memory", n)
		}
		clear(right[:cap(right)])
		if !slices.Equal(q, wantRight) || !slices.Equal(left, wantLeft) {
			t.Fatalf("Part of %d: the right list shares memory", n)
		}
		clear(l)
		if !slices.Equal(left, wantLeft) {
			t.Fatalf("Part of %d keeps what it was given", n)
		}
	}
}

// R5: calls leave nothing behind for later ones.
func TestCallsStandAlone(t *testing.T) {
	next := rows(10)
	l := next(40)
	left, right, _ := key.Part(l)
	bound, _ := key.Bound(l)
	area, margin := key.Grows(l[0], l[1])
	union, less := key.Union(l[2], l[3]), key.Less(l[4], l[5], l[6])
	for i := range 50 {
		key.Part(next(2 + i))
		key.Part(append(next(i), noBoxes()...))
		key.Bound(next(i))
		key.Less(noBoxes()[0], l[5], l[6])
		p, q, _ := key.Part(l)
		again, _ := key.Bound(l)
		a, m := key.Grows(l[0], l[1])
		if !slices.Equal(p, left) || !slices.Equal(q, right) || again != bound || a != area || m != margin || key.Union(l[2], l[3]) != union || key.Less(l[4], l[5], l[6]) != less {
			t.Fatal("a call is answered otherwise when it comes again")
		}
	}
}
