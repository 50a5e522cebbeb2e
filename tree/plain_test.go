package tree_test

import (
	"fmt"
	"math"
	"math/big"
	"slices"
	"testing"

	"gazetteer/api"
	"gazetteer/key"
	"gazetteer/tree"
)

const (
	least, most = math.MinInt64, math.MaxInt64
	topId       = math.MaxUint32 // the greatest Id, and row, that there may be
	topCount    = math.MaxUint64 // the greatest Count
)

// The tests hold tree against a plain reading of the chapter, in which nodes stand within one another, Keys are told anew of all rows below, and whatever is looked for is looked for everywhere.

// limb is a node, and what stands below it: rows, if it is a leaf, else limbs.
type limb struct {
	id    uint32
	seal  uint64
	right uint32
	leaf  bool
	rows  []api.Link
	limbs []*limb
}

// plain is a tree; full says that a split did not find a Count or an Id.
type plain struct {
	root  *limb
	count uint64
	full  bool
}

// size is how many entries a limb has.
func (l *limb) size() int {
	return len(l.rows) + len(l.limbs)
}

// all is a limb and those below it.
func (l *limb) all() []*limb {
	list := []*limb{l}
	for _, below := range l.limbs {
		list = append(list, below.all()...)
	}
	return list
}

// links is all rows at and below a limb.
func (l *limb) links() []api.Link {
	list := slices.Clone(l.rows)
	for _, below := range l.limbs {
		list = append(list, below.links()...)
	}
	return list
}

// key goes from the least border of all rows below to the greatest one.
func (l *limb) key() api.Key {
	var xs, ys []int64
	for _, e := range l.links() {
		xs = append(xs, e.Key.X0, e.Key.X1)
		ys = append(ys, e.Key.Y0, e.Key.Y1)
	}
	return box(slices.Min(xs), slices.Max(xs), slices.Min(ys), slices.Max(ys))
}

// entries is those of the node that a limb is.
func (l *limb) entries() []api.Link {
	list := slices.Clone(l.rows)
	for _, below := range l.limbs {
		list = append(list, api.Link{Key: below.key(), Child: below.id})
	}
	return list
}

// ids is the Ids of limbs, rising.
func ids(list []*limb) []uint32 {
	var all []uint32
	for _, l := range list {
		all = append(all, l.id)
	}
	slices.Sort(all)
	return all
}

// tree is the tree that p is.
func (p plain) tree() api.Tree {
	t := api.Tree{Root: p.root.id, Count: p.count}
	for _, l := range p.root.all() {
		t.Nodes = append(t.Nodes, api.Node{Id: l.id, Leaf: l.leaf, Entries: l.entries(), Seal: l.seal, Right: l.right})
	}
	slices.SortFunc(t.Nodes, func(m, n api.Node) int { return int(m.Id) - int(n.Id) })
	return t
}

// of is the plain tree that a tree is, which may be.
func of(t api.Tree) plain {
	return plain{root: limbOf(t, t.Root), count: t.Count}
}

func limbOf(t api.Tree, id uint32) *limb {
	n := nodeOf(t, id)
	l := &limb{id: id, seal: n.Seal, right: n.Right, leaf: n.Leaf}
	for _, e := range n.Entries {
		if n.Leaf {
			l.rows = append(l.rows, e)
		} else {
			l.limbs = append(l.limbs, limbOf(t, e.Child))
		}
	}
	return l
}

// nodeOf is the node with an Id; nil, if there is none.
func nodeOf(t api.Tree, id uint32) *api.Node {
	for i := range t.Nodes {
		if t.Nodes[i].Id == id {
			return &t.Nodes[i]
		}
	}
	return nil
}

// top is the greatest Id.
func (p plain) top() uint32 {
	return slices.Max(ids(p.root.all()))
}

// grows is how much a box grows by another one: by area, and by margin.
func grows(a, by api.Key) [2]*big.Int {
	size := func(k api.Key) (area, margin *big.Int) {
		wide := func(lo, hi int64) *big.Int { return new(big.Int).Sub(big.NewInt(hi), big.NewInt(lo)) }
		x, y := wide(k.X0, k.X1), wide(k.Y0, k.Y1)
		return new(big.Int).Mul(x, y), new(big.Int).Add(x, y)
	}
	area, margin := size(box(min(a.X0, by.X0), max(a.X1, by.X1), min(a.Y0, by.Y0), max(a.Y1, by.Y1)))
	ownArea, ownMargin := size(a)
	return [2]*big.Int{area.Sub(area, ownArea), margin.Sub(margin, ownMargin)}
}

// best is the place of the limb below that grows least by a key, and of several the first one.
func (l *limb) best(k api.Key) int {
	var places []int
	for i := range l.limbs {
		places = append(places, i)
	}
	slices.SortStableFunc(places, func(i, j int) int {
		a, b := grows(l.limbs[i].key(), k), grows(l.limbs[j].key(), k)
		if c := a[0].Cmp(b[0]); c != 0 {
			return c
		}
		return a[1].Cmp(b[1])
	})
	return places[0]
}

// way is what Leaf tells.
func (p plain) way(k api.Key) []uint32 {
	l, way := p.root, []uint32{p.root.id}
	for !l.leaf {
		l = l.limbs[l.best(k)]
		way = append(way, l.id)
	}
	return way
}

// put is Put's answers; p is the tree behind it, if there is no error.
func (p *plain) put(row uint32, k api.Key) ([]api.Split, api.Errno) {
	switch {
	case row == 0 || k.X0 > k.X1 || k.Y0 > k.Y1:
		return nil, api.ErrArg
	case slices.ContainsFunc(p.root.links(), func(e api.Link) bool { return e.Child == row }):
		return nil, api.ErrThere
	}
	var splits []api.Split
	if right := p.into(p.root, api.Link{Key: k, Child: row}, &splits); right != nil {
		p.root = &limb{id: max(p.top(), right.id) + 1, seal: p.count, limbs: []*limb{p.root, right}}
		splits[len(splits)-1].Root = true
	}
	if p.full || len(p.root.all()) > 512 || len(p.way(k)) > 12 {
		return nil, api.ErrFull
	}
	return splits, api.OK
}

// into puts an entry in at or below a limb, and is the limb that came of a split of that.
func (p *plain) into(l *limb, e api.Link, splits *[]api.Split) *limb {
	if l.leaf {
		l.rows = append(l.rows, e)
	} else {
		at := l.best(e.Key)
		if right := p.into(l.limbs[at], e, splits); right != nil {
			l.limbs = slices.Insert(l.limbs, at+1, right)
		}
	}
	if l.size() <= 4 {
		return nil
	}
	if p.count == topCount || p.top() > 4294967293 {
		p.full = true
		return nil
	}
	var keys []api.Key
	for _, e := range l.entries() {
		keys = append(keys, e.Key)
	}
	p.count++
	right := &limb{id: p.top() + 1, seal: p.count, right: l.right, leaf: l.leaf}
	*splits = append(*splits, api.Split{Old: l.id, New: right.id})
	left, _, _ := key.Part(keys)
	rows, limbs := l.rows, l.limbs
	l.seal, l.right, l.rows, l.limbs = p.count, right.id, nil, nil
	for i := range keys {
		to := right
		if slices.Contains(left, i) {
			to = l
		}
		if l.leaf {
			to.rows = append(to.rows, rows[i])
		} else {
			to.limbs = append(to.limbs, limbs[i])
		}
	}
	return right
}

// take is Take's answers; p is the tree behind it, if there is no error. Those went of which it is said, and those that are not there any more.
func (p *plain) take(row uint32) ([]uint32, api.Errno) {
	if !slices.ContainsFunc(p.root.links(), func(e api.Link) bool { return e.Child == row }) {
		return nil, api.ErrNone
	}
	before := ids(p.root.all())
	out := p.root.out(row)
	for _, gone := range out {
		for _, l := range p.root.all() {
			if l.right == gone.id {
				l.right = gone.right
			}
		}
	}
	for len(p.root.limbs) == 1 {
		p.root = p.root.limbs[0]
	}
	if p.root.size() == 0 && !p.root.leaf {
		p.root = &limb{id: 1, leaf: true}
	}
	said, after := ids(out), ids(p.root.all())
	return slices.DeleteFunc(before, func(id uint32) bool {
		return slices.Contains(after, id) && !slices.Contains(said, id)
	}), api.OK
}

// out takes a row out at or below a limb, and is the limbs below it that have nothing then, which go.
func (l *limb) out(row uint32) []*limb {
	var gone []*limb
	l.rows = slices.DeleteFunc(l.rows, func(e api.Link) bool { return e.Child == row })
	for _, below := range slices.Clone(l.limbs) {
		gone = append(gone, below.out(row)...)
		if below.size() == 0 {
			gone = append(gone, below)
			l.limbs = slices.DeleteFunc(l.limbs, func(x *limb) bool { return x == below })
		}
	}
	return gone
}

// mayBe tells whether a tree may be, clause by clause.
func mayBe(t api.Tree) bool {
	if len(t.Nodes) > 512 || nodeOf(t, t.Root) == nil {
		return false
	}
	depths := map[uint32]int{}
	if !reached(t, t.Root, 1, depths) || len(depths) != len(t.Nodes) {
		return false
	}
	deep := 0
	rows := map[uint32]bool{}
	for i, n := range t.Nodes {
		if n.Id == 0 || i > 0 && t.Nodes[i-1].Id >= n.Id || n.Seal > t.Count {
			return false
		}
		if len(n.Entries) > 4 || len(n.Entries) == 0 && !(n.Leaf && n.Id == t.Root) {
			return false
		}
		if n.Leaf {
			if deep != 0 && deep != depths[n.Id] {
				return false
			}
			deep = depths[n.Id]
		}
		for _, e := range n.Entries {
			if n.Leaf && (rows[e.Child] || e.Child == 0) || e.Key.X0 > e.Key.X1 || e.Key.Y0 > e.Key.Y1 {
				return false
			}
			if n.Leaf {
				rows[e.Child] = true
			} else if bound, err := key.Bound(keysOf(nodeOf(t, e.Child).Entries)); err != api.OK || bound != e.Key {
				return false
			}
		}
		at := n.Right
		for steps := 0; at != 0; steps++ {
			if steps > 600 || depths[at] != depths[n.Id] {
				return false
			}
			at = nodeOf(t, at).Right
		}
	}
	return true
}

// reached tells whether what is at and below an Id is there, just once, and not too deep; depths is what was reached.
func reached(t api.Tree, id uint32, depth int, depths map[uint32]int) bool {
	n := nodeOf(t, id)
	if n == nil || depths[id] != 0 || depth > 12 {
		return false
	}
	depths[id] = depth
	return n.Leaf || !slices.ContainsFunc(n.Entries, func(e api.Link) bool { return !reached(t, e.Child, depth+1, depths) })
}

// keysOf is the Keys of entries.
func keysOf(l []api.Link) []api.Key {
	var keys []api.Key
	for _, e := range l {
		keys = append(keys, e.Key)
	}
	return keys
}

// meets tells whether two boxes have a point in common.
func meets(a, b api.Key) bool {
	return a.X0 <= b.X1 && b.X0 <= a.X1 && a.Y0 <= b.Y1 && b.Y0 <= a.Y1
}

// found is the rows of a tree that meet a window, rising.
func found(t api.Tree, window api.Key) []uint32 {
	var rows []uint32
	for _, n := range t.Nodes {
		for _, e := range n.Entries {
			if n.Leaf && meets(e.Key, window) {
				rows = append(rows, e.Child)
			}
		}
	}
	slices.Sort(rows)
	return rows
}

// links is the entries of all leaves, by rising rows.
func links(t api.Tree) []api.Link {
	var l []api.Link
	for _, n := range t.Nodes {
		if n.Leaf {
			l = append(l, n.Entries...)
		}
	}
	slices.SortFunc(l, func(a, b api.Link) int { return int(a.Child) - int(b.Child) })
	return l
}

// text is all of what stands in something; nil and empty lists are the same in it.
func text(x any) string {
	return fmt.Sprintf("%+v", x)
}

// wantTree wants that a tree is another one, in all its fields.
func wantTree(t *testing.T, what string, got, want api.Tree) {
	t.Helper()
	if text(got) != text(want) {
		t.Fatalf("%s:\n%+v; want\n%+v", what, got, want)
	}
}

// wantPut wants of Put what the chapter's words say, and is the tree behind it, or x itself.
func wantPut(t *testing.T, x api.Tree, row uint32, k api.Key) api.Tree {
	t.Helper()
	p := of(x)
	wantSplits, wantErr := p.put(row, k)
	want := api.Tree{}
	if wantErr == api.OK {
		want = p.tree()
	}
	y, splits, err := tree.Put(x, row, k)
	if err != wantErr || !slices.Equal(splits, wantSplits) {
		t.Fatalf("Put(%d, %v) into %+v: %v, error %d; want %v, error %d", row, k, x, splits, err, wantSplits, wantErr)
	}
	wantTree(t, fmt.Sprintf("Put(%d, %v) into %+v", row, k, x), y, want)
	if err != api.OK {
		return x
	}
	return y
}

// wantTake wants of Take what the chapter's words say, and is the tree behind it, or x itself.
func wantTake(t *testing.T, x api.Tree, row uint32) api.Tree {
	t.Helper()
	p := of(x)
	wantGone, wantErr := p.take(row)
	want := api.Tree{}
	if wantErr == api.OK {
		want = p.tree()
	}
	y, gone, err := tree.Take(x, row)
	if err != wantErr || !slices.Equal(gone, wantGone) {
		t.Fatalf("Take(%d) of %+v: %v, error %d; want %v, error %d", row, x, gone, err, wantGone, wantErr)
	}
	wantTree(t, fmt.Sprintf("Take(%d) of %+v", row, x), y, want)
	if err != api.OK {
		return x
	}
	return y
}

// wantTold wants of the calls that tell of a tree what the chapter's words say.
func wantTold(t *testing.T, x api.Tree, k api.Key, row uint32) {
	t.Helper()
	if rows, err := tree.Find(x, k); err != api.OK || !slices.Equal(rows, found(x, k)) {
		t.Fatalf("Find(%v) of %+v: %v, error %d; want %v", k, x, rows, err, found(x, k))
	}
	if way, err := tree.Leaf(x, k); err != api.OK || !slices.Equal(way, of(x).way(k)) {
		t.Fatalf("Leaf(%v) of %+v: %v, error %d; want %v", k, x, way, err, of(x).way(k))
	}
	want, wantErr := api.Key{}, api.ErrNone
	for _, e := range links(x) {
		if e.Child == row {
			want, wantErr = e.Key, api.OK
		}
	}
	if got, err := tree.Row(x, row); err != wantErr || got != want {
		t.Fatalf("Row(%d) of %+v: %v, error %d; want %v, error %d", row, x, got, err, want, wantErr)
	}
}

// wantCheck wants of a tree that Check says whether it may be, and, if it may not, that all calls do.
func wantCheck(t *testing.T, what string, x api.Tree, want api.Errno) {
	t.Helper()
	if err := tree.Check(x); err != want {
		t.Fatalf("%s: Check of %+v: error %d; want %d", what, x, err, want)
	}
	if (want == api.OK) != mayBe(x) {
		t.Fatalf("%s: the chapter's words say otherwise of %+v", what, x)
	}
	if want == api.OK {
		return
	}
	for _, k := range []api.Key{{}, {X0: 1}} {
		for _, row := range []uint32{0, 1, 5} {
			rows, e1 := tree.Find(x, k)
			way, e2 := tree.Leaf(x, k)
			y, splits, e3 := tree.Put(x, row, k)
			z, gone, e4 := tree.Take(x, row)
			of, e5 := tree.Row(x, row)
			if errs := []api.Errno{e1, e2, e3, e4, e5}; !slices.Equal(errs, []api.Errno{want, want, want, want, want}) {
				t.Fatalf("%s: Find, Leaf, Put, Take, Row of %+v: errors %v", what, x, errs)
			}
			if len(rows)+len(way)+len(splits)+len(gone) != 0 || text(y)+text(z) != text(api.Tree{})+text(api.Tree{}) || of != (api.Key{}) {
				t.Fatalf("%s: %+v is refused, and something told beside it", what, x)
			}
		}
	}
}
