package cursor_test

import (
	"slices"
	"testing"

	"gazetteer/api"
	"gazetteer/cursor"
	"gazetteer/tree"
)

// wantCursor wants that a cursor is another one, and that there is no error.
func wantCursor(t *testing.T, what string, got api.Cursor, err api.Errno, want api.Cursor) {
	t.Helper()
	if err != api.OK || text(got) != text(want) {
		t.Fatalf("%s:\n%+v, error %d; want\n%+v", what, got, err, want)
	}
}

// sample is a cursor with something in all of its fields.
func sample() api.Cursor {
	return api.Cursor{Window: box(0, 9, 0, 9), Open: []api.Seen{{Id: 3, Count: 1}, {Id: 2}}, Rows: []uint32{1, 4}}
}

// P13.1: what a cursor may be.
func TestCheck(t *testing.T) {
	for what, c := range map[string]api.Cursor{
		"zero":                      {},
		"one of all":                sample(),
		"all numbers at their ends": {Window: wide, Open: []api.Seen{{Id: topId, Count: topCount}}, Rows: []uint32{1, topId}},
		"points at the ends":        {Window: box(least, least, most, most)},
		"one Id twice":              {Open: []api.Seen{{Id: 4}, {Id: 4}, {Id: 1, Count: 3}}},
		"Ids that fall":             {Open: []api.Seen{{Id: 5}, {Id: 4}}},
		"127 open":                  {Open: others(127)},
		"128 open":                  {Open: others(128)},
		"row 1 alone":               {Rows: []uint32{1}},
		"rows side by side":         {Rows: []uint32{topId - 1, topId}},
	} {
		wantCheck(t, what, c, api.OK)
	}
	for what, change := range map[string]func(c *api.Cursor){
		"X0 above X1":        func(c *api.Cursor) { c.Window.X0 = 10 },
		"Y0 above Y1":        func(c *api.Cursor) { c.Window.Y0 = 10 },
		"X at both ends":     func(c *api.Cursor) { c.Window = box(most, least, 0, 0) },
		"Y at both ends":     func(c *api.Cursor) { c.Window = box(0, 0, most, least) },
		"the first Id 0":     func(c *api.Cursor) { c.Open[0].Id = 0 },
		"the last Id 0":      func(c *api.Cursor) { c.Open[1].Id = 0 },
		"all zero":           func(c *api.Cursor) { c.Open[0] = api.Seen{} },
		"129 open":           func(c *api.Cursor) { c.Open = others(129) },
		"the 129th Id 0":     func(c *api.Cursor) { c.Open = append(others(128), api.Seen{}) },
		"1000000 open":       func(c *api.Cursor) { c.Open = others(1000000) },
		"row 0":              func(c *api.Cursor) { c.Rows = []uint32{0} },
		"row 0 ahead":        func(c *api.Cursor) { c.Rows = []uint32{0, 1} },
		"row 0 behind":       func(c *api.Cursor) { c.Rows = []uint32{1, 0} },
		"a row twice":        func(c *api.Cursor) { c.Rows = []uint32{4, 4} },
		"the last row twice": func(c *api.Cursor) { c.Rows = []uint32{1, 4, topId, topId} },
		"rows that fall":     func(c *api.Cursor) { c.Rows = []uint32{4, 1} },
		"one that falls":     func(c *api.Cursor) { c.Rows = []uint32{1, 2, 6, 5, 7} },
	} {
		c := sample()
		change(&c)
		wantCheck(t, what, c, api.ErrCursor)
		c.Open = nil
		if !mayBe(c) {
			wantCheck(t, what+", over", c, api.ErrCursor)
		}
	}
}

// P13.1: a cursor is over, if nothing is open.
func TestOver(t *testing.T) {
	for what, c := range map[string]api.Cursor{"zero": {}, "an empty list": {Open: []api.Seen{}}, "with rows": {Window: wide, Rows: []uint32{1}}} {
		if !cursor.Over(c) {
			t.Errorf("%s: not over", what)
		}
	}
	for what, c := range map[string]api.Cursor{"one": {Open: others(1)}, "128": {Open: others(128)}, "an Id that no tree has": {Open: []api.Seen{{Id: topId}}}, "all": sample()} {
		if cursor.Over(c) {
			t.Errorf("%s: over", what)
		}
	}
}

// P13.1: cursors are the same, if all of their fields are; nil and empty lists are.
func TestSame(t *testing.T) {
	wantSame := func(what string, a, b api.Cursor, want bool) {
		t.Helper()
		if cursor.Same(a, b) != want || cursor.Same(b, a) != want {
			t.Errorf("Same, %s: %v; want %v", what, !want, want)
		}
	}
	wantSame("nothing", api.Cursor{}, api.Cursor{}, true)
	wantSame("empty lists", api.Cursor{Open: []api.Seen{}, Rows: []uint32{}}, api.Cursor{}, true)
	wantSame("all", sample(), sample(), true)
	for what, change := range map[string]func(c *api.Cursor){
		"X0":          func(c *api.Cursor) { c.Window.X0-- },
		"X1":          func(c *api.Cursor) { c.Window.X1++ },
		"Y0":          func(c *api.Cursor) { c.Window.Y0-- },
		"Y1":          func(c *api.Cursor) { c.Window.Y1++ },
		"an Id":       func(c *api.Cursor) { c.Open[1].Id++ },
		"a Count":     func(c *api.Cursor) { c.Open[0].Count-- },
		"one more":    func(c *api.Cursor) { c.Open = append(c.Open, api.Seen{}) },
		"one fewer":   func(c *api.Cursor) { c.Open = c.Open[:1] },
		"none open":   func(c *api.Cursor) { c.Open = nil },
		"other order": func(c *api.Cursor) { slices.Reverse(c.Open) },
		"a row":       func(c *api.Cursor) { c.Rows[1]++ },
		"a row more":  func(c *api.Cursor) { c.Rows = append(c.Rows, 0) },
		"a row fewer": func(c *api.Cursor) { c.Rows = c.Rows[1:] },
		"no rows":     func(c *api.Cursor) { c.Rows = nil },
		"rows turned": func(c *api.Cursor) { slices.Reverse(c.Rows) },
	} {
		c := sample()
		change(&c)
		wantSame(what, sample(), c, false)
		wantSame(what, c, c, true)
	}
}

// P13.2: the root is open, with the tree's Count, and nothing is found.
func TestStart(t *testing.T) {
	for _, window := range []api.Key{box(0, 9, 0, 9), wide, {}, at(least, most), at(-70, -70)} {
		for _, x := range []api.Tree{tree.Empty(), four(), five(), row(60), fan(4), with(fan(2), 1, 5, 2), {Nodes: []api.Node{{Id: topId, Leaf: true, Seal: 3}}, Root: topId, Count: topCount}} {
			c, err := cursor.Start(x, window)
			wantCursor(t, "Start", c, err, api.Cursor{Window: window, Open: []api.Seen{{Id: x.Root, Count: x.Count}}})
			wantCheck(t, "a cursor that has begun", c, api.OK)
		}
	}
	for _, window := range []api.Key{{X0: 1}, {Y0: 1}, {X1: -1}, {Y1: -1}, box(most, least, 0, 0), box(0, 0, most, least)} {
		if c, err := cursor.Start(five(), window); err != api.ErrArg || text(c) != text(api.Cursor{}) {
			t.Errorf("Start of %v: %+v, error %d", window, c, err)
		}
		if c, err := cursor.Start(api.Tree{}, window); err != api.ErrTree || text(c) != text(api.Cursor{}) {
			t.Errorf("Start of %v with no tree: %+v, error %d", window, c, err)
		}
	}
}

// run goes on with a cursor till it is over, and is what it found; ids are those that the steps are to tell.
func run(t *testing.T, x api.Tree, c api.Cursor, ids ...uint32) []uint32 {
	t.Helper()
	for _, want := range ids {
		d, id, err := wantStep(t, x, c)
		if err != api.OK || id != want {
			t.Fatalf("Step of %+v: %d, error %d; want %d", c, id, err, want)
		}
		c = d
	}
	if !cursor.Over(c) {
		t.Fatalf("%+v is not over", c)
	}
	d, id, err := wantStep(t, x, c)
	if id != 0 || err != api.OK || !cursor.Same(c, d) {
		t.Fatalf("Step of %+v, which is over: %+v, %d, error %d", c, d, id, err)
	}
	return c.Rows
}

// P13.2, P13.3: the chapter's examples.
func TestExamples(t *testing.T) {
	window, all := box(0, 9, 0, 9), []uint32{1, 2, 3, 4, 5}
	c, err := cursor.Start(five(), window)
	wantCursor(t, "Start", c, err, api.Cursor{Window: window, Open: []api.Seen{{Id: 3, Count: 1}}})
	if rows := run(t, five(), c, 3, 1, 2); !slices.Equal(rows, all) {
		t.Errorf("found %v", rows)
	}
	c, err = cursor.Start(four(), window)
	wantCursor(t, "Start", c, err, api.Cursor{Window: window, Open: []api.Seen{{Id: 1}}})
	if rows := run(t, five(), c, 1, 2); !slices.Equal(rows, all) {
		t.Errorf("found %v", rows)
	}
	if _, err := cursor.Start(five(), api.Key{X0: 1}); err != api.ErrArg {
		t.Errorf("Start: error %d", err)
	}
}

// P13.3: what a step opens: behind the others the Right one, with what was Seen, then the Childs that meet the window, the first one last, with the tree's Count.
func TestStepOfInner(t *testing.T) {
	x := fan(4)
	open := others(2)
	for _, c := range []struct {
		what   string
		window api.Key
		childs []uint32
	}{
		{"all", wide, []uint32{4, 3, 2, 1}},
		{"two", box(2, 3, 0, 0), []uint32{3, 2}},
		{"by a border", box(-5, 1, -5, 0), []uint32{1}},
		{"by another border", box(4, 9, 1, 9), []uint32{4}},
		{"none", box(1, 4, 2, 9), nil},
		{"none, far away", at(9, 9), nil},
	} {
		want := slices.Clone(open)
		for _, id := range c.childs {
			want = append(want, api.Seen{Id: id, Count: 7})
		}
		for _, seen := range []uint64{0, 6, 7, 8, topCount} {
			d := api.Cursor{Window: c.window, Open: append(slices.Clone(open), api.Seen{Id: 9, Count: seen}), Rows: []uint32{10, 77}}
			got, id, err := cursor.Step(x, d)
			wantCursor(t, c.what, got, err, api.Cursor{Window: c.window, Open: want, Rows: []uint32{10, 77}})
			if id != 9 {
				t.Errorf("%s: %d went", c.what, id)
			}
		}
	}
}

// P13.3: a node leads to the right, if its Seal is above what was Seen.
func TestStepToTheRight(t *testing.T) {
	for _, c := range []struct {
		seal, seen uint64
		right      uint32
		leads      bool
	}{
		{5, 4, 2, true}, {5, 0, 2, true}, {7, 6, 2, true}, {1, 0, 2, true},
		{5, 5, 2, false}, {5, 6, 2, false}, {0, 0, 2, false}, {5, topCount, 2, false}, {7, 7, 2, false},
		{5, 4, 0, false}, {7, 0, 0, false},
	} {
		x := with(fan(3), 1, c.seal, c.right)
		want := others(1)
		if c.leads {
			want = append(want, api.Seen{Id: 2, Count: c.seen})
		}
		for _, window := range []api.Key{wide, at(1, 1), at(-50, 0)} {
			d := api.Cursor{Window: window, Open: append(others(1), api.Seen{Id: 1, Count: c.seen})}
			got, _, _ := wantStep(t, x, d)
			if !slices.Equal(got.Open, want) {
				t.Errorf("Seal %d, Seen %d, Right %d: %v; want %v", c.seal, c.seen, c.right, got.Open, want)
			}
		}
	}
	x := row(20) // of an inner node: the Right one stands ahead of its Childs
	inner := x.Nodes[slices.IndexFunc(x.Nodes, func(n api.Node) bool { return !n.Leaf && n.Right != 0 })]
	c := api.Cursor{Window: wide, Open: []api.Seen{{Id: 77}, {Id: inner.Id, Count: inner.Seal - 1}}}
	want := []api.Seen{{Id: 77}, {Id: inner.Right, Count: inner.Seal - 1}}
	for _, e := range slices.Backward(inner.Entries) {
		want = append(want, api.Seen{Id: e.Child, Count: x.Count})
	}
	if got, _, err := wantStep(t, x, c); err != api.OK || !slices.Equal(got.Open, want) {
		t.Errorf("an inner node: %v; want %v", got.Open, want)
	}
}

// P13.3: of a leaf the rows are found that meet the window, in their places among those that were.
func TestStepOfLeaf(t *testing.T) {
	x := tree.Empty()
	x.Nodes[0].Entries = []api.Link{{Key: at(5, 5), Child: 30}, {Key: box(0, 9, 0, 9), Child: topId}, {Key: at(1, 1), Child: 20}, {Key: at(5, 5), Child: 1}}
	for _, c := range []struct {
		what   string
		window api.Key
		had    []uint32
		rows   []uint32
	}{
		{"all, rising", wide, nil, []uint32{1, 20, 30, topId}},
		{"two", at(1, 1), nil, []uint32{20, topId}},
		{"by a border", box(-5, 0, 9, 20), nil, []uint32{topId}},
		{"none", box(10, 20, 0, 9), nil, nil},
		{"none more", box(10, 20, 0, 9), []uint32{2, 3}, []uint32{2, 3}},
		{"among others", wide, []uint32{2, 25, 31}, []uint32{1, 2, 20, 25, 30, 31, topId}},
		{"some found already", wide, []uint32{1, 30}, []uint32{1, 20, 30, topId}},
		{"all found already", wide, []uint32{1, 20, 30, topId}, []uint32{1, 20, 30, topId}},
		{"one that does not meet stays found", at(1, 1), []uint32{30}, []uint32{20, 30, topId}},
	} {
		d := api.Cursor{Window: c.window, Open: []api.Seen{{Id: 8}, {Id: 1}}, Rows: c.had}
		got, id, err := cursor.Step(x, d)
		wantCursor(t, c.what, got, err, api.Cursor{Window: c.window, Open: []api.Seen{{Id: 8}}, Rows: c.rows})
		if id != 1 {
			t.Errorf("%s: %d went", c.what, id)
		}
	}
}

// P13.3: of an Id that the tree does not have, one goes, and nothing more.
func TestStepOfNone(t *testing.T) {
	for _, id := range []uint32{4, 10, 50, topId} {
		for _, x := range []api.Tree{row(0), five(), with(fan(3), 1, 7, 2)} {
			c := api.Cursor{Window: wide, Open: []api.Seen{{Id: 3, Count: 2}, {Id: id}}, Rows: []uint32{5}}
			got, gone, err := cursor.Step(x, c)
			wantCursor(t, "Step", got, err, api.Cursor{Window: wide, Open: []api.Seen{{Id: 3, Count: 2}}, Rows: []uint32{5}})
			if gone != id {
				t.Errorf("%d went; want %d", gone, id)
			}
		}
	}
}

// P13.3: as many as may be open, and one more.
func TestStepFull(t *testing.T) {
	for open := 120; open < 128; open++ {
		for childs := range uint32(5) {
			for right := range 2 {
				window := box(1, int64(childs), 0, 0)
				if childs == 0 {
					window = at(0, 0)
				}
				x := row(40)
				inner := slices.IndexFunc(x.Nodes, func(n api.Node) bool { return !n.Leaf && n.Right != 0 })
				x = below(x, x.Nodes[inner].Id, window, int(childs))
				c := api.Cursor{Window: window, Open: append(others(open), api.Seen{Id: x.Nodes[inner].Id, Count: topCount * uint64(1-right)})}
				want := api.OK
				if open+int(childs)+right > 128 {
					want = api.ErrFull
				}
				got, id, err := wantStep(t, x, c)
				if err != want || err == api.OK && (len(got.Open) != open+int(childs)+right || id == 0) {
					t.Errorf("%d open, %d Childs, %d to the right: %d, error %d", open, childs, right, len(got.Open), err)
				}
			}
		}
	}
	leaf := api.Cursor{Window: wide, Open: append(others(127), api.Seen{Id: 1})}
	if got, _, err := wantStep(t, with(fan(2), 1, 7, 2), leaf); err != api.OK || len(got.Open) != 128 {
		t.Errorf("a leaf that leads to the right: %d open, error %d", len(got.Open), err)
	}
	if got, _, err := wantStep(t, fan(2), leaf); err != api.OK || len(got.Open) != 127 || len(got.Rows) != 2 {
		t.Errorf("a leaf: %d open, error %d", len(got.Open), err)
	}
}

// below is a tree whose node of an Id stands above four, so many of which meet a window, while all others of the tree lie far from it.
func below(x api.Tree, id uint32, window api.Key, meet int) api.Tree {
	n := nodeOf(x, id)
	far := int64(1000)
	first := func(under uint32) *api.Node {
		l := nodeOf(x, under)
		for !l.Leaf {
			l = nodeOf(x, l.Entries[0].Child)
		}
		return l
	}
	for i := range x.Nodes {
		for j := range x.Nodes[i].Entries {
			if x.Nodes[i].Leaf {
				x.Nodes[i].Entries[j].Key = at(far, 0)
			}
		}
	}
	for len(n.Entries) < 4 {
		top := x.Nodes[len(x.Nodes)-1].Id
		leaf := api.Node{Id: top + 1, Leaf: true, Entries: []api.Link{{Key: at(far, 0), Child: 900 + top}}}
		n.Entries = append(n.Entries, api.Link{Child: top + 1})
		x.Nodes = append(x.Nodes, leaf)
		n = nodeOf(x, id)
	}
	for i, e := range n.Entries {
		if i < meet {
			first(e.Child).Entries[0].Key = at(window.X0, 0)
		}
	}
	bound(x, x.Root)
	return x
}

// P13.3: steps all over, in trees that no Put makes, too.
func TestStepAllOver(t *testing.T) {
	pick := picker(1)
	full, found := 0, 0
	for range 6000 {
		x := odd(pick)
		if err := tree.Check(x); err != api.OK {
			t.Fatalf("%+v may not be", x)
		}
		c := some(x, pick)
		wantCheck(t, "some cursor", c, api.OK)
		for range 6 {
			d, _, err := wantStep(t, x, c)
			if err != api.OK {
				full++
				break
			}
			found += len(d.Rows) - len(c.Rows)
			wantCheck(t, "behind a step", d, api.OK)
			c = d
		}
	}
	if full < 40 || found < 1000 {
		t.Errorf("%d steps were full, %d rows found", full, found)
	}
}
