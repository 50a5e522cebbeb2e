package page_test

import (
	"bytes"
	"math"
	"slices"
	"testing"

	"gazetteer/api"
	"gazetteer/page"
)

// P6.1: numbers at their edges, and slots of each length at each place.
func TestCheck(t *testing.T) {
	wantCheck := func(p api.Page, want api.Errno) {
		t.Helper()
		if e := page.Check(p); e != want {
			t.Errorf("Check(%v): error %d; want %d", p, e, want)
		}
	}
	for number := range 32 {
		wantCheck(api.Page{Number: number}, api.OK)
	}
	for _, number := range wrongNumbers() {
		wantCheck(api.Page{Number: number}, api.ErrPage)
		wantCheck(api.Page{Number: number, Lsn: 3, Slots: [4][]byte{{7}}}, api.ErrPage)
	}
	for _, lsn := range []uint64{0, 1, 1 << 63, math.MaxUint64} {
		wantCheck(api.Page{Lsn: lsn}, api.OK)
	}
	for slot := range 4 {
		for n := range 400 {
			want := api.OK
			if n > 52 {
				want = api.ErrPage
			}
			p := api.Page{Number: 3}
			p.Slots[slot] = make([]byte, n)
			wantCheck(p, want)
		}
	}
	for _, p := range some() {
		wantCheck(p, api.OK)
	}
}

// P6.1, P6.2: edges of all fields together, against the chapter's words; the bytes and sectors of what may be, and what is told of these.
func TestEdgesTogether(t *testing.T) {
	told := map[api.Errno]int{}
	for p := range choices {
		want := plainCheck(p)
		told[want]++
		if e := page.Check(p); e != want {
			t.Fatalf("Check(%v): error %d; want %d", p, e, want)
		}
		b, e := page.Encode(p)
		l, f := page.Sectors(p)
		if e != want || f != want {
			t.Fatalf("Encode, Sectors(%v): errors %d, %d; want %d", p, e, f, want)
		}
		if want != api.OK {
			if b != nil || l != nil {
				t.Fatalf("Encode, Sectors(%v): % x, % x beside an error", p, b, l)
			}
			continue
		}
		if !bytes.Equal(b, laid(p)) || !slices.Equal(l, blocks(b)) {
			t.Fatalf("Encode, Sectors(%v): % x, % x; want % x", p, b, l, laid(p))
		}
		wantDecode(t, p.Number, b)
	}
	if told[api.OK] < 1000 || told[api.ErrPage] < 1000 {
		t.Errorf("told: %v", told)
	}
}

// P6.1: the same in all fields, and another one in each; nil and empty slots are the same.
func TestSame(t *testing.T) {
	wrong := api.Page{Number: -7, Lsn: 9, Slots: [4][]byte{row(300, 1), nil, row(53, 2), {}}}
	for _, p := range append(some(), wrong) {
		if !page.Same(p, p) || !page.Same(p, copied(p)) {
			t.Errorf("Same: %v is not the same as itself", p)
		}
		wantOther := func(name string, change func(p *api.Page)) {
			t.Helper()
			x := copied(p)
			change(&x)
			if page.Same(p, x) || page.Same(x, p) {
				t.Errorf("Same: another %s is not told of %v", name, p)
			}
		}
		wantOther("Number", func(p *api.Page) { p.Number++ })
		wantOther("Number by 256", func(p *api.Page) { p.Number += 256 })
		wantOther("Number by 65536", func(p *api.Page) { p.Number += 1 << 16 })
		wantOther("Lsn", func(p *api.Page) { p.Lsn++ })
		wantOther("Lsn's top", func(p *api.Page) { p.Lsn ^= 1 << 63 })
		for i := range 4 {
			wantOther("slot, a nought longer", func(p *api.Page) { p.Slots[i] = append(p.Slots[i], 0) })
			for j := range p.Slots[i] {
				wantOther("byte", func(p *api.Page) { p.Slots[i][j] ^= 1 })
			}
			if len(p.Slots[i]) == 0 {
				continue
			}
			wantOther("slot, a byte shorter", func(p *api.Page) { p.Slots[i] = p.Slots[i][1:] })
			wantOther("slot, a last byte shorter", func(p *api.Page) { p.Slots[i] = p.Slots[i][:len(p.Slots[i])-1] })
			wantOther("slot, free", func(p *api.Page) { p.Slots[i] = nil })
		}
	}
	full := api.Page{Slots: [4][]byte{{1}, {2}, {3}, {4}}}
	for i := range 4 {
		for j := range i {
			x := full
			x.Slots[i], x.Slots[j] = x.Slots[j], x.Slots[i]
			if page.Same(full, x) {
				t.Errorf("Same: slots %d and %d are taken for one another", i, j)
			}
		}
	}
	if !page.Same(api.Page{}, api.Page{Slots: [4][]byte{{}, nil, {}, nil}}) {
		t.Error("Same: nil and empty slots are not the same")
	}
}

// P6.2: what stands in the bytes, byte by byte; the sum has its highest byte first.
func TestEncode(t *testing.T) {
	p := api.Page{Number: 1, Lsn: 2, Slots: [4][]byte{{7}}}
	want := make([]byte, 256)
	copy(want, "\x00\x01\x00\x00\x00\x00\x00\x00\x00\x02\x01\x07")
	copy(want[252:], "\x21\x01\x17\xa4")
	if b, e := page.Encode(p); e != api.OK || !bytes.Equal(b, want) {
		t.Errorf("Encode(%v): % x, error %d; want % x", p, b, e, want)
	}

	p = api.Page{Number: 31, Lsn: 0x0102030405060708, Slots: [4][]byte{bytes.Repeat([]byte{9}, 52), nil, {1, 2, 3}, {255, 0}}}
	want = make([]byte, 256)
	copy(want, "\x00\x1f\x01\x02\x03\x04\x05\x06\x07\x08\x34")
	copy(want[11:], bytes.Repeat([]byte{9}, 52))
	copy(want[116:], "\x03\x01\x02\x03")
	copy(want[169:], "\x02\xff\x00")
	copy(want[252:], "\xdc\x15\x8b\xdd")
	if b, e := page.Encode(p); e != api.OK || !bytes.Equal(b, want) {
		t.Errorf("Encode(%v): % x, error %d; want % x", p, b, e, want)
	}

	// a page that was never written has bytes, too, which are no empty place
	want = make([]byte, 256)
	copy(want[252:], "\x67\xe6\x53\x21")
	if b, e := page.Encode(api.Page{}); e != api.OK || !bytes.Equal(b, want) {
		t.Errorf("Encode of the page 0: % x, error %d; want % x", b, e, want)
	}
}

// P6.2: a page that may not be has no bytes, and no sectors.
func TestEncodeRefuses(t *testing.T) {
	var wrong []api.Page
	for _, number := range wrongNumbers() {
		wrong = append(wrong, api.Page{Number: number, Slots: [4][]byte{{7}}})
	}
	for slot := range 4 {
		for _, n := range []int{53, 54, 200, 255, 256, 257, 308, 309, 1 << 16, 1<<16 + 1} {
			p := api.Page{Number: 5}
			p.Slots[slot] = make([]byte, n)
			wrong = append(wrong, p)
		}
	}
	for _, p := range wrong {
		if b, e := page.Encode(p); e != api.ErrPage || b != nil {
			t.Errorf("Encode of page %d: % x, error %d; want error %d", p.Number, b, e, api.ErrPage)
		}
		if l, e := page.Sectors(p); e != api.ErrPage || l != nil {
			t.Errorf("Sectors of page %d: % x, error %d; want error %d", p.Number, l, e, api.ErrPage)
		}
	}
}

// P6.2: a number of no page goes ahead of all that may be wrong with the bytes, or right.
func TestDecodeNumber(t *testing.T) {
	for _, number := range wrongNumbers() {
		right := laid(api.Page{Number: number & 31, Lsn: 1})
		just := sealed(append(big(uint64(number), 2), make([]byte, 254)...))
		for _, b := range [][]byte{nil, {}, {1}, make([]byte, 256), make([]byte, 255), right, just, right[:64], row(256, 3), row(300, 3)} {
			wantRefused(t, "no number", number, b, api.ErrArg)
		}
		for n := range 6 {
			if p, e := page.Of(number, make([]api.Block, n)); e != api.ErrArg || !same(p, api.Page{}) {
				t.Errorf("Of(%d, %d sectors): %v, error %d; want error %d", number, n, p, e, api.ErrArg)
			}
		}
	}
}

// P6.2: an empty place is the page of each number that was never written; noughts that are fewer or more are no page.
func TestDecodeEmptyPlace(t *testing.T) {
	for number := range 32 {
		want := api.Page{Number: number}
		if p, e := page.Decode(number, make([]byte, 256)); e != api.OK || !same(p, want) {
			t.Errorf("Decode(%d, noughts): %v, error %d; want %v", number, p, e, want)
		}
		if p, e := page.Of(number, make([]api.Block, 4)); e != api.OK || !same(p, want) {
			t.Errorf("Of(%d, noughts): %v, error %d; want %v", number, p, e, want)
		}
	}
	for n := range 1100 {
		if n != 256 {
			wantRefused(t, "noughts", n%32, make([]byte, n), api.ErrPage)
		}
	}
}

// P6.2: each page's bytes are no page of another number.
func TestDecodeOtherNumber(t *testing.T) {
	for own := range 32 {
		b := laid(api.Page{Number: own, Lsn: 9, Slots: [4][]byte{nil, {1}}})
		for number := range 32 {
			want := api.ErrPage
			if number == own {
				want = api.OK
			}
			if _, e := page.Decode(number, b); e != want {
				t.Errorf("Decode(%d, page %d): error %d; want %d", number, own, e, want)
			}
			wantDecode(t, number, b)
		}
	}
	for _, said := range []uint64{32, 33, 255, 256, 257, 31 << 8, 1<<16 - 1} {
		b := sealed(append(big(said, 2), make([]byte, 254)...))
		for number := range 32 {
			wantRefused(t, "a number that is too great", number, b, api.ErrPage)
		}
	}
}

// P6.2: bytes that are cut off, or go on, or stand at another place.
func TestDecodeLength(t *testing.T) {
	for _, p := range some() {
		b := laid(p)
		for n := range b {
			wantRefused(t, "cut off", p.Number, b[:n], api.ErrPage)
		}
		for c := range 256 {
			wantRefused(t, "a byte behind", p.Number, append(slices.Clone(b), byte(c)), api.ErrPage)
		}
		wantRefused(t, "a byte ahead", p.Number, append([]byte{0}, b...), api.ErrPage)
		wantRefused(t, "a byte ahead, and the last one gone", p.Number, append([]byte{0}, b[:255]...), api.ErrPage)
		wantRefused(t, "the first one gone, and one behind", p.Number, append(slices.Clone(b[1:]), 0), api.ErrPage)
		wantRefused(t, "noughts behind", p.Number, append(slices.Clone(b), make([]byte, 64)...), api.ErrPage)
		wantRefused(t, "twice", p.Number, slices.Concat(b, b), api.ErrPage)
		wantRefused(t, "halved", p.Number, b[:128], api.ErrPage)
	}
	for number := range 32 {
		wantRefused(t, "none", number, nil, api.ErrPage)
		wantRefused(t, "empty", number, []byte{}, api.ErrPage)
	}
}

// P6.2: with a sum that is right, bytes that are not just those of a page: counts beyond the limit, what stands behind a slot's bytes, or behind all slots.
func TestDecodeNotJust(t *testing.T) {
	for _, p := range some() {
		b := laid(p)
		for slot := range 4 {
			at := slotsAt + slot*slotSize
			for n := 53; n < 256; n++ {
				x := slices.Clone(b)
				x[at] = byte(n)
				wantRefused(t, "a count", p.Number, sealed(x), api.ErrPage)
			}
			for i := len(p.Slots[slot]); i < 52; i++ {
				x := slices.Clone(b)
				x[at+1+i] = 1
				wantRefused(t, "a byte behind a slot's", p.Number, sealed(x), api.ErrPage)
			}
		}
		for i := noughtsAt; i < sumAt; i++ {
			for bit := range 8 {
				x := slices.Clone(b)
				x[i] = 1 << bit
				wantRefused(t, "a byte behind all slots", p.Number, sealed(x), api.ErrPage)
			}
		}
	}
}

// P6.2: all that is right but the sum: its bytes the other way round, all bits turned, noughts, and sums of other bytes.
func TestDecodeSum(t *testing.T) {
	for _, p := range some() {
		b := laid(p)
		right := slices.Clone(b[sumAt:])
		other := func(name string, last []byte) {
			t.Helper()
			x := append(slices.Clone(b[:sumAt]), last...)
			wantRefused(t, name, p.Number, x, api.ErrPage)
		}
		turned := slices.Clone(right)
		for i := range turned {
			turned[i] ^= 255
		}
		other("turned", turned)
		slices.Reverse(right)
		other("its lowest byte first", right)
		other("another page's", laid(api.Page{Number: p.Number, Lsn: p.Lsn + 1, Slots: p.Slots})[sumAt:])
		other("ones", []byte{255, 255, 255, 255})
		if !nought(b[:sumAt]) {
			other("noughts", make([]byte, 4))
		}
	}
}

// P6.2: each byte turned to each other one, and the sum made right behind that, against the chapter's words.
func TestDecodeAnyByteChanged(t *testing.T) {
	told := map[api.Errno]int{}
	p := some()[3]
	for i := range 256 {
		for c := range 256 {
			x := laid(p)
			x[i] = byte(c)
			if i%8 == 0 || c < 2 {
				wantDecode(t, p.Number, x)
			}
			if i >= sumAt {
				continue
			}
			x = sealed(x)
			wantDecode(t, p.Number, x)
			_, e := plainDecode(p.Number, x)
			told[e]++
		}
	}
	if told[api.OK] < 1000 || told[api.ErrPage] < 1000 {
		t.Errorf("told: %v", told)
	}
}

// P6.2: any bytes, with a right sum, too, against the chapter's words.
func TestDecodeAnyBytes(t *testing.T) {
	for seed := range uint32(3000) {
		b := row(256, seed)
		b[0], b[1] = 0, byte(seed%40)
		wantDecode(t, int(seed%40), b)
		wantDecode(t, int(seed%40), sealed(b))
		wantDecode(t, int(seed%32), row(int(seed%600), seed))
	}
}

// P6.2: four sectors, in order, whose bytes are the page's.
func TestSectors(t *testing.T) {
	for _, p := range some() {
		l, e := page.Sectors(p)
		if e != api.OK || len(l) != 4 {
			t.Fatalf("Sectors(%v): %d of them, error %d", p, len(l), e)
		}
		b, _ := page.Encode(p)
		for i := range b {
			if l[i/64][i%64] != b[i] {
				t.Errorf("Sectors(%v): byte %d of sector %d is %d; want %d", p, i%64, i/64, l[i/64][i%64], b[i])
			}
		}
		if got, e := page.Of(p.Number, l); e != api.OK || !same(got, p) {
			t.Errorf("Of the sectors of %v: %v, error %d", p, got, e)
		}
	}
}

// P6.2: sectors that are not four, or four in another order, or of two pages.
func TestOf(t *testing.T) {
	p := some()[4]
	l, _ := page.Sectors(p)
	wantNone := func(name string, l []api.Block) {
		t.Helper()
		if got, e := page.Of(p.Number, l); e != api.ErrPage || !same(got, api.Page{}) {
			t.Errorf("%s: Of: %v, error %d; want error %d", name, got, e, api.ErrPage)
		}
	}
	wantNone("nil", nil)
	wantNone("none", []api.Block{})
	for n := range 10 {
		if n != 4 {
			wantNone("of right ones", slices.Concat(l, l, l)[:n])
			wantNone("of noughts", make([]api.Block, n))
		}
	}
	wantNone("one more of noughts", append(slices.Clone(l), api.Block{}))
	wantNone("one of noughts ahead", append([]api.Block{{}}, l...))
	for i := range 4 * 4 * 4 * 4 {
		at := [4]int{i % 4, i / 4 % 4, i / 16 % 4, i / 64}
		if at != [4]int{0, 1, 2, 3} {
			wantNone("in another order", []api.Block{l[at[0]], l[at[1]], l[at[2]], l[at[3]]})
		}
	}
	newer, _ := page.Set(p, 1, row(52, 9), 3)
	other, _ := page.Sectors(newer)
	for bits := 1; bits < 15; bits++ {
		mixed := slices.Clone(l)
		for i := range mixed {
			if bits>>i&1 == 1 {
				mixed[i] = other[i]
			}
		}
		if !slices.Equal(mixed, l) && !slices.Equal(mixed, other) {
			wantNone("half of them written", mixed)
		}
	}
}

// P6.3: the order of errors, and slots and lengths at their edges.
func TestSetGetErrors(t *testing.T) {
	bad := func(p api.Page) api.Page { p.Slots[2] = make([]byte, 53); return p }
	good := some()[3]
	for _, c := range []struct {
		name string
		p    api.Page
		slot int
		n    int
		set  api.Errno
		get  api.Errno
	}{
		{"slot 0", good, 0, 52, api.OK, api.OK},
		{"slot 3", good, 3, 0, api.OK, api.OK},
		{"53 bytes", good, 3, 53, api.ErrLong, api.OK},
		{"256 bytes", good, 0, 256, api.ErrLong, api.OK},
		{"many bytes", good, 0, 1 << 20, api.ErrLong, api.OK},
		{"slot 4", good, 4, 1, api.ErrArg, api.ErrArg},
		{"slot -1", good, -1, 1, api.ErrArg, api.ErrArg},
		{"slot 256", good, 256, 0, api.ErrArg, api.ErrArg},
		{"the least slot", good, math.MinInt, 0, api.ErrArg, api.ErrArg},
		{"the greatest slot", good, math.MaxInt, 0, api.ErrArg, api.ErrArg},
		{"slot 4 and 53 bytes", good, 4, 53, api.ErrArg, api.ErrArg},
		{"slot -1 and 53 bytes", good, -1, 53, api.ErrArg, api.ErrArg},
		{"page 32", api.Page{Number: 32}, 0, 1, api.ErrPage, api.ErrPage},
		{"page -1 and slot 4", api.Page{Number: -1}, 4, 1, api.ErrPage, api.ErrPage},
		{"page 32 and 53 bytes", api.Page{Number: 32}, 0, 53, api.ErrPage, api.ErrPage},
		{"page 32, slot -1 and 53 bytes", api.Page{Number: 32}, -1, 53, api.ErrPage, api.ErrPage},
		{"a slot too long", bad(good), 0, 1, api.ErrPage, api.ErrPage},
		{"that slot", bad(good), 2, 1, api.ErrPage, api.ErrPage},
		{"that slot, free", bad(good), 2, 0, api.ErrPage, api.ErrPage},
		{"a slot too long and slot 4", bad(good), 4, 1, api.ErrPage, api.ErrPage},
		{"a slot too long and 53 bytes", bad(good), 1, 53, api.ErrPage, api.ErrPage},
	} {
		p, e := page.Set(c.p, c.slot, row(c.n, 7), 6)
		if e != c.set || e != api.OK && !same(p, api.Page{}) {
			t.Errorf("%s: Set: %v, error %d; want error %d", c.name, p, e, c.set)
		}
		b, e := page.Get(c.p, c.slot)
		if e != c.get || e != api.OK && b != nil {
			t.Errorf("%s: Get: % x, error %d; want error %d", c.name, b, e, c.get)
		}
	}
}

// P6.3: each slot is set to bytes of each length, and got; Number stays, Lsn is what was said.
func TestSetAndGet(t *testing.T) {
	for _, p := range some() {
		for slot := range 4 {
			for n := range 53 {
				for _, lsn := range []uint64{0, p.Lsn - 1, p.Lsn, math.MaxUint64} {
					b := row(n, uint32(n))
					want := copied(p)
					want.Slots[slot], want.Lsn = b, lsn
					got, e := page.Set(p, slot, b, lsn)
					if e != api.OK || !same(got, want) {
						t.Fatalf("Set(%v, %d, % x, %d): %v, error %d", p, slot, b, lsn, got, e)
					}
					for i := range 4 {
						if g, e := page.Get(got, i); e != api.OK || !bytes.Equal(g, want.Slots[i]) {
							t.Fatalf("Get(%v, %d): % x, error %d", got, i, g, e)
						}
					}
				}
			}
		}
	}
}

// P6.3: the first slot that is free, for each choice of slots that are taken; a nought is a byte.
func TestFree(t *testing.T) {
	for bits := range 16 {
		var p api.Page
		want := -1
		for i := 3; i >= 0; i-- {
			if bits>>i&1 == 1 {
				p.Slots[i] = make([]byte, 1+51*(i%2))
			} else {
				want = i
				p.Slots[i] = make([]byte, 0, i)
			}
		}
		if got := page.Free(p); got != want {
			t.Errorf("Free(%v): %d; want %d", p, got, want)
		}
		p.Number = 32
		if got := page.Free(p); got != -1 {
			t.Errorf("Free(%v): %d; want -1", p, got)
		}
		p.Number = -1
		if got := page.Free(p); got != -1 {
			t.Errorf("Free(%v): %d; want -1", p, got)
		}
	}
	for slot := range 4 {
		var p api.Page
		p.Slots[slot] = make([]byte, 53)
		if got := page.Free(p); got != -1 {
			t.Errorf("Free of a page whose slot %d is too long: %d; want -1", slot, got)
		}
	}
}

// P6.3: a slot that is set to no bytes is free, whether the list is nil or empty.
func TestSetFrees(t *testing.T) {
	for slot := range 4 {
		for _, none := range [][]byte{nil, {}, make([]byte, 0, 9)} {
			p := api.Page{Slots: [4][]byte{{1}, {2}, {3}, {4}}}
			if got := page.Free(p); got != -1 {
				t.Fatalf("Free(%v): %d", p, got)
			}
			p, e := page.Set(p, slot, none, 5)
			if got := page.Free(p); e != api.OK || got != slot {
				t.Errorf("Free behind Set of slot %d to none: %d, error %d", slot, got, e)
			}
			p, e = page.Set(p, slot, []byte{0}, 6)
			if got := page.Free(p); e != api.OK || got != -1 {
				t.Errorf("Free behind Set of slot %d to a nought: %d, error %d", slot, got, e)
			}
		}
	}
}
