package page

import (
	"gazetteer/api"
	"gazetteer/octet"
	"gazetteer/sum"
)

// How many sectors a page has, and how many of its bytes stand ahead of its sum.
const (
	sectors = api.PageBytes / api.Sector
	summed  = api.PageBytes - 4
)

// bytesOf is the bytes of a page that may be. Its sum has the highest byte first, other than what sum seals.
func bytesOf(p api.Page) []byte {
	b := octet.Put16(nil, uint16(p.Number))
	b = octet.Put64(b, p.Lsn)
	for _, s := range p.Slots {
		b = append(append(b, byte(len(s))), s...)
		b = putNoughts(b, api.MaxSlot-len(s))
	}
	b = putNoughts(b, summed-len(b))
	return octet.Put32(b, sum.Sum32(b))
}

// putNoughts is b, and n noughts behind it.
func putNoughts(b []byte, n int) []byte {
	return append(b, make([]byte, n)...)
}

// read is what a page's bytes tell as a page, whether it may be or not. The reader's error is not asked: it comes of a slot with more bytes than a slot may have, and no page that may be has such a byte for their count.
func read(b []byte) api.Page {
	r := octet.Read(b)
	p := api.Page{Number: int(r.U16()), Lsn: r.U64()}
	for i := range p.Slots {
		n := int(r.U8())
		p.Slots[i] = r.Raw(n)
		r.Raw(api.MaxSlot - n)
	}
	return p
}
