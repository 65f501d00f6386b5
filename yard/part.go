package yard

import (
	"ribband/api"
	"ribband/batten"
	"ribband/bevel"
	"ribband/butt"
	"ribband/frame"
	"ribband/mould"
	"ribband/offsets"
	"ribband/spile"
	"ribband/steam"
	"ribband/strake"
)

// The parts of a book: those of the chapters, and bills.
const (
	offsetsPart = iota
	battenPart
	framePart
	mouldPart
	strakePart
	buttPart
	spilePart
	bevelPart
	steamPart
	billPart
	manyParts

	manyChapters = billPart
)

// part is a part of a book. Another one, of the same kind, is read by it: with the number of the line that is wrong.
type part interface {
	name() string
	snag() api.Snag
	text() string
	read(text string) (p part, line int, s api.Snag)
}

// chapter is a part that has boats.
type chapter interface {
	part
	boats() int
}

// pages are the book of a chapter, and what its package does with it.
type pages[B any] struct {
	book  B
	word  string
	check func(B) api.Snag
	count func(B) (int, api.Snag)
	print func(B) (string, api.Snag)
	parse func(string) (B, int, api.Snag)
}

func (p pages[B]) name() string { return p.word }

func (p pages[B]) snag() api.Snag { return p.check(p.book) }

func (p pages[B]) boats() int {
	many, _ := p.count(p.book)
	return many
}

func (p pages[B]) text() string {
	text, _ := p.print(p.book)
	return text
}

func (p pages[B]) read(text string) (part, int, api.Snag) {
	b, line, s := p.parse(text)
	p.book = b
	return p, line, s
}

// chapters returns the parts of a book that have boats, in their order.
func (b book) chapters() [manyChapters]chapter {
	return [manyChapters]chapter{
		pages[api.OffsetsTable]{b.Table, "offsets", offsets.CheckTable, offsets.Boats, offsets.Print, offsets.Parse},
		pages[api.BattenBook]{b.Line, "batten", batten.CheckBook, batten.Boats, batten.Print, batten.Parse},
		pages[api.FrameBook]{b.Frame, "frame", frame.CheckBook, frame.Boats, frame.Print, frame.Parse},
		pages[api.MouldBook]{b.Mould, "mould", mould.CheckBook, mould.Boats, mould.Print, mould.Parse},
		pages[api.StrakeBook]{b.Strakes, "strake", strake.CheckBook, strake.Boats, strake.Print, strake.Parse},
		pages[api.ButtBook]{b.Butts, "butt", butt.CheckBook, butt.Boats, butt.Print, butt.Parse},
		pages[api.SpileBook]{b.Spile, "spile", spile.CheckBook, spile.Boats, spile.Print, spile.Parse},
		pages[api.BevelBook]{b.Bevel, "bevel", bevel.CheckBook, bevel.Boats, bevel.Print, bevel.Parse},
		pages[api.SteamBook]{b.Steam, "steam", steam.CheckBook, steam.Boats, steam.Print, steam.Parse},
	}
}

// parts returns all parts of a book, in their order.
func (b book) parts() [manyParts]part {
	all := [manyParts]part{billPart: bills(b.Bills)}
	for i, c := range b.chapters() {
		all[i] = c
	}
	return all
}

// with returns the book in which a part is this one.
func (b book) with(p part) book {
	switch x := p.(type) {
	case pages[api.OffsetsTable]:
		b.Table = x.book
	case pages[api.BattenBook]:
		b.Line = x.book
	case pages[api.FrameBook]:
		b.Frame = x.book
	case pages[api.MouldBook]:
		b.Mould = x.book
	case pages[api.StrakeBook]:
		b.Strakes = x.book
	case pages[api.ButtBook]:
		b.Butts = x.book
	case pages[api.SpileBook]:
		b.Spile = x.book
	case pages[api.BevelBook]:
		b.Bevel = x.book
	case pages[api.SteamBook]:
		b.Steam = x.book
	case bills:
		b.Bills = x
	}
	return b
}
