package disk

import (
	"maps"
	"slices"
)

const pageBytes = 512

// Fates of a page that was written and not synced, out of three: with the other
// one it is as it was sure.
const (
	asWritten = 1
	inPieces  = 2
	fateCount = 3
)

// content is what stands in a page.
type content [pageBytes]byte

// pages are count of them; one that neither map has is zeros.
type pages struct {
	count   int
	sure    map[int]content
	written map[int]content // since the last sync
}

func newPages(count int) *pages {
	return &pages{count: count, sure: map[int]content{}, written: map[int]content{}}
}

func (p *pages) has(page int) bool { return page >= 0 && page < p.count }

func (p *pages) write(page int, c content) { p.written[page] = c }

func (p *pages) load(page int) content {
	if c, ok := p.written[page]; ok {
		return c
	}
	return p.sure[page]
}

func (p *pages) sync() {
	maps.Copy(p.sure, p.written)
	p.written = map[int]content{}
}

// crash gives each page that was written its fate.
func (p *pages) crash(fates []int) {
	for i, page := range slices.Sorted(maps.Keys(p.written)) {
		switch fateAt(fates, i) {
		case asWritten:
			p.sure[page] = p.written[page]
		case inPieces:
			p.sure[page] = torn()
		}
	}
	p.written = map[int]content{}
}

// fateAt gives the fate at that place. The language's own remainder of a number
// below 0 is below 0, too, and so none of the three.
func fateAt(fates []int, i int) int {
	if i >= len(fates) {
		return 0
	}
	return (fates[i]%fateCount + fateCount) % fateCount
}

func torn() content {
	var c content
	for i := range c {
		c[i] = 255
	}
	return c
}
