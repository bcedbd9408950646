package disk_test

import (
	"math/rand"
	"testing"
)

func randomText(r *rand.Rand, n int) string {
	b := make([]byte, n)
	r.Read(b)
	return string(b)
}

// randomPlace gives one that is often at an end of the log, or beyond it.
func randomPlace(r *rand.Rand, p pair) int {
	b, e := p.x.base, p.x.end()
	return pick(r, b, e, b-1, e+1, b+1, e-1, b+r.Intn(e-b+1), b+r.Intn(e-b+1), b+r.Intn(e-b+1), pick(r, least, great, -e, 0))
}

func randomFates(r *rand.Rand) []int {
	var l []int
	for range r.Intn(6) {
		l = append(l, pick(r, 0, 1, 2, r.Intn(9)-4, r.Int(), -r.Int()))
	}
	return l
}

// randomCall does one call to the disk, and the teller tells what it should be.
func randomCall(r *rand.Rand, p pair) {
	p.t.Helper()
	pages := len(p.x.leaves)
	switch r.Intn(30) {
	case 0, 1, 2, 3, 4, 5, 6:
		p.append(randomText(r, r.Intn(pick(r, 1, 4, 4, 12))))
	case 7:
		room := p.x.most - len(p.x.cells)
		p.append(randomText(r, max(0, room+pick(r, -1, 0, 0, 1, 2))))
	case 8, 9, 10:
		p.sync()
	case 11, 12, 13:
		p.cut(randomPlace(r, p))
	case 14, 15:
		p.retire(randomPlace(r, p))
	case 16, 17, 18, 19, 20, 21:
		size := pick(r, 512, 512, 512, 512, 512, 511, 513, 0)
		p.write(r.Intn(pages+2)-1, randomText(r, size))
	case 22:
		p.read(randomPlace(r, p))
	case 23:
		p.load(r.Intn(pages+2) - 1)
	case 24:
		p.fuse(pick(r, -1, 0, 1, r.Intn(12), r.Intn(12), r.Intn(12)))
	default:
		if p.x.down || r.Intn(4) == 0 {
			p.crash(pick(r, -1, 0, 1, r.Intn(6), r.Intn(12), great), r.Intn(2) == 0, randomFates(r)...)
		}
	}
}

// Random calls are held against the teller.
func TestP1402Random(t *testing.T) {
	downs := 0
	for seed := range 150 {
		r := rand.New(rand.NewSource(int64(seed)))
		p := begin(t, pick(r, 1, 5, 16, 40, 300), pick(r, 0, 1, 2, 5))
		for range 600 {
			randomCall(r, p)
			p.holds("a call")
			if p.d.Down() {
				downs++
			}
		}
	}
	if downs < 1000 || downs > 60000 {
		t.Error(downs)
	}
}

// Two disks, by turns, at random.
func TestP1401RandomTwoDisks(t *testing.T) {
	r := rand.New(rand.NewSource(1401))
	for range 20 {
		a, b := begin(t, 40, 3), begin(t, 40, 3)
		for range 300 {
			randomCall(r, a)
			b.holds("the other one")
			randomCall(r, b)
			a.holds("the other one")
		}
	}
}
