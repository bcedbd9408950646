package wal_test

import (
	"math/rand"
	"testing"

	"longstop/api"
	"longstop/disk"
	"longstop/wal"
)

// keeper keeps what P1505 speaks of: which records were there at the last Sync
// or Open, and which were appended behind them; and what P1506 does: each
// record's place.
type keeper struct {
	t           *testing.T
	d           *disk.Disk
	w           *wal.Wal
	sure, loose []note
	last        int // the place behind which the next record must stand
}

func keep(t *testing.T, most int) *keeper {
	t.Helper()
	k := &keeper{t: t, d: newDisk(t, most)}
	k.open()
	return k
}

// open looks at what there is: all that was sure, then a beginning of the others.
func (k *keeper) open() {
	k.t.Helper()
	w, l, e := wal.Open(k.d)
	if e == api.ErrPower && k.d.Down() {
		return
	}
	if e != api.OK || len(l) < len(k.sure) || len(l) > len(k.sure)+len(k.loose) {
		k.t.Fatalf("Open: %d records, error %d, not from %d to %d", len(l), e, len(k.sure), len(k.sure)+len(k.loose))
	}
	k.w = w
	k.sure = append(k.sure, k.loose...)[:len(l)]
	k.loose = nil
	isList(k.t, "Open", l, k.sure)
	k.last = k.d.Base()
	if n := len(l); n > 0 {
		k.last = l[n-1].At + sizeOf(string(l[n-1].B))
	}
	if k.d.End() != k.last {
		k.t.Fatalf("End %d, not %d", k.d.End(), k.last)
	}
}

func (k *keeper) append(s string) {
	k.t.Helper()
	at, e := k.w.Append([]byte(s))
	if e != api.OK {
		return
	}
	if at < k.last {
		k.t.Fatalf("a record at %d, below %d", at, k.last)
	}
	k.loose = append(k.loose, note{at: at, in: s})
	k.last = at + sizeOf(s)
}

func (k *keeper) sync() {
	if k.w.Sync() == api.OK {
		k.sure, k.loose = append(k.sure, k.loose...), nil
	}
}

// all gives the records as they should be now.
func (k *keeper) all() []note { return append(k.sure[:len(k.sure):len(k.sure)], k.loose...) }

// place gives one where a record begins, or the End.
func (k *keeper) place(r *rand.Rand) int {
	l := k.all()
	if i := r.Intn(len(l) + 1); i < len(l) {
		return l[i].at
	}
	return k.d.End()
}

func (k *keeper) truncate(at int) {
	if k.w.Truncate(at) == api.OK {
		below := func(x note) bool { return x.at < at }
		k.sure, k.loose = only(k.sure, below), only(k.loose, below)
		k.last = at
	}
}

func (k *keeper) retire(at int) {
	if k.w.Retire(at) == api.OK {
		fromHere := func(x note) bool { return x.at >= at }
		k.sure, k.loose = only(k.sure, fromHere), only(k.loose, fromHere)
	}
}

func only(l []note, ok func(note) bool) []note {
	var some []note
	for _, x := range l {
		if ok(x) {
			some = append(some, x)
		}
	}
	return some
}

// same complains unless each record is still at its place.
func (k *keeper) same(r *rand.Rand) {
	k.t.Helper()
	l, e := k.w.Since(k.d.Base())
	if e != api.OK {
		k.t.Fatal(e)
	}
	isList(k.t, "Since Base", l, k.all())
	if n := len(k.all()); n > 0 {
		i := r.Intn(n)
		l, e := k.w.Since(k.all()[i].at)
		if e != api.OK {
			k.t.Fatal(e)
		}
		isList(k.t, "Since a place", l, k.all()[i:])
	}
}

func (k *keeper) crash(r *rand.Rand) {
	k.t.Helper()
	k.d.Crash(pick(r, -1, 0, r.Intn(20), r.Intn(60), great), r.Intn(2) == 0, nil)
	if r.Intn(6) == 0 {
		k.d.Fuse(r.Intn(2))
		k.open()
		if k.d.Down() {
			k.d.Crash(pick(r, 0, r.Intn(20), great), r.Intn(2) == 0, nil)
		}
	}
	k.open()
}

func (k *keeper) step(r *rand.Rand) {
	k.t.Helper()
	switch r.Intn(20) {
	case 0, 1, 2, 3, 4, 5, 6, 7:
		k.append(randomText(r, r.Intn(pick(r, 1, 5, 5, 90))))
	case 8, 9, 10:
		k.sync()
	case 11, 12:
		k.truncate(k.place(r))
	case 13:
		k.retire(k.place(r))
	case 14:
		k.d.Fuse(r.Intn(12))
	case 15:
		k.open()
	case 16, 17:
		k.crash(r)
	default:
		k.same(r)
	}
}

func longRow(t *testing.T, seed int64) {
	t.Helper()
	r := rand.New(rand.NewSource(seed))
	for range 60 {
		k := keep(t, pick(r, 20, 100, 1000, 5000))
		for range 600 {
			k.step(r)
			if k.d.Down() {
				k.same(r)
				k.crash(r)
			}
		}
		k.d.Crash(0, true, nil)
		k.open()
	}
}

func TestP1505LongRows(t *testing.T) { longRow(t, 1505) }

func TestP1506LongRows(t *testing.T) { longRow(t, 1506) }

// Whatever is kept or torn of two records behind one that is sure.
func TestP1505KeptOrTorn(t *testing.T) {
	l := []string{"sure", "one", repeated(100)}
	for keep := -1; keep < 130; keep++ {
		for _, torn := range []bool{false, true} {
			p := started(t, 1000, l[0])
			p.all(p.sync(), p.append(l[1]), p.append(l[2]))
			p.d.Crash(keep, torn, nil)
			good := max(keep, 0)
			if torn && good <= 122 {
				good--
			}
			if torn && keep > 122 {
				good = 121
			}
			want := l[:1]
			if good >= 12 {
				want = l[:2]
			}
			if good >= 122 {
				want = l
			}
			opens(t, p.d, 0, want...)
		}
	}
}

// Every byte that may be torn, in a record of every length that matters.
func TestP1505Torn(t *testing.T) {
	for _, s := range []string{"", "a", "\x00", repeated(62), repeated(63), repeated(64), repeated(200), repeated(8192)} {
		for keep := 1; keep <= sizeOf(s); keep += 1 + keep/300*37 {
			p := started(t, 20000, "sure")
			p.all(p.sync(), p.append(s))
			p.d.Crash(keep, true, nil)
			w := opens(t, p.d, 0, "sure")
			if at, e := w.Append([]byte("on")); at != sizeOf("sure") || e != api.OK {
				t.Fatal(at, e)
			}
			isLog(t, w, p.d, 0, "sure", "on")
		}
	}
}

// The power goes at each operation of a row of calls, and then whatever is kept.
func TestP1505EachOperation(t *testing.T) {
	for fuse := range 14 {
		for _, stay := range []int{0, 1, 9, 10, 11, 25, great} {
			for _, torn := range []bool{false, true} {
				k := keep(t, 200)
				k.d.Fuse(fuse)
				k.append("a")
				k.append("b")
				k.sync()
				k.append("c")
				k.append("d")
				k.truncate(30)
				k.append("e")
				k.sync()
				k.retire(10)
				k.append("f")
				k.append("g")
				k.open()
				k.append("h")
				k.d.Crash(stay, torn, nil)
				k.open()
			}
		}
	}
}

// What was truncated or retired does not come back, nor does a tail.
func TestP1505NothingElse(t *testing.T) {
	p := started(t, 1000, "a", "b", "c")
	p.all(p.sync(), p.truncate(10), p.retire(10))
	for range 3 {
		p.crash(great, false)
		p.all(p.open())
		p.has(10)
	}
	p.all(p.append("d"), p.append("e"))
	p.crash(15, false)
	p.all(p.open())
	p.has(10, "d")
	p.all(p.append("x"))
	p.crash(10, false)
	p.all(p.open())
	p.has(10, "d", "x")
}

// A record keeps its place, whatever comes and goes round it.
func TestP1506Places(t *testing.T) {
	p := started(t, 1000, "a", "b", "keep", "c", "d")
	const at = 20
	stays := func() {
		t.Helper()
		if l, e := p.w.Since(at); e != api.OK || len(l) == 0 || l[0].At != at || string(l[0].B) != "keep" {
			t.Fatal(short(l), e)
		}
	}
	p.all(p.sync(), p.truncate(43))
	stays()
	p.all(p.truncate(33), p.append("other"), p.retire(10))
	stays()
	p.all(p.open())
	stays()
	p.all(p.append("x"), p.retire(at), p.sync())
	stays()
	p.crash(0, true)
	p.all(p.open())
	stays()
	p.all(p.truncate(33))
	stays()
}

func TestP1506PlacesRise(t *testing.T) {
	p := begin(t, 100)
	last := -1
	for i := range 200 {
		at, e := p.w.Append([]byte(repeated(i % 7)))
		if e == api.ErrFull {
			if p.w.Retire(p.d.End()) != api.OK {
				t.Fatal("Retire")
			}
			continue
		}
		if at <= last || e != api.OK {
			t.Fatal(at, last, e)
		}
		last = at
	}
}
