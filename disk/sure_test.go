package disk_test

import (
	"math/rand"
	"strings"
	"testing"

	"longstop/api"
	"longstop/disk"
)

// keeper keeps what P1404 and P1405 speak of: what is sure of the log, by its
// places; what was appended behind it; and what each page may be.
type keeper struct {
	t         *testing.T
	d         *disk.Disk
	base, end int
	sure      map[int]byte
	behind    string
	pages     []string
	written   []string // since the last Sync, "" of none
}

func keep(t *testing.T, most, pages int) *keeper {
	t.Helper()
	d, e := disk.New(most, pages)
	if e != api.OK {
		t.Fatal(e)
	}
	k := &keeper{t: t, d: d, sure: map[int]byte{}, written: make([]string, pages)}
	for range pages {
		k.pages = append(k.pages, pageOf(zeros))
	}
	return k
}

// surely is where what is sure ends.
func (k *keeper) surely() int { return k.end - len(k.behind) }

func (k *keeper) append(s string) {
	if _, e := k.d.Append([]byte(s)); e == api.OK {
		k.behind += s
		k.end += len(s)
	}
}

func (k *keeper) sync() {
	if k.d.Sync() == api.OK {
		k.settle()
	}
}

func (k *keeper) settle() {
	for i := range len(k.behind) {
		k.sure[k.surely()+i] = k.behind[i]
	}
	for i, s := range k.written {
		if s != "" {
			k.pages[i], k.written[i] = s, ""
		}
	}
	k.behind = ""
}

func (k *keeper) cut(at int) {
	if k.d.Cut(at) != api.OK {
		return
	}
	from := k.surely()
	for place := range k.sure {
		if place >= at {
			delete(k.sure, place)
		}
	}
	k.behind = k.behind[:max(0, at-from)]
	k.end = at
}

func (k *keeper) retire(at int) {
	if k.d.Retire(at) != api.OK {
		return
	}
	for place := range k.sure {
		if place < at {
			delete(k.sure, place)
		}
	}
	k.behind = k.behind[max(0, at-k.surely()):]
	k.base = at
}

func (k *keeper) write(page int, s string) {
	if k.d.Write(page, []byte(s)) == api.OK {
		k.written[page] = s
	}
}

// crash looks at what there is then: all that was sure; behind it a beginning of
// what was appended, of which the last byte may be torn; and pages that are as
// they were sure, or, if they were written, as they were written, or torn.
func (k *keeper) crash(stay int, torn bool, fates []int) {
	k.t.Helper()
	sure := k.surely()
	k.d.Crash(stay, torn, fates)
	b, e := k.d.Read(k.base)
	if e != api.OK || k.d.Base() != k.base || k.d.End() != k.base+len(b) || k.d.End() < sure || k.d.End() > k.end {
		k.t.Fatalf("from %d to %d, error %d, not from %d to %d..%d", k.d.Base(), k.d.End(), e, k.base, sure, k.end)
	}
	for i := range sure - k.base {
		if b[i] != k.sure[k.base+i] {
			k.t.Fatalf("the byte at %d was sure, and is another one", k.base+i)
		}
	}
	k.behind = k.beginning(string(b[sure-k.base:]), torn)
	k.end = k.d.End()
	for i := range k.pages {
		k.page(i)
	}
	k.settle()
}

// beginning complains unless s is a beginning of what was appended.
func (k *keeper) beginning(s string, torn bool) string {
	k.t.Helper()
	n := len(s)
	if torn && n > 0 {
		n--
		if s[n] == k.behind[n] {
			k.t.Fatal("the last byte is not torn")
		}
	}
	if !strings.HasPrefix(k.behind, s[:n]) {
		k.t.Fatalf("%s is no beginning of %s", short(s), short(k.behind))
	}
	return s
}

func (k *keeper) page(i int) {
	k.t.Helper()
	b, e := k.d.Load(i)
	s := string(b)
	if e != api.OK || s != k.pages[i] && (k.written[i] == "" || s != k.written[i] && s != pageOf("\xff")) {
		k.t.Fatalf("page %d: error %d, or what nobody wrote", i, e)
	}
	k.pages[i], k.written[i] = s, ""
}

func (k *keeper) place(r *rand.Rand) int { return k.base + r.Intn(k.end-k.base+1) }

// step does one call. Bytes of neighbours are mostly unlike, so that one at a
// wrong place is seen.
func (k *keeper) step(r *rand.Rand) {
	k.t.Helper()
	switch r.Intn(20) {
	case 0, 1, 2, 3, 4, 5, 6:
		k.append(randomText(r, r.Intn(9)))
	case 7, 8, 9:
		k.sync()
	case 10:
		k.cut(k.place(r))
	case 11:
		k.retire(k.place(r))
	case 12, 13, 14, 15, 16:
		k.write(r.Intn(len(k.pages)), randomText(r, 512))
	case 17:
		k.d.Fuse(r.Intn(20))
	default:
		k.crash(r.Intn(12)-1, r.Intn(2) == 0, randomFates(r))
	}
}

func longRow(t *testing.T, seed int64) {
	t.Helper()
	r := rand.New(rand.NewSource(seed))
	for range 40 {
		k := keep(t, pick(r, 10, 100, 1000), 1+r.Intn(6))
		for range 1000 {
			k.step(r)
		}
		k.crash(0, true, nil)
	}
}

func TestP1404LongRows(t *testing.T) { longRow(t, 1404) }

func TestP1405LongRows(t *testing.T) { longRow(t, 1405) }

// What is sure stays whatever is kept, torn or fated, however often.
func TestP1404Sure(t *testing.T) {
	for stay := -1; stay < 6; stay++ {
		for _, torn := range []bool{false, true} {
			for fate := range 3 {
				d, _ := disk.New(100, 3)
				d.Append([]byte("sure"))
				d.Write(0, []byte(pageOf("a")))
				d.Write(2, []byte(pageOf("b")))
				d.Sync()
				for i := range 5 {
					d.Append([]byte("more"))
					d.Write(1, []byte(pageOf("c")))
					if i == 3 {
						d.Fuse(0)
						d.Sync()
					}
					d.Crash(stay, torn, []int{fate, fate, fate})
					b, _ := d.Read(0)
					if !strings.HasPrefix(string(b), "sure") {
						t.Fatalf("%q", b)
					}
					isPage(t, d, 0, pageOf("a"))
					isPage(t, d, 2, pageOf("b"))
				}
			}
		}
	}
}

// What was sure and is cut, retired or written anew does not count as sure.
func TestP1404ButCutRetiredWritten(t *testing.T) {
	d, _ := disk.New(100, 2)
	d.Append([]byte("abcdef"))
	d.Write(0, []byte(pageOf("a")))
	d.Write(1, []byte(pageOf("b")))
	d.Sync()
	d.Cut(4)
	d.Retire(1)
	d.Write(1, []byte(pageOf("c")))
	d.Append([]byte("xyz"))
	d.Crash(0, true, []int{2})
	isLog(t, d, 1, "bcd")
	isPage(t, d, 0, pageOf("a"))
	isPage(t, d, 1, pageOf("\xff"))
}

// Whatever is kept, there is nothing but what was sure and a beginning of what
// was appended.
func TestP1405NothingElse(t *testing.T) {
	for stay := range 12 {
		d, _ := disk.New(100, 0)
		d.Append([]byte("abcdef"))
		d.Sync()
		d.Append([]byte("ghijkl"))
		d.Cut(8)
		d.Append([]byte("mno"))
		d.Crash(stay, false, nil)
		isLog(t, d, 0, "abcdefghmno"[:6+min(stay, 5)])
		// Nor does what is gone come back when there is room for it again.
		d.Append([]byte("pqr"))
		d.Crash(1, false, nil)
		isLog(t, d, 0, "abcdefghmno"[:6+min(stay, 5)]+"p")
	}
}

// An Append that had no power leaves nothing.
func TestP1405NoPower(t *testing.T) {
	d, _ := disk.New(100, 1)
	d.Append([]byte("ab"))
	d.Fuse(1)
	d.Append([]byte("cd"))
	d.Append([]byte("ef"))
	d.Append([]byte("gh"))
	d.Cut(1)
	d.Retire(1)
	d.Write(0, []byte(pageOf("x")))
	d.Crash(100, false, []int{1})
	isLog(t, d, 0, "abcd")
	isPage(t, d, 0, pageOf(zeros))
}
