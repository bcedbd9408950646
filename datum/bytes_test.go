package datum_test

import (
	"math/rand"
	"slices"
	"strings"
	"testing"

	"longstop/api"
	"longstop/codec"
	"longstop/datum"
)

func TestP403PutExamples(t *testing.T) {
	for want, l := range map[string][]Value{
		"\x00":                                 {},
		"\x02\x00":                             {null},
		"\x04\x00\x00":                         {null, null},
		"\x02\x02\x02":                         {whole(1)},
		"\x02\x02\x01":                         {whole(-1)},
		"\x02\x02\x80\x01":                     {whole(64)},
		"\x02\x04\x0a\x00":                     {dec(5, 0)},
		"\x02\x04\x09\x0c":                     {dec(-5, 6)},
		"\x02\x06\x00":                         {text("")},
		"\x02\x06\x06a\x00'":                   {text("a\x00'")},
		"\x02\x08\x00":                         {truth(0)},
		"\x02\x08\x02":                         {truth(1)},
		"\x02\x0a\x02\x03":                     {point(1, -2)},
		"\x02\x0a\x80\x80\x80\x01\xff\xff\x7f": {point(most, -most)},
		"\x06\x06\x02a\x00\x08\x02":            {text("a"), null, truth(1)},
	} {
		same(t, "Put", ofBytes(datum.Put(l...)), of(want, api.OK), l)
		got, e := datum.Get([]byte(want))
		if e != api.OK || !slices.Equal(got, l) {
			t.Errorf("Get of %x: %v %d", want, got, e)
		}
	}
}

func TestP403PutAsTold(t *testing.T) {
	for _, v := range some() {
		same(t, "Put", ofBytes(datum.Put(v)), of(written([]Value{v}), api.OK), v)
		same(t, "Put", ofBytes(datum.Put(v, null, v)), of(written([]Value{v, null, v}), api.OK), v)
	}
	r := rand.New(rand.NewSource(44))
	for range 20000 {
		l := wildRow(r, 8)
		same(t, "Put", ofBytes(datum.Put(l...)), of(written(l), api.OK), l)
	}
}

func TestP403PutOfNothingAndOfMany(t *testing.T) {
	same(t, "Put", ofBytes(datum.Put()), of("\x00", api.OK))
	same(t, "Put", ofBytes(datum.Put(nil...)), of("\x00", api.OK))
	same(t, "Key", of(datum.Key()), of("\x00", api.OK))
	same(t, "Key", of(datum.Key(nil...)), of("\x00", api.OK))
	for _, v := range []Value{null, whole(1), text(strings.Repeat("a", api.MaxValue))} {
		for _, n := range []int{63, 64} {
			same(t, "Put", ofBytes(datum.Put(copies(n, v)...)), of(written(copies(n, v)), api.OK), n)
			same(t, "Key", of(datum.Key(copies(n, v)...)), of(keyed(copies(n, v)), api.OK), n)
		}
		for _, n := range []int{65, 66, 128, 1 << 16} {
			same(t, "Put", ofBytes(datum.Put(copies(n, v)...)), of("", api.ErrSize), n)
			same(t, "Key", of(datum.Key(copies(n, v)...)), of("", api.ErrSize), n)
		}
	}
}

// Too many is named ahead of wrong ones.
func TestP403PutAndKeyOfWrongValues(t *testing.T) {
	for _, v := range wrong() {
		for _, l := range [][]Value{{v}, {v, null}, {null, v}, {v, v}, append(copies(63, null), v)} {
			same(t, "Put", ofBytes(datum.Put(l...)), of("", api.ErrArg), l)
			same(t, "Key", of(datum.Key(l...)), of("", api.ErrArg), l)
		}
		for _, l := range [][]Value{copies(65, v), append(copies(64, null), v), append([]Value{v}, copies(64, null)...)} {
			same(t, "Put", ofBytes(datum.Put(l...)), of("", api.ErrSize), v)
			same(t, "Key", of(datum.Key(l...)), of("", api.ErrSize), v)
		}
	}
}

func refused(t *testing.T, what string, b []byte) {
	t.Helper()
	if l, e := datum.Get(b); e != api.ErrForm || len(l) != 0 {
		t.Errorf("%s: Get of %.60x: %v %d", what, b, l, e)
	}
}

func TestP403GetOfWhatIsNoRow(t *testing.T) {
	refused(t, "nil", nil)
	refused(t, "nothing", []byte{})
	for _, v := range append(some(), some()[:5]...) {
		b := put(t, v, v)
		for end := range b {
			refused(t, "cut short", b[:end:end])
			refused(t, "cut short, with room", b[:end])
		}
		for _, more := range []string{"\x00", "\x01", "\xff", string(b)} {
			refused(t, "more behind", append(slices.Clone(b), more...))
		}
	}
	refused(t, "more behind nothing", []byte("\x00\x00"))
	refused(t, "one too few", []byte("\x06\x00\x00"))
	refused(t, "one too many", []byte("\x02\x00\x00"))
}

func TestP403GetOfWrongCounts(t *testing.T) {
	for _, n := range []int{-1, -2, -64, least, 65, 66, 1 << 16, 1 << 40, great} {
		for _, behind := range []int{0, 1, 64, 65, 66, 1 << 16} {
			refused(t, "a wrong count", append(codec.Number(n), make([]byte, behind)...))
		}
	}
	if l, e := datum.Get(append(codec.Number(64), make([]byte, 64)...)); e != api.OK || !slices.Equal(l, copies(64, null)) {
		t.Errorf("64 Nulls: %v %d", l, e)
	}
}

// Values that may not be, told in the parts that their Kind names.
func TestP403GetOfWrongValues(t *testing.T) {
	for _, v := range wrong() {
		if !mayBe(stripped(v)) {
			refused(t, "a wrong value", []byte(written([]Value{v})))
			refused(t, "a wrong value behind one", []byte(written([]Value{whole(1), v})))
			refused(t, "a wrong value ahead of one", []byte(written([]Value{v, whole(1)})))
		}
	}
	for kind := 6; kind < 300; kind++ {
		for _, behind := range []string{"", "\x00", "\x00\x00", "\x02a"} {
			refused(t, "no Kind", slices.Concat([]byte{2}, codec.Number(kind), []byte(behind)))
			refused(t, "no Kind", slices.Concat([]byte{2}, codec.Number(-kind), []byte(behind)))
		}
	}
}

// stripped gives what a value's bytes tell of it.
func stripped(v Value) Value {
	switch v.Kind {
	case api.Null:
		return Value{}
	case api.Int, api.Bool:
		return Value{Kind: v.Kind, N: v.N}
	case api.Text:
		return Value{Kind: v.Kind, B: v.B}
	}
	return Value{Kind: v.Kind, N: v.N, M: v.M}
}

// Numbers that are padded, and values with a part that their Kind does not name.
func TestP403GetOfWhatIsWrittenOtherwise(t *testing.T) {
	for _, s := range []string{
		"\x80\x00", "\x82\x00\x00", "\x02\x80\x00", "\x02\x82\x00\x02", "\x02\x02\x82\x00", "\x02\x02\x80\x80\x00", "\x02\x04\x8a\x00\x00", "\x02\x04\x0a\x80\x00",
		"\x02\x86\x00\x02a", "\x02\x06\x82\x00a", "\x02\x06\x80\x00", "\x02\x08\x80\x00", "\x02\x08\x82\x00", "\x02\x8a\x00\x02\x03", "\x02\x0a\x82\x00\x03", "\x02\x0a\x02\x83\x00",
		"\x02\x00\x00\x00\x00", "\x02\x02\x02\x00", "\x02\x02\x02\x00\x00", "\x02\x04\x0a\x00\x00", "\x02\x06\x00\x00\x02a", "\x02\x06\x02a\x00", "\x02\x08\x02\x00", "\x02\x0a\x02\x03\x00",
		"\x02\x02\xff\xff\xff\xff\xff\xff\xff\xff\xff\x02", "\x02\x02\xff\xff\xff\xff\xff\xff\xff\xff\xff\xff\x01", "\x02\x06\x01a", "\x02\x06\x04a", "\x02\x06\x80\x80\x80\x02a",
	} {
		refused(t, "written otherwise", []byte(s))
	}
}

func TestP407GetOfPut(t *testing.T) {
	r := rand.New(rand.NewSource(45))
	all := some()
	for _, v := range all {
		got, e := datum.Get(put(t, v))
		if e != api.OK || len(got) != 1 || got[0] != v {
			t.Fatalf("Get of Put of %v: %v %d", v, got, e)
		}
	}
	for range 20000 {
		l := wildRow(r, 64)
		for i := range l {
			if r.Intn(4) == 0 {
				l[i] = all[r.Intn(len(all))]
			}
		}
		got, e := datum.Get(put(t, l...))
		if e != api.OK || !slices.Equal(got, l) {
			t.Fatalf("Get of Put of %v: %v %d", l, got, e)
		}
	}
}

// Whatever is told as a row is what Put writes.
func TestP407NothingElseIsARow(t *testing.T) {
	r := rand.New(rand.NewSource(46))
	told := 0
	for range 300000 {
		b := spoilt(r, put(t, wildRow(r, 3)...))
		l, e := datum.Get(b)
		if e == api.OK {
			told++
			same(t, "Put of Get", string(put(t, l...)), string(b), b)
		} else if e != api.ErrForm || len(l) != 0 {
			t.Fatalf("Get of %x: %v %d", b, l, e)
		}
	}
	if told == 0 {
		t.Error("no bytes were told at all")
	}
}

func TestP401BytesAreApart(t *testing.T) {
	room := []Value{text("a"), dec(15, 1), null, whole(3)}
	was := slices.Clone(room)
	one, two := put(t, room[:3]...), put(t, room[:3]...)
	want := string(one)
	scribble(two)
	key(t, room[:3]...)
	if !slices.Equal(room, was) || string(one) != want {
		t.Errorf("%v %x", room, one)
	}
	behind := append([]byte(want), 77, 78)
	first, _ := datum.Get(behind[:len(want)])
	second, _ := datum.Get(behind[:len(want)])
	if string(behind) != want+"\x4d\x4e" {
		t.Errorf("%x", behind)
	}
	scribble(behind)
	for i := range first[:cap(first)] {
		first[:cap(first)][i] = whole(170)
	}
	if !slices.Equal(second, was[:3]) || string(put(t, room[:3]...)) != want {
		t.Errorf("%v", second)
	}
}

// scribble writes over a list and over the room behind it.
func scribble(b []byte) {
	b = b[:cap(b)]
	for i := range b {
		b[i] = 170
	}
}

func TestP401PureFunctions(t *testing.T) {
	r := rand.New(rand.NewSource(47))
	for range 2000 {
		l := wildRow(r, 5)
		b, k := put(t, l...), key(t, l...)
		datum.Get(spoilt(r, b))
		datum.Put(wrong()...)
		datum.Parse(spoilt(r, k))
		same(t, "Put again", string(put(t, l...)), string(b), l)
		same(t, "Key again", key(t, l...), k, l)
	}
}
