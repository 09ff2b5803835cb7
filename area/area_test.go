package area_test

import (
	"bytes"
	"iter"
	"maps"
	"math"
	"math/rand"
	"slices"
	"testing"

	"tripwire/api"
	"tripwire/area"
	"tripwire/dict"
)

// The calls have just these signatures.
var (
	_ func(api.Slot) (int64, api.Errno)              = area.Word
	_ func(int64) (api.Slot, api.Errno)              = area.Slot
	_ func(*dict.Dict) api.Errno                     = area.Lay
	_ func(*dict.Dict, int) (api.Channel, api.Errno) = area.Load
	_ func(*dict.Dict, int, api.Channel) api.Errno   = area.Store
	_ func(*dict.Dict, api.Channel) bool             = area.Fits
	_ func(api.Key) bool                             = area.Safe
	_ func(*dict.Dict, api.Key, []byte) api.Abort    = area.Write
	_ func(*dict.Dict) bool                          = area.Flag
	_ func(*dict.Dict, bool) api.Errno               = area.SetFlag
	_ func(*dict.Dict) iter.Seq2[int, api.Channel]   = area.Channels
)

// key is a name.
func key(index, sub int) api.Key { return api.Key{Index: index, Sub: sub} }

// slot is a slot.
func slot(index, sub, bits int) api.Slot { return api.Slot{Key: key(index, sub), Bits: bits} }

// row is what the document's table says of an entry: its name, what it may hold, and what it holds at first.
type row struct {
	k     api.Key
	s     api.Spec
	first string
}

// rows are the document's table, in its order.
func rows() []row {
	spec := func(k api.Kind, low, high int64) api.Spec {
		return api.Spec{Kind: k, Access: api.ReadWrite, Low: low, High: high}
	}
	fixed := func(n int64) api.Spec { return api.Spec{Kind: api.U8, Access: api.Constant, Low: n, High: n} }
	var l []row
	for c := range 4 {
		i := 0x1301 + c
		l = append(l,
			row{key(i, 0), fixed(6), "\x06"},
			row{key(i, 1), spec(api.U8, 0, 2), "\x00"},
			row{key(i, 2), spec(api.U16, 1, 65535), "\x01\x00"},
			row{key(i, 3), spec(api.U16, 1, 65535), "\x01\x00"},
			row{key(i, 4), fixed(254), "\xfe"},
			row{key(i, 5), spec(api.U32, 0x101, 0x17f), "\x01\x01\x00\x00"},
			row{key(i, 6), spec(api.U32, 0x102, 0x180), "\x02\x01\x00\x00"})
	}
	for c := range 4 {
		i := 0x1381 + c
		l = append(l, row{key(i, 0), spec(api.U8, 0, 8), "\x00"})
		for sub := 1; sub <= 8; sub++ {
			l = append(l, row{key(i, sub), spec(api.U32, 0, 4294967295), "\x00\x00\x00\x00"})
		}
	}
	l = append(l, row{key(0x13fe, 0), spec(api.U8, 0, 255), "\x00"}, row{key(0x13ff, 0), fixed(4), "\x04"})
	for c := range 4 {
		l = append(l, row{key(0x13ff, c+1), spec(api.U16, 0, 65535), "\x00\x00"})
	}
	return l
}

// held is what an entry is and holds.
type held struct {
	spec api.Spec
	has  string
}

// all is all that a dictionary holds.
func all(t *testing.T, d *dict.Dict) map[api.Key]held {
	t.Helper()
	l := map[api.Key]held{}
	for k := range d.Keys() {
		b, there := d.Raw(k)
		s, is := d.Spec(k)
		if !there || !is {
			t.Fatal(k, "is not there")
		}
		l[k] = held{s, string(b)}
	}
	return l
}

// laid has the safety section, and entries that may be mapped, and some that may not.
func laid(t *testing.T) *dict.Dict {
	t.Helper()
	d := dict.New()
	if e := area.Lay(d); e != api.OK {
		t.Fatal(e)
	}
	put := func(k api.Key, kind api.Kind, a api.Access, low, high int64) {
		t.Helper()
		if e := d.Add(k, api.Spec{Kind: kind, Access: a, Low: low, High: high}, nil); e != api.OK {
			t.Fatal(k, e)
		}
	}
	put(key(0x2000, 1), api.U8, api.ReadWrite, 0, 255)
	put(key(0x2000, 2), api.U16, api.ReadWrite, 0, 65535)
	put(key(0x2000, 3), api.U32, api.ReadWrite, 0, 100)
	put(key(0x2000, 4), api.I8, api.ReadOnly, -5, 5)
	put(key(0x2000, 5), api.I16, api.WriteOnly, -5, 5)
	put(key(0x2000, 6), api.I32, api.ReadWrite, -5, 5)
	put(key(0x2000, 7), api.Bool, api.ReadWrite, 0, 1)
	put(key(0x2000, 8), api.U8, api.Constant, 0, 1)
	put(key(0x2000, 9), api.Text, api.ReadWrite, 1, 1)
	put(key(0x2000, 10), api.Text, api.ReadWrite, 0, 4)
	for sub := range 8 {
		put(key(0x2100, sub), api.U8, api.ReadWrite, 0, 255)
	}
	put(key(0x1300, 0), api.U8, api.ReadWrite, 0, 255)
	put(key(0x1305, 1), api.U8, api.ReadWrite, 0, 255)
	put(key(0x1340, 255), api.U8, api.ReadWrite, 0, 255)
	put(key(0x1341, 0), api.U8, api.ReadWrite, 0, 255)
	put(key(0x1380, 0), api.U8, api.ReadWrite, 0, 255)
	put(key(0x13c0, 0), api.U8, api.ReadWrite, 0, 255)
	put(key(0x13c1, 0), api.U8, api.ReadWrite, 0, 255)
	put(key(0x13fd, 0), api.U8, api.ReadWrite, 0, 255)
	put(key(0x13fe, 1), api.U8, api.ReadWrite, 0, 255)
	put(key(0x13ff, 5), api.U8, api.ReadWrite, 0, 255)
	put(key(0x13ff, 255), api.U8, api.ReadWrite, 0, 255)
	put(key(0x1400, 0), api.U8, api.ReadWrite, 0, 255)
	return d
}

// some is a table that fits what laid makes.
func some() api.Channel {
	x := api.Channel{Dir: api.Takes, Time: 9, Gap: 300, Plain: 0x103, Turned: 0x104, N: 3}
	x.Map[0] = slot(0x2000, 1, 8)
	x.Map[1] = slot(0x2000, 2, 16)
	x.Map[2] = slot(0x2000, 6, 32)
	return x
}

// with is a table with something of it changed.
func with(x api.Channel, change func(*api.Channel)) api.Channel {
	change(&x)
	return x
}

// of is a table that maps these.
func of(l ...api.Slot) api.Channel {
	x := some()
	x.N = copy(x.Map[:], l)
	for i := x.N; i < len(x.Map); i++ {
		x.Map[i] = api.Slot{}
	}
	return x
}

// odd is the safety section with another spec of one of its entries (none of it, if that is no spec).
func odd(t *testing.T, k api.Key, s api.Spec, first []byte) *dict.Dict {
	t.Helper()
	d := dict.New()
	for _, r := range rows() {
		b := []byte(r.first)
		if r.k == k {
			r.s, b = s, first
		}
		if e := d.Add(r.k, r.s, b); e != api.OK && r.k != k {
			t.Fatal(r.k, e)
		}
	}
	return d
}

// The document's example.
func TestExample(t *testing.T) {
	if n, e := area.Word(slot(0x2000, 1, 16)); n != 0x20000110 || e != api.OK {
		t.Fatal(n, e)
	}
	if s, e := area.Slot(0x20000110); s != slot(0x2000, 1, 16) || e != api.OK {
		t.Fatal(s, e)
	}
}

// P15.1: slots as numbers.
func TestWord(t *testing.T) {
	for _, x := range []struct {
		s api.Slot
		n int64
	}{
		{slot(0, 0, 0), 0},
		{slot(0, 0, 1), 1},
		{slot(0, 0, 255), 255},
		{slot(0, 1, 0), 256},
		{slot(0, 255, 0), 65280},
		{slot(1, 0, 0), 65536},
		{slot(65535, 0, 0), 4294901760},
		{slot(65535, 255, 255), 4294967295},
		{slot(0x8000, 0x80, 0x80), 0x80008080},
		{slot(0x2100, 6, 8), 0x21000608},
	} {
		if n, e := area.Word(x.s); n != x.n || e != api.OK {
			t.Fatal(x.s, n, e)
		}
		if s, e := area.Slot(x.n); s != x.s || e != api.OK {
			t.Fatal(x.n, s, e)
		}
	}
	for range 1000 {
		n := int64(rand.Uint32())
		s, e := area.Slot(n)
		back, other := area.Word(s)
		if e != api.OK || other != api.OK || back != n || int64(s.Key.Index)*65536+int64(s.Key.Sub)*256+int64(s.Bits) != n {
			t.Fatal(n, s, back)
		}
	}
}

// P15.1: what is no slot with a word, and what is no word.
func TestNoWord(t *testing.T) {
	for _, s := range []api.Slot{
		slot(-1, 0, 0), slot(65536, 0, 0), slot(math.MaxInt, 0, 0), slot(math.MinInt, 0, 0), slot(1<<32, 0, 0), slot(1<<48+5, 0, 0),
		slot(5, -1, 0), slot(5, 256, 0), slot(5, math.MaxInt, 0), slot(5, math.MinInt, 0), slot(5, 1<<32, 0),
		slot(5, 5, -1), slot(5, 5, 256), slot(5, 5, math.MaxInt), slot(5, 5, math.MinInt), slot(5, 5, 1<<32),
		slot(1, -256, 0), slot(0, 1, -256), slot(-1, 256, 0),
	} {
		if n, e := area.Word(s); n != 0 || e != api.ErrArg {
			t.Fatal(s, n, e)
		}
	}
	for _, n := range []int64{-1, -65536, 4294967296, 4294967297, math.MaxInt64, math.MinInt64} {
		if s, e := area.Slot(n); s != (api.Slot{}) || e != api.ErrArg {
			t.Fatal(n, s, e)
		}
	}
}

// P15.1: all entries, what they may hold, and what they hold at first.
func TestLay(t *testing.T) {
	d := dict.New()
	if e := area.Lay(d); e != api.OK {
		t.Fatal(e)
	}
	want := map[api.Key]held{}
	for _, r := range rows() {
		want[r.k] = held{r.s, r.first}
	}
	if got := all(t, d); !maps.Equal(got, want) || d.Len() != 70 || d.Changes() != 0 {
		t.Fatal(got)
	}
	if e := area.Lay(d); e != api.ErrTwice || !maps.Equal(all(t, d), want) {
		t.Fatal(e)
	}
	if e := area.Lay(nil); e != api.ErrNil {
		t.Fatal(e)
	}
}

// P15.1: in the table's order: what was added ahead of an error stays.
func TestLayTwice(t *testing.T) {
	l := rows()
	other := api.Spec{Kind: api.Text, Access: api.ReadOnly, Low: 1, High: 2}
	for at, r := range l {
		d := dict.New()
		d.Add(r.k, other, []byte("x"))
		want := map[api.Key]held{r.k: {other, "x"}}
		for _, ahead := range l[:at] {
			want[ahead.k] = held{ahead.s, ahead.first}
		}
		if e := area.Lay(d); e != api.ErrTwice {
			t.Fatal(r.k, e)
		}
		if got := all(t, d); !maps.Equal(got, want) {
			t.Fatal(r.k, got)
		}
	}
}

// P15.1: as many as find room.
func TestLayFull(t *testing.T) {
	l := rows()
	for room := range len(l) + 2 {
		d := dict.New()
		for i := range 512 - room {
			d.Add(key(0x3000+i, 0), api.Spec{Kind: api.U8, Access: api.ReadOnly, High: 9}, nil)
		}
		want := api.ErrFull
		if room >= len(l) {
			want = api.OK
		}
		if e := area.Lay(d); e != want {
			t.Fatal(room, e)
		}
		for i, r := range l {
			if _, there := d.Raw(r.k); there != (i < room) {
				t.Fatal(room, r.k)
			}
		}
	}
}

// P15.2, P15.5: what stands in the entries is a channel's table.
func TestLoad(t *testing.T) {
	d := laid(t)
	for c := range 4 {
		x, e := area.Load(d, c)
		if e != api.OK || x != (api.Channel{Time: 1, Gap: 1, Plain: 0x101, Turned: 0x102}) {
			t.Fatal(c, x, e)
		}
	}
	d.Set(key(0x1303, 1), 1)
	d.Set(key(0x1303, 2), 65535)
	d.Set(key(0x1303, 3), 7)
	d.Set(key(0x1303, 5), 0x17f)
	d.Set(key(0x1303, 6), 0x102)
	d.Set(key(0x1383, 0), 2)
	d.Set(key(0x1383, 1), 0x20000108)
	d.Set(key(0x1383, 2), 0xffffffff)
	d.Set(key(0x1383, 3), 0x20000210) // behind N: not told
	d.Set(key(0x13ff, 3), 999)
	want := api.Channel{Dir: api.Sends, Time: 65535, Gap: 7, Plain: 0x17f, Turned: 0x102, N: 2}
	want.Map[0], want.Map[1] = slot(0x2000, 1, 8), slot(0xffff, 255, 255)
	if x, e := area.Load(d, 2); x != want || e != api.OK {
		t.Fatal(x, e)
	}
	d.Set(key(0x1383, 0), 8)
	want.N = 8
	want.Map[2] = slot(0x2000, 2, 16)
	if x, e := area.Load(d, 2); x != want || e != api.OK {
		t.Fatal(x, e)
	}
	for _, c := range []int{0, 1, 3} {
		if x, _ := area.Load(d, c); x.Dir != api.Off || x.N != 0 {
			t.Fatal(c, x)
		}
	}
}

// P15.2: no channel, and no dictionary.
func TestNoChannel(t *testing.T) {
	d := laid(t)
	d.Add(key(0x1300, 1), api.Spec{Kind: api.U8, Access: api.ReadWrite, High: 9}, nil)
	want := all(t, d)
	wrong := with(some(), func(x *api.Channel) { x.N = 9 })
	for _, c := range []int{-1, -2, 4, 5, 63, 64, 256, 1 << 32, math.MaxInt, math.MaxInt - 0x13ff, math.MinInt} {
		if x, e := area.Load(d, c); x != (api.Channel{}) || e != api.ErrRange {
			t.Fatal(c, x, e)
		}
		for _, x := range []api.Channel{some(), wrong} {
			if e := area.Store(d, c, x); e != api.ErrRange {
				t.Fatal(c, e)
			}
			if e := area.Store(nil, c, x); e != api.ErrNil {
				t.Fatal(c, e)
			}
		}
		if x, e := area.Load(nil, c); x != (api.Channel{}) || e != api.ErrNil {
			t.Fatal(c, x, e)
		}
	}
	if !maps.Equal(all(t, d), want) {
		t.Fatal("something has changed")
	}
	if x, e := area.Load(dict.New(), 0); x != (api.Channel{}) || e != api.ErrNone {
		t.Fatal(x, e)
	}
	if x, e := area.Load(dict.New(), 4); x != (api.Channel{}) || e != api.ErrRange {
		t.Fatal(x, e)
	}
	if e := area.Store(dict.New(), 0, some()); e != api.ErrNone {
		t.Fatal(e)
	}
	if e := area.Store(dict.New(), 0, wrong); e != api.ErrArg {
		t.Fatal(e)
	}
}

// ofChannel: is it one of a channel's entries?
func ofChannel(k api.Key, c int) bool {
	return k.Index == 0x1301+c || k.Index == 0x1381+c || k == key(0x13ff, c+1)
}

// P15.2: a channel with an entry that is not there, or holds a text, has no table; the others have theirs.
func TestLoadNone(t *testing.T) {
	text := api.Spec{Kind: api.Text, Access: api.ReadWrite, High: 4}
	for _, r := range rows() {
		for _, d := range []*dict.Dict{odd(t, r.k, api.Spec{}, nil), odd(t, r.k, text, []byte{1}), odd(t, r.k, text, nil)} {
			var left []int
			for c := range 4 {
				want := api.OK
				if ofChannel(r.k, c) {
					want = api.ErrNone
				} else {
					d.Set(key(0x1301+c, 1), 1)
					left = append(left, c)
				}
				x, e := area.Load(d, c)
				if e != want || e != api.OK && x != (api.Channel{}) || e == api.OK && x.Dir != api.Sends {
					t.Fatal(r.k, c, x, e)
				}
			}
			var told []int
			for c := range area.Channels(d) {
				told = append(told, c)
			}
			if !slices.Equal(told, left) {
				t.Fatal(r.k, told, left)
			}
		}
	}
}

// Entries that somebody else laid may hold other numbers: they are told as they are, and nothing panics.
func TestLoadOdd(t *testing.T) {
	wide := api.Spec{Kind: api.I32, Access: api.ReadWrite, Low: -1 << 31, High: 1<<31 - 1}
	for _, n := range []int64{-1 << 31, -1, 9, 255, 1<<31 - 1} {
		b := []byte{byte(n), byte(n >> 8), byte(n >> 16), byte(n >> 24)}
		d := odd(t, key(0x1381, 0), wide, b)
		for sub := 1; sub <= 8; sub++ {
			d.Set(key(0x1381, sub), int64(sub))
		}
		x, e := area.Load(d, 0)
		if e != api.OK || int64(x.N) != n || area.Fits(d, with(x, func(x *api.Channel) { x.Dir = api.Sends })) {
			t.Fatal(n, x, e)
		}
		for i, s := range x.Map {
			want := 0
			if n > 0 {
				want = i + 1
			}
			if s != slot(0, 0, want) {
				t.Fatal(n, x)
			}
		}
		d = odd(t, key(0x1301, 1), wide, b)
		if x, e := area.Load(d, 0); e != api.OK || int64(x.Dir) != n || area.Fits(d, x) {
			t.Fatal(n, x, e)
		}
	}
	d := odd(t, key(0x1382, 2), wide, []byte{255, 255, 255, 255})
	d.Set(key(0x1382, 0), 2)
	d.Set(key(0x1382, 1), 7)
	if x, e := area.Load(d, 1); e != api.OK || x.N != 2 || x.Map[0] != slot(0, 0, 7) || x.Map[1] != (api.Slot{}) {
		t.Fatal(x, e)
	}
}

// P15.2, P15.5: what was stored stands in the entries, and is loaded.
func TestStore(t *testing.T) {
	d := laid(t)
	before := all(t, d)
	x := some()
	x.Map[3], x.Map[7] = slot(1, 2, 3), slot(-1, 999, -5) // behind N: of no account
	for sub := 1; sub <= 8; sub++ {
		d.Set(key(0x1382, sub), 77)
	}
	area.SetFlag(d, true)
	d.Set(key(0x13ff, 2), 500)
	if e := area.Store(d, 1, x); e != api.OK {
		t.Fatal(e)
	}
	for k, n := range map[api.Key]int64{
		key(0x1302, 0): 6, key(0x1302, 1): 2, key(0x1302, 2): 9, key(0x1302, 3): 300, key(0x1302, 4): 254, key(0x1302, 5): 0x103, key(0x1302, 6): 0x104,
		key(0x1382, 0): 3, key(0x1382, 1): 0x20000108, key(0x1382, 2): 0x20000210, key(0x1382, 3): 0x20000620, key(0x1382, 4): 0,
		key(0x1382, 5): 0, key(0x1382, 6): 0, key(0x1382, 7): 0, key(0x1382, 8): 0,
		key(0x13fe, 0): 0xa5, key(0x13ff, 2): 500, // from within: the flag stays, and so does the signature
	} {
		if got, is := d.Num(k); got != n || !is {
			t.Fatal(k, got, n)
		}
	}
	for k, h := range all(t, d) {
		if before[k] != h && k.Index != 0x1302 && k.Index != 0x1382 && k != key(0x13fe, 0) && k != key(0x13ff, 2) {
			t.Fatal(k, "has changed")
		}
	}
	if got, e := area.Load(d, 1); got != some() || e != api.OK {
		t.Fatal(got, e)
	}
}

// P15.2: a table that can't be stored for what it maps changes nothing.
func TestStoreArg(t *testing.T) {
	d := laid(t)
	want := all(t, d)
	for _, x := range []api.Channel{
		with(some(), func(x *api.Channel) { x.N = -1 }),
		with(some(), func(x *api.Channel) { x.N = 9 }),
		with(some(), func(x *api.Channel) { x.N = math.MaxInt }),
		with(some(), func(x *api.Channel) { x.N = math.MinInt }),
		with(some(), func(x *api.Channel) { x.N, x.Dir = 9, 7 }),
		with(some(), func(x *api.Channel) { x.Map[0].Bits = 256 }),
		with(some(), func(x *api.Channel) { x.Map[1].Key.Index = 65536 }),
		with(some(), func(x *api.Channel) { x.Map[2].Key.Sub = -1 }),
		with(some(), func(x *api.Channel) { x.Map[2].Key.Sub, x.Time = -1, 0 }),
		with(some(), func(x *api.Channel) { x.N = 8; x.Map[7].Bits = -1 }),
	} {
		if e := area.Store(d, 0, x); e != api.ErrArg {
			t.Fatal(x, e)
		}
	}
	if !maps.Equal(all(t, d), want) || d.Changes() != 0 {
		t.Fatal("something has changed")
	}
}

// numbersOf are a table's numbers, by the names of the channel 0's entries, in the document's order.
func numbersOf(x api.Channel) ([]api.Key, []int64) {
	l := []int64{int64(x.Dir), int64(x.Time), int64(x.Gap), int64(x.Plain), int64(x.Turned), int64(x.N)}
	keys := []api.Key{key(0x1301, 1), key(0x1301, 2), key(0x1301, 3), key(0x1301, 5), key(0x1301, 6), key(0x1381, 0)}
	for i, s := range x.Map {
		n := int64(0)
		if i < x.N {
			n = int64(s.Key.Index)*65536 + int64(s.Key.Sub)*256 + int64(s.Bits)
		}
		l = append(l, n)
		keys = append(keys, key(0x1381, i+1))
	}
	return keys, l
}

// P15.2: the first number that its entry can't hold; what was set ahead of it stays, and nothing behind it is set.
func TestStoreFit(t *testing.T) {
	for at, change := range []func(*api.Channel){
		func(x *api.Channel) { x.Dir = 3 },
		func(x *api.Channel) { x.Time = 0 },
		func(x *api.Channel) { x.Gap = 65536 },
		func(x *api.Channel) { x.Plain = 0x180 },
		func(x *api.Channel) { x.Turned = 0x101 },
	} {
		d := laid(t)
		x := with(some(), change)
		keys, l := numbersOf(x)
		want := all(t, d)
		for i, k := range keys[:at] {
			s := want[k]
			b := make([]byte, len(s.has))
			for j := range b {
				b[j] = byte(l[i] >> (8 * j))
			}
			want[k] = held{s.spec, string(b)}
		}
		if e := area.Store(d, 0, x); e != api.ErrFit {
			t.Fatal(at, e)
		}
		if !maps.Equal(all(t, d), want) {
			t.Fatal(at, "other things were set")
		}
	}
	for _, change := range []func(*api.Channel){
		func(x *api.Channel) { x.Dir = -1 },
		func(x *api.Channel) { x.Dir = math.MaxInt },
		func(x *api.Channel) { x.Time = math.MinInt },
		func(x *api.Channel) { x.Time = 1 << 32 },
		func(x *api.Channel) { x.Gap = 0 },
		func(x *api.Channel) { x.Plain = 0x100 },
		func(x *api.Channel) { x.Plain = 1<<32 + 0x103 },
		func(x *api.Channel) { x.Turned = 0x181 },
	} {
		if e := area.Store(laid(t), 0, with(some(), change)); e != api.ErrFit {
			t.Fatal(e)
		}
	}
}

// P15.2: of entries that somebody else laid dict's first error is told, in the order of the table; the Constant ones play no part.
func TestStoreOdd(t *testing.T) {
	keys, l := numbersOf(some())
	for at, k := range keys {
		for e, s := range map[api.Errno]api.Spec{
			api.ErrNone:  {},
			api.ErrState: {Kind: api.U32, Access: api.Constant, High: 1<<32 - 1},
			api.ErrArg:   {Kind: api.Text, Access: api.ReadWrite, High: 4},
			api.ErrFit:   {Kind: api.I32, Access: api.ReadWrite, Low: -5, High: -4},
		} {
			d := odd(t, k, s, nil)
			before := all(t, d)
			if got := area.Store(d, 0, some()); got != e {
				t.Fatal(k, got, e)
			}
			for i, other := range keys {
				n, is := d.Num(other)
				h, _ := d.Raw(other)
				if i < at && (n != l[i] || !is) || i >= at && string(h) != before[other].has {
					t.Fatal(k, e, other, n)
				}
			}
		}
	}
	for _, k := range []api.Key{key(0x1301, 0), key(0x1301, 4), key(0x13fe, 0), key(0x13ff, 0), key(0x13ff, 1), key(0x1302, 1)} {
		d := odd(t, k, api.Spec{Kind: api.Text, Access: api.ReadWrite, High: 4}, nil)
		if e := area.Store(d, 0, some()); e != api.OK {
			t.Fatal(k, e)
		}
		if b, _ := d.Raw(k); len(b) != 0 {
			t.Fatal(k, b)
		}
	}
}

// P15.5: any table that may be stored is loaded as it was, but what is behind N, and no other channel's is touched.
func TestStoreLoad(t *testing.T) {
	r := rand.New(rand.NewSource(15))
	d := laid(t)
	var now [4]api.Channel
	for c := range now {
		now[c], _ = area.Load(d, c)
	}
	for range 2000 {
		x := api.Channel{Dir: api.Dir(r.Intn(3)), Time: 1 + r.Intn(65535), Gap: 1 + r.Intn(65535), Plain: 0x101 + r.Intn(127), Turned: 0x102 + r.Intn(127), N: r.Intn(9)}
		for i := range x.Map {
			x.Map[i] = slot(r.Intn(65536), r.Intn(256), r.Intn(256))
		}
		c := r.Intn(4)
		if e := area.Store(d, c, x); e != api.OK {
			t.Fatal(x, e)
		}
		for i := x.N; i < 8; i++ {
			x.Map[i] = api.Slot{}
		}
		now[c] = x
		for i, want := range now {
			if got, e := area.Load(d, i); got != want || e != api.OK {
				t.Fatal(i, got, want, e)
			}
		}
	}
}

// P15.2: what a table maps, and whether it may be.
func TestFitsMap(t *testing.T) {
	d := laid(t)
	b := func(sub int) api.Slot { return slot(0x2100, sub, 8) }
	for _, x := range []struct {
		l    []api.Slot
		fits bool
	}{
		{[]api.Slot{slot(0x2000, 1, 8)}, true},
		{[]api.Slot{slot(0x2000, 2, 16)}, true},
		{[]api.Slot{slot(0x2000, 3, 32)}, true},
		{[]api.Slot{slot(0x2000, 4, 8)}, true},  // read only
		{[]api.Slot{slot(0x2000, 5, 16)}, true}, // write only
		{[]api.Slot{slot(0x2000, 6, 32)}, true},
		{[]api.Slot{slot(0x2000, 7, 8)}, true}, // Bool has a byte, too
		{[]api.Slot{slot(0x2000, 7, 1)}, false},
		{[]api.Slot{slot(0x2000, 8, 8)}, false}, // Constant
		{[]api.Slot{slot(0x2000, 9, 8)}, false}, // a text
		{[]api.Slot{slot(0x2000, 10, 0)}, false},
		{[]api.Slot{slot(0x2000, 11, 8)}, false}, // none
		{[]api.Slot{slot(0x2000, 11, 0)}, false},
		{[]api.Slot{slot(0x2001, 1, 8)}, false},
		{[]api.Slot{{}}, false},
		{[]api.Slot{slot(0x2000, 1, 0)}, false},
		{[]api.Slot{slot(0x2000, 1, 7)}, false},
		{[]api.Slot{slot(0x2000, 1, 9)}, false},
		{[]api.Slot{slot(0x2000, 1, 16)}, false},
		{[]api.Slot{slot(0x2000, 2, 8)}, false},
		{[]api.Slot{slot(0x2000, 2, 2)}, false},
		{[]api.Slot{slot(0x2000, 3, 16)}, false},
		{[]api.Slot{slot(0x2000, 1, -8)}, false},
		{[]api.Slot{slot(0x2000, 1, 264)}, false},
		{[]api.Slot{slot(0x2000, 257, 8)}, false},
		{[]api.Slot{slot(0x12000, 1, 8)}, false},
		{[]api.Slot{slot(0x1300, 0, 8)}, true},
		{[]api.Slot{slot(0x1301, 1, 8)}, false},
		{[]api.Slot{slot(0x1305, 1, 8)}, false}, // no channel's, but a safety parameter
		{[]api.Slot{slot(0x1340, 255, 8)}, false},
		{[]api.Slot{slot(0x1341, 0, 8)}, true},
		{[]api.Slot{slot(0x1380, 0, 8)}, true},
		{[]api.Slot{slot(0x1384, 0, 8)}, false},
		{[]api.Slot{slot(0x13c0, 0, 8)}, false},
		{[]api.Slot{slot(0x13c1, 0, 8)}, true},
		{[]api.Slot{slot(0x13fd, 0, 8)}, true},
		{[]api.Slot{slot(0x13fe, 0, 8)}, false},
		{[]api.Slot{slot(0x13fe, 1, 8)}, false},
		{[]api.Slot{slot(0x13ff, 1, 16)}, false},
		{[]api.Slot{slot(0x13ff, 5, 8)}, false},
		{[]api.Slot{slot(0x13ff, 255, 8)}, false},
		{[]api.Slot{slot(0x1400, 0, 8)}, true},
		{[]api.Slot{b(0), b(1), b(2), b(3), b(4), b(5), b(6), b(7)}, true},
		{[]api.Slot{b(0), b(0), b(0), b(0), b(0), b(0), b(0), b(0)}, true}, // one as often as one likes
		{[]api.Slot{b(0), b(1), b(2), b(3), b(4), b(5), b(6), slot(0x2000, 2, 16)}, false},
		{[]api.Slot{slot(0x2000, 3, 32), slot(0x2000, 6, 32)}, true},
		{[]api.Slot{slot(0x2000, 3, 32), slot(0x2000, 6, 32), b(0)}, false},
		{[]api.Slot{b(0), slot(0x2000, 3, 32), slot(0x2000, 6, 32)}, false},
		{[]api.Slot{slot(0x2000, 3, 32), b(1), b(2), b(3), slot(0x2000, 4, 8)}, true},
		{[]api.Slot{b(0), slot(0x2000, 8, 8)}, false},
		{[]api.Slot{b(0), {}, b(1)}, false},
		{nil, false},
	} {
		for _, dir := range []api.Dir{api.Sends, api.Takes} {
			y := of(x.l...)
			y.Dir = dir
			if area.Fits(d, y) != x.fits {
				t.Fatal(y, !x.fits)
			}
			y.Dir = api.Off
			if !area.Fits(d, y) {
				t.Fatal(y)
			}
		}
	}
}

// P15.2: the rest of a table, and whether it may be.
func TestFits(t *testing.T) {
	d := laid(t)
	for plain := 0xf0; plain < 0x190; plain++ {
		for turned := plain - 2; turned < plain+4; turned++ {
			x := some()
			x.Plain, x.Turned = plain, turned
			want := plain%2 == 1 && plain >= 0x101 && plain <= 0x17f && turned == plain+1
			if area.Fits(d, x) != want {
				t.Fatal(x, !want)
			}
		}
	}
	for _, x := range []struct {
		change func(*api.Channel)
		fits   bool
	}{
		{func(x *api.Channel) {}, true},
		{func(x *api.Channel) { x.Dir = api.Sends }, true},
		{func(x *api.Channel) { x.Dir = 3 }, false},
		{func(x *api.Channel) { x.Dir = -1 }, false},
		{func(x *api.Channel) { x.Dir = 256 }, false},
		{func(x *api.Channel) { x.Dir = 1 << 32 }, false},
		{func(x *api.Channel) { x.Time, x.Gap = 0, -9 }, true}, // of no account here
		{func(x *api.Channel) { x.N = 0 }, false},
		{func(x *api.Channel) { x.N = 2 }, true},
		{func(x *api.Channel) { x.N = 4 }, false},
		{func(x *api.Channel) { x.N = -1 }, false},
		{func(x *api.Channel) { x.N = 9 }, false},
		{func(x *api.Channel) { x.N = math.MaxInt }, false},
		{func(x *api.Channel) { x.N = math.MinInt }, false},
		{func(x *api.Channel) { x.Map[3] = slot(-5, 256, 999) }, true}, // behind N
		{func(x *api.Channel) { x.Plain, x.Turned = math.MaxInt, math.MinInt }, false},
		{func(x *api.Channel) { x.Plain, x.Turned = -1, 0 }, false},
		{func(x *api.Channel) { x.Map[0].Key = key(math.MinInt, math.MaxInt) }, false},
		{func(x *api.Channel) { x.Map[1].Bits = math.MaxInt }, false},
		{func(x *api.Channel) { *x = api.Channel{} }, true},
		{func(x *api.Channel) { *x = api.Channel{N: -1, Plain: -1, Turned: 5} }, true}, // Off fits, whatever stands beside
	} {
		if got := area.Fits(d, with(some(), x.change)); got != x.fits {
			t.Fatal(with(some(), x.change), got)
		}
	}
	if area.Fits(dict.New(), some()) || !area.Fits(dict.New(), api.Channel{}) {
		t.Fatal("of an empty dictionary")
	}
	if area.Fits(nil, some()) || area.Fits(nil, api.Channel{}) {
		t.Fatal("of none")
	}
}

// P15.3: which names are safety parameters'.
func TestSafe(t *testing.T) {
	for index := -3; index < 66000; index++ {
		want := index >= 0x1301 && index <= 0x1340 || index >= 0x1381 && index <= 0x13c0 || index == 0x13ff
		for _, sub := range []int{0, 1, 8, 255} {
			if area.Safe(key(index, sub)) != want {
				t.Fatalf("%x %d: %v", index, sub, !want)
			}
		}
	}
	for _, k := range []api.Key{
		{}, key(math.MaxInt, 0), key(math.MinInt, 0), key(1<<32+0x1301, 0), key(-0x1301, 0), key(0x11301, 0), key(1<<16+0x13ff, 1),
		key(0x1301, -1), key(0x1301, 256), key(0x13ff, math.MaxInt), key(0x1381, math.MinInt), // these are no names
	} {
		if area.Safe(k) {
			t.Fatal(k)
		}
	}
}

// P15.3: the flag is what the entry holds.
func TestFlag(t *testing.T) {
	d := laid(t)
	for n := range int64(256) {
		d.Set(key(0x13fe, 0), n)
		if area.Flag(d) != (n == 0xa5) {
			t.Fatal(n)
		}
	}
	for _, on := range []bool{true, true, false, false, true} {
		want := int64(0)
		if on {
			want = 0xa5
		}
		if e := area.SetFlag(d, on); e != api.OK || area.Flag(d) != on {
			t.Fatal(on, e)
		}
		if n, _ := d.Num(key(0x13fe, 0)); n != want {
			t.Fatal(n)
		}
	}
	if area.Flag(nil) || area.Flag(dict.New()) {
		t.Fatal("there is none")
	}
	k := key(0x13fe, 0)
	for _, x := range []struct {
		d       *dict.Dict
		on, off api.Errno
		flag    bool
	}{
		{nil, api.ErrNil, api.ErrNil, false},
		{dict.New(), api.ErrNone, api.ErrNone, false},
		{odd(t, k, api.Spec{Kind: api.U8, Access: api.Constant, High: 255}, []byte{0xa5}), api.ErrState, api.ErrState, true},
		{odd(t, k, api.Spec{Kind: api.Text, Access: api.ReadWrite, High: 1}, []byte{0xa5}), api.ErrArg, api.ErrArg, false},
		{odd(t, k, api.Spec{Kind: api.U8, Access: api.ReadWrite, High: 1}, nil), api.ErrFit, api.OK, false},
		{odd(t, k, api.Spec{Kind: api.U16, Access: api.ReadOnly, High: 999}, []byte{0xa5, 1}), api.OK, api.OK, false},
	} {
		if x.d != nil && area.Flag(x.d) != x.flag {
			t.Fatal(x)
		}
		if e := area.SetFlag(x.d, true); e != x.on {
			t.Fatal(x, e)
		}
		if e := area.SetFlag(x.d, false); e != x.off {
			t.Fatal(x, e)
		}
	}
}

// P15.3, P15.5: which writes from outside make the flag fall.
func TestWrite(t *testing.T) {
	type step struct {
		k    api.Key
		b    string
		a    api.Abort
		flag bool
	}
	for _, x := range []step{
		{key(0x1301, 1), "\x01", 0, false},
		{key(0x1301, 1), "\x00", 0, false}, // the same that it held
		{key(0x1301, 1), "\x03", api.AbHigh, true},
		{key(0x1301, 0), "\x06", api.AbReadOnly, true},
		{key(0x1301, 2), "\x09\x00", 0, false},
		{key(0x1301, 2), "\x00\x00", api.AbLow, true},
		{key(0x1301, 2), "\x09", api.AbShort, true},
		{key(0x1301, 7), "\x09", api.AbNoSub, true},
		{key(0x1304, 6), "\x80\x01\x00\x00", 0, false},
		{key(0x1305, 1), "\x01", 0, false}, // of no channel
		{key(0x1306, 0), "\x01", api.AbNoObject, true},
		{key(0x1340, 255), "\x01", 0, false},
		{key(0x1341, 0), "\x01", 0, true},
		{key(0x1300, 0), "\x01", 0, true},
		{key(0x1380, 0), "\x01", 0, true},
		{key(0x1381, 0), "\x08", 0, false},
		{key(0x1381, 0), "\x09", api.AbHigh, true},
		{key(0x1384, 8), "\x09\x00\x00\x00", 0, false},
		{key(0x13c0, 0), "\x09", 0, false},
		{key(0x13c1, 0), "\x09", 0, true},
		{key(0x13fd, 0), "\x09", 0, true},
		{key(0x13fe, 0), "\x09", 0, false}, // it changes itself
		{key(0x13fe, 0), "\xa5", 0, true},
		{key(0x13fe, 1), "\x09", 0, true},
		{key(0x13ff, 0), "\x04", api.AbReadOnly, true},
		{key(0x13ff, 1), "\x09\x00", 0, false},
		{key(0x13ff, 4), "\x00\x00", 0, false},
		{key(0x13ff, 5), "\x00", 0, false},
		{key(0x13ff, 6), "\x00", api.AbNoSub, true},
		{key(0x1400, 0), "\x09", 0, true},
		{key(0x2000, 1), "\x09", 0, true},
		{key(0x2000, 4), "\x01", api.AbReadOnly, true},
		{key(0x2001, 1), "\x09", api.AbNoObject, true},
		{key(0, 0), "", api.AbNoObject, true},
		{key(math.MinInt, math.MaxInt), "", api.AbNoObject, true},
	} {
		d := laid(t)
		area.SetFlag(d, true)
		want := all(t, d)
		if x.a == 0 {
			want[x.k] = held{want[x.k].spec, x.b}
		}
		if !x.flag && x.k != key(0x13fe, 0) {
			want[key(0x13fe, 0)] = held{want[key(0x13fe, 0)].spec, "\x00"}
		}
		if a := area.Write(d, x.k, []byte(x.b)); a != x.a || area.Flag(d) != x.flag || !maps.Equal(all(t, d), want) {
			t.Fatalf("%v, %q: %x, %v", x.k, x.b, a, area.Flag(d))
		}
	}
	if a := area.Write(nil, key(0x1301, 1), []byte{1}); a != api.AbNoObject {
		t.Fatal(a)
	}
	if a := area.Write(dict.New(), key(0x1301, 1), nil); a != api.AbNoObject {
		t.Fatal(a)
	}
	d := dict.New() // without a flag
	d.Add(key(0x1301, 1), api.Spec{Kind: api.U8, Access: api.ReadWrite, High: 2}, nil)
	if a := area.Write(d, key(0x1301, 1), []byte{2}); a != api.Fine || d.Len() != 1 {
		t.Fatal(a)
	}
	if n, _ := d.Num(key(0x1301, 1)); n != 2 {
		t.Fatal(n)
	}
}

// P15.3: a flag of another number is 0, too, behind such a write; one that holds 0 stays so.
func TestWriteFlagZero(t *testing.T) {
	for _, n := range []int64{0, 1, 0xa4, 0xa5, 255} {
		d := laid(t)
		d.Set(key(0x13fe, 0), n)
		area.Write(d, key(0x1301, 9), []byte{1})
		area.Write(d, key(0x2000, 1), []byte{1})
		if got, _ := d.Num(key(0x13fe, 0)); got != n {
			t.Fatal(n, got)
		}
		area.Write(d, key(0x1301, 1), []byte{1})
		if got, _ := d.Num(key(0x13fe, 0)); got != 0 {
			t.Fatal(n, got)
		}
	}
}

// P15.5: of any writes from outside, those to safety parameters make the flag fall, and no others.
func TestWrites(t *testing.T) {
	r := rand.New(rand.NewSource(151))
	d := laid(t)
	keys := slices.Collect(d.Keys())
	for range 20000 {
		k := keys[r.Intn(len(keys))]
		if r.Intn(20) == 0 {
			k.Sub += r.Intn(300)
		}
		b := make([]byte, []int{1, 1, 2, 2, 4, 4, 0, 3}[r.Intn(8)])
		for i := range b {
			b[i] = byte(r.Intn(4))
		}
		on := r.Intn(4) > 0
		area.SetFlag(d, on)
		twin := d.Fork()
		a := area.Write(d, k, b)
		if want := twin.Write(k, b); a != want {
			t.Fatal(k, b, a, want)
		}
		safe := k.Index >= 0x1301 && k.Index <= 0x1340 || k.Index >= 0x1381 && k.Index <= 0x13c0 || k.Index == 0x13ff
		if k != key(0x13fe, 0) && area.Flag(d) != (on && !(safe && a == api.Fine)) {
			t.Fatal(k, b, a, area.Flag(d))
		}
		if a == api.Fine && safe {
			twin.Set(key(0x13fe, 0), 0)
		}
		if !maps.Equal(all(t, d), all(t, twin)) {
			t.Fatal(k, b, "something else has changed")
		}
	}
}

// told is what is ranged over.
type told struct {
	c int
	x api.Channel
}

func collect(seq iter.Seq2[int, api.Channel]) []told {
	var l []told
	for c, x := range seq {
		l = append(l, told{c, x})
	}
	return l
}

// P15.4: the channels that do something, rising.
func TestChannels(t *testing.T) {
	d := laid(t)
	seq := area.Channels(d)
	if l := collect(seq); len(l) != 0 {
		t.Fatal(l)
	}
	for mask := range 16 {
		var want []told
		for c := range 4 {
			x := some()
			x.Time = 10 + c
			x.Dir = api.Off
			if mask>>c&1 == 1 {
				x.Dir = api.Dir(1 + c%2)
				want = append(want, told{c, x})
			}
			area.Store(d, c, x)
		}
		if l := collect(seq); !slices.Equal(l, want) { // as they are now, though it was asked for ahead
			t.Fatal(mask, l)
		}
		for stop := range want { // P7
			var l []told
			seq(func(c int, x api.Channel) bool {
				l = append(l, told{c, x})
				return len(l) <= stop
			})
			if !slices.Equal(l, want[:stop+1]) {
				t.Fatal(mask, stop, l)
			}
		}
		for range seq {
			if l := collect(seq); !slices.Equal(l, want) {
				t.Fatal(l)
			}
		}
	}
	for _, d := range []*dict.Dict{nil, dict.New()} {
		if l := collect(area.Channels(d)); len(l) != 0 {
			t.Fatal(l)
		}
	}
	// whether it fits, and what the flag says, plays no part
	area.Store(d, 3, api.Channel{Dir: api.Takes, Time: 1, Gap: 1, Plain: 0x102, Turned: 0x102})
	area.SetFlag(d, false)
	if l := collect(seq); len(l) != 4 || l[3].x.Plain != 0x102 {
		t.Fatal(l)
	}
}

// Tables may be written to while channels are ranged over; what is told is as it is when that begins.
func TestChannelsMeanwhile(t *testing.T) {
	d := laid(t)
	for c := range 4 {
		area.Store(d, c, some())
	}
	n := 0
	for c, x := range area.Channels(d) {
		if c != n || x != some() {
			t.Fatal(c, x)
		}
		n++
		for c := range 4 {
			d.Set(key(0x1301+c, 1), 0)
		}
	}
	if n != 4 {
		t.Fatal(n)
	}
}

// P3: what is handed in stays as it is, and is not kept.
func TestMemory(t *testing.T) {
	d := laid(t)
	b := []byte{2, 77, 78}
	if a := area.Write(d, key(0x1301, 1), b[:1]); a != api.Fine || !bytes.Equal(b, []byte{2, 77, 78}) {
		t.Fatal(a, b)
	}
	b[0] = 1
	if n, _ := d.Num(key(0x1301, 1)); n != 2 {
		t.Fatal(n)
	}
}

// P4: what is done to a Fork changes nothing of the other one.
func TestFork(t *testing.T) {
	d := laid(t)
	area.SetFlag(d, true)
	area.Store(d, 0, some())
	f := d.Fork()
	area.Write(f, key(0x1301, 1), []byte{0})
	if !area.Flag(d) || area.Flag(f) || len(collect(area.Channels(d))) != 1 || len(collect(area.Channels(f))) != 0 {
		t.Fatal("they hang together")
	}
}
