package sign_test

import (
	"bytes"
	"iter"
	"maps"
	"math"
	"math/rand"
	"slices"
	"testing"

	"tripwire/api"
	"tripwire/area"
	"tripwire/dict"
	"tripwire/poly"
	"tripwire/sign"
)

// The calls have just these signatures.
var (
	_ func(api.Channel) ([]byte, api.Errno)        = sign.Bytes
	_ func(api.Channel) (int, api.Errno)           = sign.Sign
	_ func(*dict.Dict, int) (int, bool)            = sign.Stored
	_ func(*dict.Dict) []int                       = sign.Faults
	_ func(*dict.Dict) bool                        = sign.Good
	_ func(*dict.Dict) iter.Seq2[int, api.Channel] = sign.Active
	_ func(*dict.Dict) api.Errno                   = sign.Seal
)

// key is a name.
func key(index, sub int) api.Key { return api.Key{Index: index, Sub: sub} }

// slot is a slot.
func slot(index, sub, bits int) api.Slot { return api.Slot{Key: key(index, sub), Bits: bits} }

// some is a table that fits what laid makes.
func some() api.Channel {
	x := api.Channel{Dir: api.Takes, Time: 0x0201, Gap: 0x0403, Plain: 0x103, Turned: 0x104, N: 2}
	x.Map[0] = slot(0x2000, 1, 8)
	x.Map[1] = slot(0x2000, 2, 16)
	return x
}

// with is a table with something of it changed.
func with(x api.Channel, change func(*api.Channel)) api.Channel {
	change(&x)
	return x
}

// plain adds entries that may be mapped.
func plain(t *testing.T, d *dict.Dict) {
	t.Helper()
	for sub, k := range []api.Kind{api.Bool, api.U8, api.U16, api.U32} {
		if e := d.Add(key(0x2000, sub), api.Spec{Kind: k, Access: api.ReadWrite, High: 1}, nil); e != api.OK {
			t.Fatal(e)
		}
	}
}

// laid has the safety section, and what may be mapped.
func laid(t *testing.T) *dict.Dict {
	t.Helper()
	d := dict.New()
	if e := area.Lay(d); e != api.OK {
		t.Fatal(e)
	}
	plain(t, d)
	return d
}

// full has a table that fits in each channel.
func full(t *testing.T) *dict.Dict {
	t.Helper()
	d := laid(t)
	for c := range 4 {
		x := some()
		x.Dir = api.Dir(1 + c%2)
		x.Time = 10 + c
		x.Plain = 0x111 + 2*c
		x.Turned = x.Plain + 1
		if e := area.Store(d, c, x); e != api.OK {
			t.Fatal(e)
		}
	}
	return d
}

// sealed is such a one, sealed.
func sealed(t *testing.T) *dict.Dict {
	t.Helper()
	d := full(t)
	if e := sign.Seal(d); e != api.OK {
		t.Fatal(e)
	}
	return d
}

// odd is the safety section with another spec of one of its entries (without it, if that is no spec).
func odd(t *testing.T, k api.Key, s api.Spec, first []byte) *dict.Dict {
	t.Helper()
	whole, d := dict.New(), dict.New()
	area.Lay(whole)
	for other := range whole.Keys() {
		spec, _ := whole.Spec(other)
		b, _ := whole.Raw(other)
		if other == k {
			spec, b = s, first
		}
		if e := d.Add(other, spec, b); e != api.OK && other != k {
			t.Fatal(other, e)
		}
	}
	plain(t, d)
	return d
}

// all is all that a dictionary holds.
func all(t *testing.T, d *dict.Dict) map[api.Key]string {
	t.Helper()
	l := map[api.Key]string{}
	for k := range d.Keys() {
		b, there := d.Raw(k)
		if !there {
			t.Fatal(k)
		}
		l[k] = string(b)
	}
	return l
}

// crc is the check of bytes, reckoned bit by bit as the document says it: a division by hand.
func crc(b []byte) int {
	n := 0
	for _, x := range append(slices.Clone(b), 0, 0) {
		for bit := 7; bit >= 0; bit-- {
			n = n<<1 | int(x>>bit&1)
			if n > 0xffff {
				n ^= 0x11021
			}
		}
	}
	return n
}

// told is what is ranged over.
type told struct {
	c int
	x api.Channel
}

func collect(seq iter.Seq2[int, api.Channel]) []told {
	var l []told
	for c, x := range seq {
		l = append(l, told{c, x})
	}
	return l
}

// The document's example.
func TestExample(t *testing.T) {
	b, e := sign.Bytes(api.Channel{})
	if e != api.OK || !bytes.Equal(b, make([]byte, 14)) {
		t.Fatal(b, e)
	}
	if n, e := sign.Sign(api.Channel{}); n != 0 || e != api.OK {
		t.Fatal(n, e)
	}
}

// P16.1: a table's bytes, each number's lowest one first; and their check.
func TestBytes(t *testing.T) {
	whole := api.Channel{Dir: 255, Time: 65535, Gap: 65534, Plain: 4294967295, Turned: 0x01020304, N: 8}
	for i := range whole.Map {
		whole.Map[i] = slot(0x1000+i, i, 16)
	}
	whole.Map[7] = slot(65535, 255, 255)
	for _, x := range []struct {
		x api.Channel
		b string
	}{
		{some(), "\x02\x01\x02\x03\x04\x03\x01\x00\x00\x04\x01\x00\x00\x02\x08\x01\x00\x20\x10\x02\x00\x20"},
		{with(some(), func(x *api.Channel) { x.N = 1 }), "\x02\x01\x02\x03\x04\x03\x01\x00\x00\x04\x01\x00\x00\x01\x08\x01\x00\x20"},
		{with(some(), func(x *api.Channel) { x.N = 0 }), "\x02\x01\x02\x03\x04\x03\x01\x00\x00\x04\x01\x00\x00\x00"},
		{with(some(), func(x *api.Channel) { x.N = 3 }), "\x02\x01\x02\x03\x04\x03\x01\x00\x00\x04\x01\x00\x00\x03\x08\x01\x00\x20\x10\x02\x00\x20\x00\x00\x00\x00"},
		{with(some(), func(x *api.Channel) { x.Dir = 0 }), "\x00\x01\x02\x03\x04\x03\x01\x00\x00\x04\x01\x00\x00\x02\x08\x01\x00\x20\x10\x02\x00\x20"},
		{with(some(), func(x *api.Channel) { x.Map[2] = slot(-1, 256, 999) }), "\x02\x01\x02\x03\x04\x03\x01\x00\x00\x04\x01\x00\x00\x02\x08\x01\x00\x20\x10\x02\x00\x20"},
		{whole, "\xff\xff\xff\xfe\xff\xff\xff\xff\xff\x04\x03\x02\x01\x08\x10\x00\x00\x10\x10\x01\x01\x10\x10\x02\x02\x10\x10\x03\x03\x10\x10\x04\x04\x10\x10\x05\x05\x10\x10\x06\x06\x10\xff\xff\xff\xff"},
	} {
		b, e := sign.Bytes(x.x)
		if e != api.OK || string(b) != x.b {
			t.Fatalf("%v: % x, %d", x.x, b, e)
		}
		if n, e := sign.Sign(x.x); n != crc([]byte(x.b)) || n != poly.Crc16(b) || e != api.OK {
			t.Fatalf("%v: %x, %d", x.x, n, e)
		}
	}
}

// P16.1: numbers that are none of their size, or slots that have no word.
func TestNoBytes(t *testing.T) {
	for _, change := range []func(*api.Channel){
		func(x *api.Channel) { x.Dir = -1 },
		func(x *api.Channel) { x.Dir = 256 },
		func(x *api.Channel) { x.Dir = math.MaxInt },
		func(x *api.Channel) { x.Time = -1 },
		func(x *api.Channel) { x.Time = 65536 },
		func(x *api.Channel) { x.Time = math.MinInt },
		func(x *api.Channel) { x.Gap = -1 },
		func(x *api.Channel) { x.Gap = 65536 },
		func(x *api.Channel) { x.Plain = -1 },
		func(x *api.Channel) { x.Plain = 1 << 32 },
		func(x *api.Channel) { x.Turned = -1 },
		func(x *api.Channel) { x.Turned = 1 << 32 },
		func(x *api.Channel) { x.Turned = math.MaxInt },
		func(x *api.Channel) { x.N = -1 },
		func(x *api.Channel) { x.N = 9 },
		func(x *api.Channel) { x.N = 255 },
		func(x *api.Channel) { x.N = 256 },
		func(x *api.Channel) { x.N = math.MaxInt },
		func(x *api.Channel) { x.N = math.MinInt },
		func(x *api.Channel) { x.Map[0].Key.Index = -1 },
		func(x *api.Channel) { x.Map[0].Key.Index = 65536 },
		func(x *api.Channel) { x.Map[1].Key.Sub = -1 },
		func(x *api.Channel) { x.Map[1].Key.Sub = 256 },
		func(x *api.Channel) { x.Map[1].Bits = 256 },
		func(x *api.Channel) { x.N = 8; x.Map[7].Bits = -1 },
	} {
		x := with(some(), change)
		if b, e := sign.Bytes(x); len(b) != 0 || e != api.ErrArg {
			t.Fatal(x, b, e)
		}
		if n, e := sign.Sign(x); n != 0 || e != api.ErrArg {
			t.Fatal(x, n, e)
		}
	}
}

// P16.1: what is stored of a channel, and of none.
func TestStored(t *testing.T) {
	d := laid(t)
	d.Add(key(0x13ff, 5), api.Spec{Kind: api.U8, Access: api.ReadWrite, High: 9}, []byte{9})
	for c := range 4 {
		d.Set(key(0x13ff, c+1), int64(65535-c))
	}
	for c := range 4 {
		if n, there := sign.Stored(d, c); n != 65535-c || !there {
			t.Fatal(c, n)
		}
	}
	d.Set(key(0x13ff, 1), 0)
	if n, there := sign.Stored(d, 0); n != 0 || !there {
		t.Fatal(n, there)
	}
	for _, c := range []int{-1, -2, 4, 5, 254, 255, 1 << 32, math.MaxInt, math.MinInt} {
		if n, there := sign.Stored(d, c); n != 0 || there {
			t.Fatal(c, n)
		}
	}
	for c := range 4 {
		text := odd(t, key(0x13ff, c+1), api.Spec{Kind: api.Text, Access: api.ReadWrite, High: 2}, []byte{1, 1})
		for _, d := range []*dict.Dict{nil, dict.New(), text} {
			if n, there := sign.Stored(d, c); n != 0 || there {
				t.Fatal(c, n)
			}
		}
	}
}

// P16.2: each way in which a channel may not be approved.
func TestFaults(t *testing.T) {
	for _, x := range []struct {
		what   string
		change func(*dict.Dict)
		faults []int
	}{
		{"nothing", func(d *dict.Dict) {}, nil},
		{"a time", func(d *dict.Dict) { d.Set(key(0x1301, 2), 999) }, []int{0}},
		{"a gap", func(d *dict.Dict) { d.Set(key(0x1302, 3), 999) }, []int{1}},
		{"an identifier", func(d *dict.Dict) { d.Set(key(0x1303, 5), 0x121) }, []int{2}},
		{"both", func(d *dict.Dict) { d.Set(key(0x1303, 5), 0x121); d.Set(key(0x1303, 6), 0x122) }, []int{2}},
		{"a direction", func(d *dict.Dict) { d.Set(key(0x1304, 1), 1) }, []int{3}},
		{"off", func(d *dict.Dict) { d.Set(key(0x1304, 1), 0) }, nil},
		{"off, and other things", func(d *dict.Dict) {
			d.Set(key(0x1304, 1), 0)
			d.Set(key(0x1304, 2), 5)
			d.Set(key(0x1304, 6), 0x180)
			d.Set(key(0x1384, 0), 8)
			d.Set(key(0x13ff, 4), 5)
		}, nil},
		{"how many", func(d *dict.Dict) { d.Set(key(0x1381, 0), 1) }, []int{0}},
		{"one that is mapped", func(d *dict.Dict) { d.Set(key(0x1382, 2), 0x20000008) }, []int{1}},
		{"one behind", func(d *dict.Dict) { d.Set(key(0x1382, 3), 0x20000008) }, nil},
		{"a signature", func(d *dict.Dict) {
			n, _ := d.Num(key(0x13ff, 2))
			d.Set(key(0x13ff, 2), n^1)
		}, []int{1}},
		{"other signatures", func(d *dict.Dict) {
			for c := range 4 {
				n, _ := d.Num(key(0x13ff, c+1))
				d.Set(key(0x13ff, c+1), (n+1)%65536)
			}
		}, []int{0, 1, 2, 3}},
		{"some", func(d *dict.Dict) { d.Set(key(0x1301, 2), 999); d.Set(key(0x1303, 2), 999) }, []int{0, 2}},
	} {
		for _, on := range []bool{true, false} {
			d := sealed(t)
			x.change(d)
			area.SetFlag(d, on)
			if l := sign.Faults(d); !slices.Equal(l, x.faults) {
				t.Fatal(x.what, l)
			}
			good := on && len(x.faults) == 0
			if sign.Good(d) != good {
				t.Fatal(x.what, !good)
			}
			var want []told
			if good {
				want = collect(area.Channels(d))
			}
			if l := collect(sign.Active(d)); !slices.Equal(l, want) {
				t.Fatal(x.what, l)
			}
		}
	}
}

// P16.2: the right signature does not help a table that does not fit.
func TestFaultsFit(t *testing.T) {
	for _, change := range []func(*api.Channel){
		func(x *api.Channel) { x.Plain, x.Turned = 0x104, 0x105 },
		func(x *api.Channel) { x.Turned = 0x108 },
		func(x *api.Channel) { x.N = 0 },
		func(x *api.Channel) { x.N = 3 },
		func(x *api.Channel) { x.Map[0].Bits = 16 },
		func(x *api.Channel) { x.Map[0] = slot(0x1302, 2, 16) },
		func(x *api.Channel) { x.Map[0] = slot(0x2001, 2, 16) },
	} {
		for _, dir := range []api.Dir{api.Off, api.Sends, api.Takes} {
			d := sealed(t)
			x := with(some(), change)
			x.Dir = dir
			n, e := sign.Sign(x)
			if area.Store(d, 2, x) != api.OK || e != api.OK || d.Set(key(0x13ff, 3), int64(n)) != api.OK {
				t.Fatal(x)
			}
			var want []int
			if dir != api.Off {
				want = []int{2}
			}
			if l := sign.Faults(d); !slices.Equal(l, want) || sign.Good(d) != (dir == api.Off) {
				t.Fatal(x, l)
			}
		}
	}
	d := sealed(t)
	x := with(some(), func(x *api.Channel) { x.Time = 77 })
	n, _ := sign.Sign(x)
	area.Store(d, 2, x)
	d.Set(key(0x13ff, 3), int64(n)) // with this it is approved, since the flag stayed
	if !sign.Good(d) {
		t.Fatal(sign.Faults(d))
	}
}

// P16.2: a channel that can't be loaded is none that is approved.
func TestFaultsNone(t *testing.T) {
	whole := laid(t)
	text := api.Spec{Kind: api.Text, Access: api.ReadWrite, High: 4}
	for k := range whole.Keys() {
		for _, d := range []*dict.Dict{odd(t, k, api.Spec{}, nil), odd(t, k, text, nil)} {
			var want []int
			for c := range 4 {
				if k.Index == 0x1301+c || k.Index == 0x1381+c || k == key(0x13ff, c+1) {
					want = []int{c}
				}
			}
			area.SetFlag(d, true)
			if l := sign.Faults(d); !slices.Equal(l, want) {
				t.Fatal(k, l)
			}
			if good := len(want) == 0 && k != key(0x13fe, 0); sign.Good(d) != good {
				t.Fatal(k, !good)
			}
		}
	}
	d := dict.New()
	if l := sign.Faults(d); !slices.Equal(l, []int{0, 1, 2, 3}) || sign.Good(d) || len(collect(sign.Active(d))) != 0 {
		t.Fatal(l)
	}
	if l := sign.Faults(nil); len(l) != 0 || sign.Good(nil) || len(collect(sign.Active(nil))) != 0 {
		t.Fatal(l)
	}
}

// P16.2: what was laid alone is not approved for its flag, though there are no faults.
func TestLaid(t *testing.T) {
	d := laid(t)
	if l := sign.Faults(d); len(l) != 0 || sign.Good(d) {
		t.Fatal(l)
	}
	for n := range int64(256) {
		d.Set(key(0x13fe, 0), n)
		if sign.Good(d) != (n == 0xa5) {
			t.Fatal(n)
		}
	}
}

// P16.2, P7: active channels are told as often as they are ranged over, as they are when that begins.
func TestActive(t *testing.T) {
	d := full(t)
	seq := sign.Active(d)
	if l := collect(seq); len(l) != 0 {
		t.Fatal(l)
	}
	x, _ := area.Load(d, 1)
	area.Store(d, 1, with(x, func(x *api.Channel) { x.Dir = api.Off }))
	if e := sign.Seal(d); e != api.OK {
		t.Fatal(e)
	}
	var want []told
	for _, c := range []int{0, 2, 3} {
		x, _ := area.Load(d, c)
		want = append(want, told{c, x})
	}
	if l := collect(seq); !slices.Equal(l, want) {
		t.Fatal(l)
	}
	for stop := range want {
		var l []told
		seq(func(c int, x api.Channel) bool {
			l = append(l, told{c, x})
			return len(l) <= stop
		})
		if !slices.Equal(l, want[:stop+1]) {
			t.Fatal(stop, l)
		}
	}
	n := 0
	for c, x := range seq {
		if want[n] != (told{c, x}) {
			t.Fatal(c, x)
		}
		n++
		if n == 1 && len(collect(seq)) != 3 {
			t.Fatal("one within another")
		}
		area.Write(d, key(0x1304, 2), []byte{9, 9})
	}
	if n != 3 || len(collect(seq)) != 0 {
		t.Fatal(n)
	}
}

// P16.2: the signature of each channel is stored, whatever its Dir is, and nothing else but the flag is changed.
func TestSeal(t *testing.T) {
	d := full(t)
	x := some()
	x.Dir, x.Plain, x.N = api.Off, 0x102, 8
	area.Store(d, 1, x)
	d.Set(key(0x13ff, 2), 1)
	want := all(t, d)
	for c := range 4 {
		x, _ := area.Load(d, c)
		n, _ := sign.Sign(x)
		want[key(0x13ff, c+1)] = string([]byte{byte(n), byte(n >> 8)})
	}
	want[key(0x13fe, 0)] = "\xa5"
	changes := d.Changes()
	if e := sign.Seal(d); e != api.OK || !maps.Equal(all(t, d), want) || !sign.Good(d) {
		t.Fatal(e)
	}
	if d.Changes() != changes+5 {
		t.Fatal(d.Changes() - changes)
	}
	if e := sign.Seal(d); e != api.OK || d.Changes() != changes+5 { // it holds all that already
		t.Fatal(e)
	}
	area.SetFlag(d, false)
	if e := sign.Seal(d); e != api.OK || !sign.Good(d) {
		t.Fatal(e)
	}
	d = laid(t) // all channels are Off: their tables have signatures, too
	if e := sign.Seal(d); e != api.OK || !sign.Good(d) {
		t.Fatal(e)
	}
	first := crc([]byte("\x00\x01\x00\x01\x00\x01\x01\x00\x00\x02\x01\x00\x00\x00"))
	for c := range 4 {
		if n, _ := sign.Stored(d, c); n != first {
			t.Fatal(c, n)
		}
	}
}

// unchanged: Seal has this error, and nothing has changed.
func unchanged(t *testing.T, d *dict.Dict, want api.Errno) {
	t.Helper()
	before, changes := all(t, d), d.Changes()
	if e := sign.Seal(d); e != want {
		t.Fatal(e, want)
	}
	if !maps.Equal(all(t, d), before) || d.Changes() != changes {
		t.Fatal("something has changed")
	}
}

// P16.2, P2: of what can't be sealed nothing is changed; of several errors the one that is named first.
func TestSealErrors(t *testing.T) {
	if e := sign.Seal(nil); e != api.ErrNil {
		t.Fatal(e)
	}
	unchanged(t, dict.New(), api.ErrNone)
	for c := range 4 {
		d := sealed(t)
		area.Store(d, c, with(some(), func(x *api.Channel) { x.N = 0 }))
		unchanged(t, d, api.ErrFit)
		if !area.Flag(d) {
			t.Fatal("the flag fell")
		}
	}
	text := api.Spec{Kind: api.Text, Access: api.ReadWrite, High: 4}
	for _, k := range []api.Key{key(0x1304, 0), key(0x1304, 2), key(0x1384, 8), key(0x13ff, 4), key(0x1301, 4), key(0x13ff, 1)} {
		for _, s := range []api.Spec{{}, text} {
			d := odd(t, k, s, nil)
			unchanged(t, d, api.ErrNone)
			area.Store(d, 1, with(some(), func(x *api.Channel) { x.N = 0 })) // does not fit, either
			unchanged(t, d, api.ErrNone)
		}
	}
}

// P16.2: dict's first error, of entries that somebody else laid; nothing has changed then, either.
func TestSealOdd(t *testing.T) {
	for _, x := range []struct {
		k api.Key
		s api.Spec
		e api.Errno
	}{
		{key(0x13fe, 0), api.Spec{}, api.ErrNone},
		{key(0x13fe, 0), api.Spec{Kind: api.Text, Access: api.ReadWrite, High: 4}, api.ErrArg},
		{key(0x13fe, 0), api.Spec{Kind: api.U8, Access: api.ReadWrite, High: 0xa4}, api.ErrFit},
		{key(0x13fe, 0), api.Spec{Kind: api.U8, Access: api.Constant, High: 255}, api.ErrState},
		{key(0x13ff, 1), api.Spec{Kind: api.U16, Access: api.Constant, High: 65535}, api.ErrState},
		{key(0x13ff, 3), api.Spec{Kind: api.U16, Access: api.Constant, High: 65535}, api.ErrState},
		{key(0x13ff, 4), api.Spec{Kind: api.U16, Access: api.ReadWrite, High: 0}, api.ErrFit},
		{key(0x13ff, 0), api.Spec{Kind: api.Text, Access: api.ReadWrite, High: 4}, api.OK}, // it plays no part
	} {
		d := odd(t, x.k, x.s, nil)
		area.Store(d, 0, some())
		if x.e != api.OK {
			unchanged(t, d, x.e)
		} else if e := sign.Seal(d); e != api.OK || !sign.Good(d) {
			t.Fatal(x.k, e)
		}
	}
	// numbers that have no place among a table's bytes have no signature
	wide := api.Spec{Kind: api.I32, Access: api.ReadWrite, Low: -9, High: 1 << 30}
	for _, k := range []api.Key{key(0x1304, 2), key(0x1304, 1), key(0x1384, 0)} {
		d := odd(t, k, wide, nil)
		d.Set(k, -1)
		if sign.Seal(d) == api.OK || sign.Good(d) {
			t.Fatal(k)
		}
	}
	k := key(0x1304, 2)
	d := odd(t, k, wide, nil)
	area.Store(d, 3, some())
	if e := sign.Seal(d); e != api.OK {
		t.Fatal(e)
	}
	d.Set(k, 65536+0x0201)
	if l := sign.Faults(d); !slices.Equal(l, []int{3}) {
		t.Fatal(l)
	}
	d.Set(key(0x13ff, 4), 0) // nor is 0 its signature
	if l := sign.Faults(d); !slices.Equal(l, []int{3}) || sign.Good(d) {
		t.Fatal(l)
	}
	unchanged(t, d, api.ErrArg)
}

// P16.3: what was sealed is approved; any write from outside to a safety parameter makes it so no more, and no other one does.
func TestSealedAndWritten(t *testing.T) {
	d := sealed(t)
	if !sign.Good(d) || len(sign.Faults(d)) != 0 || len(collect(sign.Active(d))) != 4 {
		t.Fatal(sign.Faults(d))
	}
	for k := range d.Keys() {
		b, _ := d.Raw(k)
		f := d.Fork()
		a := area.Write(f, k, b) // what it held already
		good := a != api.Fine || k.Index == 0x2000 || k.Index == 0x13fe
		if sign.Good(f) != good || len(sign.Faults(f)) != 0 || !sign.Good(d) {
			t.Fatal(k, a, !good)
		}
		if !good {
			if l := collect(sign.Active(f)); len(l) != 0 {
				t.Fatal(l)
			}
			if e := sign.Seal(f); e != api.OK || !sign.Good(f) {
				t.Fatal(k, e)
			}
		}
	}
	// the flag set again without the signature does not help
	area.Write(d, key(0x1302, 2), []byte{200, 0})
	if a := area.Write(d, key(0x13fe, 0), []byte{0xa5}); a != api.Fine || !area.Flag(d) || sign.Good(d) {
		t.Fatal(a)
	}
	if l := sign.Faults(d); !slices.Equal(l, []int{1}) {
		t.Fatal(l)
	}
}

// tableOf is the table whose bytes these are; false, if its N is another one.
func tableOf(b []byte, n int) (api.Channel, bool) {
	num := func(from, size int) int {
		v := 0
		for i := size - 1; i >= 0; i-- {
			v = v*256 + int(b[from+i])
		}
		return v
	}
	x := api.Channel{Dir: api.Dir(num(0, 1)), Time: num(1, 2), Gap: num(3, 2), Plain: num(5, 4), Turned: num(9, 4), N: num(13, 1)}
	if x.N != n {
		return x, false
	}
	for i := range n {
		w := num(14+4*i, 4)
		x.Map[i] = slot(w/65536, w/256%256, w%256)
	}
	return x, true
}

// random is any table.
func random(r *rand.Rand) api.Channel {
	x := api.Channel{Dir: api.Dir(r.Intn(256)), Time: r.Intn(65536), Gap: r.Intn(65536), Plain: r.Intn(1 << 32), Turned: r.Intn(1 << 32), N: r.Intn(9)}
	for i := range x.N {
		x.Map[i] = slot(r.Intn(65536), r.Intn(256), r.Intn(256))
	}
	return x
}

// P16.4: tables that are unlike in bits within sixteen places have other signatures.
func TestWindows(t *testing.T) {
	r := rand.New(rand.NewSource(16))
	n := 0
	for range 20000 {
		x := random(r)
		b, _ := sign.Bytes(x)
		want, _ := sign.Sign(x)
		at := r.Intn(len(b)*8 - 15)
		turned := 1 + r.Intn(65535)
		for bit := range 16 {
			b[(at+bit)/8] ^= byte(turned>>bit&1) << (7 - (at+bit)%8)
		}
		other, is := tableOf(b, x.N)
		if !is { // it would have another number of slots
			continue
		}
		n++
		back, e := sign.Bytes(other)
		if e != api.OK || !bytes.Equal(back, b) {
			t.Fatal(other, e)
		}
		if got, e := sign.Sign(other); e != api.OK || got == want {
			t.Fatal(x, other, got)
		}
	}
	if n < 1000 {
		t.Fatal(n)
	}
}

// P16.4: tables whose signatures are alike have bytes whose sum leaves nothing.
func TestAlike(t *testing.T) {
	r := rand.New(rand.NewSource(17))
	seen := map[int]api.Channel{}
	alike := 0
	for range 3000 {
		x := random(r)
		x.N = 2
		n, e := sign.Sign(x)
		if e != api.OK {
			t.Fatal(x, e)
		}
		other, is := seen[n]
		seen[n] = x
		if !is {
			continue
		}
		alike++
		one, _ := sign.Bytes(x)
		two, _ := sign.Bytes(other)
		for i := range one {
			one[i] ^= two[i]
		}
		if crc(one) != 0 {
			t.Fatal(x, other)
		}
	}
	if alike == 0 {
		t.Fatal("none were alike")
	}
}

// P3: what is answered is new memory.
func TestMemory(t *testing.T) {
	one, _ := sign.Bytes(some())
	two, _ := sign.Bytes(some())
	one[0] = 77
	if two[0] != 2 {
		t.Fatal(two)
	}
	d := dict.New()
	l := sign.Faults(d)
	l[0] = 77
	if sign.Faults(d)[0] != 0 {
		t.Fatal("it was kept")
	}
}
