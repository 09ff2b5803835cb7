package pdo_test

import (
	"maps"
	"math"
	"math/rand"
	"slices"
	"testing"

	"tripwire/api"
	"tripwire/dict"
	"tripwire/frame"
	"tripwire/pdo"
	"tripwire/pmap"
)

// The calls have just these signatures.
var (
	_ func(*dict.Dict) api.Errno                                                 = pdo.Lay
	_ func(*dict.Dict, int, bool) (api.Pdo, api.Errno)                           = pdo.Load
	_ func(*dict.Dict, int, bool, api.Pdo) api.Errno                             = pdo.Store
	_ func(*dict.Dict, api.Pdo) bool                                             = pdo.Used
	_ func(*pdo.Sender, int, *dict.Dict, api.Pdo, bool) (api.Frame, bool)        = (*pdo.Sender).Step
	_ func(t *pdo.Taker, d *dict.Dict, x api.Pdo, f api.Frame) (errno api.Errno) = (*pdo.Taker).Hear
	_ func(t *pdo.Taker, d *dict.Dict, x api.Pdo) (errno api.Errno)              = (*pdo.Taker).Pulse
)

// key is a name.
func key(index, sub int) api.Key { return api.Key{Index: index, Sub: sub} }

// slot is a slot.
func slot(index, sub, bits int) api.Slot { return api.Slot{Key: key(index, sub), Bits: bits} }

// spec is what an entry may hold.
func spec(k api.Kind, a api.Access, low, high int64) api.Spec {
	return api.Spec{Kind: k, Access: a, Low: low, High: high}
}

// add adds an entry.
func add(t *testing.T, d *dict.Dict, k api.Key, s api.Spec, first ...byte) {
	t.Helper()
	if e := d.Add(k, s, first); e != api.OK {
		t.Fatal(k, s, first, e)
	}
}

// row is what the document's table says of an entry: its name, what it may hold, what it holds at first, and whether that is told of as something.
type row struct {
	k     api.Key
	s     api.Spec
	first string
	holds bool
}

// rows are the document's table, in its order.
func rows() []row {
	all := func(k api.Kind, high int64) api.Spec { return spec(k, api.ReadWrite, 0, high) }
	fixed := func(n int64) api.Spec { return spec(api.U8, api.Constant, n, n) }
	mapping := func(index int) []row {
		l := []row{{key(index, 0), all(api.U8, 8), "\x00", true}}
		for sub := 1; sub <= 8; sub++ {
			l = append(l, row{key(index, sub), all(api.U32, 4294967295), "\x00\x00\x00\x00", true})
		}
		return l
	}
	var l []row
	for p := range 2 {
		l = append(l,
			row{key(0x1800+p, 0), fixed(5), "\x05", false},
			row{key(0x1800+p, 1), all(api.U32, 4294967295), "\x00\x00\x00\x80", true},
			row{key(0x1800+p, 2), all(api.U8, 255), "\xff", true},
			row{key(0x1800+p, 3), all(api.U16, 65535), "\x00\x00", true},
			row{key(0x1800+p, 5), all(api.U16, 65535), "\x00\x00", true})
		l = append(l, mapping(0x1a00+p)...)
		l = append(l,
			row{key(0x1400+p, 0), fixed(2), "\x02", false},
			row{key(0x1400+p, 1), all(api.U32, 4294967295), "\x00\x00\x00\x80", true},
			row{key(0x1400+p, 2), all(api.U8, 255), "\xff", true})
		l = append(l, mapping(0x1600+p)...)
	}
	return l
}

// ofTable: is it an entry of a table, or of its mapping object?
func ofTable(k api.Key, p int, sends bool) bool {
	if sends {
		return k.Index == 0x1800+p || k.Index == 0x1a00+p
	}
	return k.Index == 0x1400+p || k.Index == 0x1600+p
}

// state is all that can be told of a dictionary.
type state struct {
	held    map[api.Key]string
	specs   map[api.Key]api.Spec
	changes int
}

func newState() state { return state{map[api.Key]string{}, map[api.Key]api.Spec{}, 0} }

func stateOf(d *dict.Dict) state {
	s := newState()
	s.changes = d.Changes()
	for k := range d.Keys() {
		b, _ := d.Raw(k)
		s.held[k] = string(b)
		s.specs[k], _ = d.Spec(k)
	}
	return s
}

func (s state) is(other state) bool {
	return s.changes == other.changes && maps.Equal(s.held, other.held) && maps.Equal(s.specs, other.specs)
}

// laid has all tables, and entries that may be mapped (2000h, 1 to 4), and some that may not.
func laid(t *testing.T) *dict.Dict {
	t.Helper()
	d := dict.New()
	if e := pdo.Lay(d); e != api.OK {
		t.Fatal(e)
	}
	addOwn(t, d)
	return d
}

func addOwn(t *testing.T, d *dict.Dict) {
	t.Helper()
	add(t, d, key(0x2000, 1), spec(api.U8, api.ReadWrite, 0, 255))
	add(t, d, key(0x2000, 2), spec(api.U16, api.ReadOnly, 0, 65535))
	add(t, d, key(0x2000, 3), spec(api.I32, api.WriteOnly, -5, 5))
	add(t, d, key(0x2000, 4), spec(api.Bool, api.ReadWrite, 0, 1))
	add(t, d, key(0x2000, 8), spec(api.U8, api.Constant, 0, 255))
	add(t, d, key(0x2000, 9), spec(api.Text, api.ReadWrite, 1, 1))
}

// odd has all tables, with another spec of one of their entries (without it, if that is no spec), and own entries.
func odd(t *testing.T, k api.Key, s api.Spec, first ...byte) *dict.Dict {
	t.Helper()
	d := dict.New()
	for _, r := range rows() {
		switch {
		case r.k != k:
			add(t, d, r.k, r.s, []byte(r.first)...)
		case s != (api.Spec{}):
			add(t, d, k, s, first...)
		}
	}
	addOwn(t, d)
	return d
}

// some is a table that may be used in what laid makes: two bytes of 2000h, 1, and 2000h, 4.
func some(kind int) api.Pdo {
	return of(api.Pdo{On: true, Id: 0x181, Type: kind}, slot(0x2000, 1, 8), slot(0x2000, 4, 8))
}

// of is a table that maps these.
func of(x api.Pdo, l ...api.Slot) api.Pdo {
	x.Map = [8]api.Slot{}
	x.N = copy(x.Map[:], l)
	return x
}

// with is a table with something of it changed.
func with(x api.Pdo, change func(*api.Pdo)) api.Pdo {
	change(&x)
	return x
}

// numbers are such as a table's number may be, or not.
func numbers() []int {
	var l []int
	for n := -3; n <= 260; n++ {
		l = append(l, n)
	}
	return append(l, 65534, 65535, 65536, 1<<31-1, 1<<31, 1<<32, 1<<32+1, 1<<32+254, -254, -256, -128, math.MinInt, math.MinInt+1, math.MinInt+255, math.MaxInt)
}

// P26.1: all entries, what they may hold, and what they hold at first.
func TestLay(t *testing.T) {
	want := newState()
	for _, r := range rows() {
		want.held[r.k], want.specs[r.k] = r.first, r.s
	}
	d := dict.New()
	if e := pdo.Lay(d); e != api.OK || !want.is(stateOf(d)) || d.Len() != 52 {
		t.Fatal(e, stateOf(d))
	}
	if e := pdo.Lay(d); e != api.ErrTwice || !want.is(stateOf(d)) {
		t.Fatal(e)
	}
	if e := pdo.Lay(nil); e != api.ErrNil {
		t.Fatal(e)
	}
}

// P26.1: in the table's order, p by p: what was added ahead of an error stays.
func TestLayError(t *testing.T) {
	l := rows()
	other := spec(api.Text, api.ReadOnly, 1, 2)
	for at, r := range l {
		d := dict.New()
		add(t, d, r.k, other, 'x')
		want := newState()
		for _, ahead := range l[:at] {
			want.held[ahead.k], want.specs[ahead.k] = ahead.first, ahead.s
		}
		want.held[r.k], want.specs[r.k] = "x", other
		if e := pdo.Lay(d); e != api.ErrTwice || !want.is(stateOf(d)) {
			t.Fatal(r.k, e)
		}
	}
	for room := range len(l) + 2 {
		d := dict.New()
		for i := range 512 - room {
			add(t, d, key(0x3000+i, 0), spec(api.U8, api.ReadOnly, 0, 9))
		}
		want := api.ErrFull
		if room >= len(l) {
			want = api.OK
		}
		if e := pdo.Lay(d); e != want {
			t.Fatal(room, e)
		}
		for i, r := range l {
			if _, there := d.Raw(r.k); there != (i < room) {
				t.Fatal(room, r.k)
			}
		}
	}
}

// P26.1: what stands in the entries is a table.
func TestLoad(t *testing.T) {
	d := laid(t)
	for p := range 2 {
		for _, sends := range []bool{true, false} {
			if x, e := pdo.Load(d, p, sends); e != api.OK || x != (api.Pdo{Type: 255}) {
				t.Fatal(p, sends, x, e)
			}
		}
	}
	n := int64(0)
	for _, r := range rows() { // each entry another number
		if n++; r.s.Kind == api.U16 {
			d.Set(r.k, 1000+n)
		} else if r.holds {
			d.Set(r.k, n)
		}
	}
	d.Set(key(0x1800, 1), 0x181)
	d.Set(key(0x1801, 1), 0x80000000+0x57f)
	d.Set(key(0x1400, 1), 0x7fffffff)
	d.Set(key(0x1401, 1), 0xffffffff)
	for i, index := range []int{0x1a00, 0x1a01, 0x1600, 0x1601} {
		d.Set(key(index, 0), int64(2*i))
		d.Set(key(index, 1), 0x20000108+int64(i)<<16)
		d.Set(key(index, 8), 4294967295)
	}
	number := func(index, sub int) int {
		n, _ := d.Num(key(index, sub))
		return int(n)
	}
	for _, x := range []struct {
		p     int
		sends bool
		want  api.Pdo
	}{
		{0, true, api.Pdo{On: true, Id: 0x181, Type: 3, Least: 1004, Most: 1005}},
		{1, true, api.Pdo{Id: 0x57f, Type: 29, Least: 1030, Most: 1031}},
		{0, false, api.Pdo{On: true, Id: 0x7fffffff, Type: 17}},
		{1, false, api.Pdo{Id: 0x7fffffff, Type: 43}},
	} {
		index := 0x1600 + x.p
		if x.sends {
			index = 0x1a00 + x.p
		}
		x.want.N = number(index, 0)
		for i := range x.want.N {
			n := number(index, 1+i)
			x.want.Map[i] = slot(n/65536, n/256%256, n%256)
		}
		if got, e := pdo.Load(d, x.p, x.sends); got != x.want || e != api.OK {
			t.Fatalf("%v:\n%v, not\n%v, %v", x, got, x.want, e)
		}
	}
}

// P26.1: no table, and no dictionary.
func TestNoTable(t *testing.T) {
	d := laid(t)
	before := stateOf(d)
	wrong := with(some(255), func(x *api.Pdo) { x.N = 9 })
	for _, sends := range []bool{true, false} {
		for _, p := range numbers() {
			if p == 0 || p == 1 {
				continue
			}
			if x, e := pdo.Load(d, p, sends); x != (api.Pdo{}) || e != api.ErrRange {
				t.Fatal(p, x, e)
			}
			for _, y := range []api.Pdo{some(255), wrong} {
				if e := pdo.Store(d, p, sends, y); e != api.ErrRange {
					t.Fatal(p, e)
				}
			}
		}
		for _, p := range []int{-1, 0, 1, 2} {
			if x, e := pdo.Load(nil, p, sends); x != (api.Pdo{}) || e != api.ErrNil {
				t.Fatal(p, x, e)
			}
			if e := pdo.Store(nil, p, sends, wrong); e != api.ErrNil {
				t.Fatal(p, e)
			}
		}
		if x, e := pdo.Load(dict.New(), 1, sends); x != (api.Pdo{}) || e != api.ErrNone {
			t.Fatal(x, e)
		}
		if e := pdo.Store(dict.New(), 1, sends, some(255)); e != api.ErrNone {
			t.Fatal(e)
		}
		if e := pdo.Store(dict.New(), 1, sends, wrong); e != api.ErrArg {
			t.Fatal(e)
		}
	}
	if !before.is(stateOf(d)) {
		t.Fatal("something has changed")
	}
}

// P26.1: a table with an entry that holds something and is not there, or holds a text, can't be loaded; the others can.
func TestLoadNone(t *testing.T) {
	for _, r := range rows() {
		for _, d := range []*dict.Dict{
			odd(t, r.k, api.Spec{}),
			odd(t, r.k, spec(api.Text, api.ReadWrite, 0, 4)),
			odd(t, r.k, spec(api.Text, api.ReadOnly, 1, 4), 1),
		} {
			for p := range 2 {
				for _, sends := range []bool{true, false} {
					x, e := pdo.Load(d, p, sends)
					if ofTable(r.k, p, sends) && r.holds {
						if x != (api.Pdo{}) || e != api.ErrNone {
							t.Fatal(r.k, p, sends, x, e)
						}
					} else if x != (api.Pdo{Type: 255}) || e != api.OK {
						t.Fatal(r.k, p, sends, x, e)
					}
				}
			}
		}
	}
	for _, index := range []int{0x1a00, 0x1600} { // its mapping object has no slots to tell
		for _, n := range []byte{9, 255} {
			d := odd(t, key(index, 0), spec(api.U8, api.ReadWrite, 0, 255), n)
			if x, e := pdo.Load(d, 0, index == 0x1a00); x != (api.Pdo{}) || e != api.ErrNone {
				t.Fatal(index, n, x, e)
			}
		}
	}
}

// Entries that somebody else laid may hold other numbers: they are told as they are, and nothing panics.
func TestLoadOdd(t *testing.T) {
	wide := spec(api.I32, api.ReadWrite, -1<<31, 1<<31-1)
	for _, k := range []api.Key{key(0x1800, 1), key(0x1800, 2), key(0x1800, 3), key(0x1800, 5)} {
		x, e := pdo.Load(odd(t, k, wide, 0xfb, 0xff, 0xff, 0xff), 0, true)
		if e != api.OK || min(x.Id, x.Type, x.Least, x.Most) != -5 {
			t.Fatal(k, x, e)
		}
		x = with(x, func(y *api.Pdo) { *y = of(*y, slot(0x2000, 1, 8)) })
		if _, is := new(pdo.Sender).Step(0, laid(t), x, true); is {
			t.Fatal(k)
		}
	}
}

// P26.1, P26.4: what was stored stands in the entries, and is loaded.
func TestStore(t *testing.T) {
	x := api.Pdo{On: true, Id: 0x234, Type: 77, Least: 500, Most: 65535, N: 3}
	x.Map = [8]api.Slot{slot(0x2000, 1, 8), slot(0xffff, 255, 255), slot(0, 0, 0), slot(-1, 999, -5), slot(1, 2, 3)}
	for p := range 2 {
		for _, sends := range []bool{true, false} {
			for _, on := range []bool{true, false} {
				d := laid(t)
				for _, r := range rows() {
					d.Set(r.k, 7)
				}
				want := stateOf(d)
				table, mapping := 0x1400+p, 0x1600+p
				loaded := with(x, func(x *api.Pdo) {
					x.On, x.Least, x.Most = on, 0, 0
					clear(x.Map[3:])
				})
				if sends {
					table, mapping = 0x1800+p, 0x1a00+p
					want.held[key(table, 3)], want.held[key(table, 5)] = "\xf4\x01", "\xff\xff"
					loaded.Least, loaded.Most = 500, 65535
				}
				want.held[key(table, 1)] = "\x34\x02\x00\x00"
				if !on {
					want.held[key(table, 1)] = "\x34\x02\x00\x80"
				}
				want.held[key(table, 2)] = "\x4d"
				want.held[key(mapping, 0)] = "\x03"
				want.held[key(mapping, 1)], want.held[key(mapping, 2)] = "\x08\x01\x00\x20", "\xff\xff\xff\xff"
				for sub := 3; sub <= 8; sub++ {
					want.held[key(mapping, sub)] = "\x00\x00\x00\x00"
				}
				if e := pdo.Store(d, p, sends, with(x, func(x *api.Pdo) { x.On = on })); e != api.OK {
					t.Fatal(e)
				}
				if got := stateOf(d); !maps.Equal(got.held, want.held) {
					t.Fatal(p, sends, on, got.held, want.held)
				}
				if got, e := pdo.Load(d, p, sends); got != loaded || e != api.OK {
					t.Fatal(p, sends, on, got, e)
				}
			}
		}
	}
}

// P26.1: each Id and each number of slots that may be, and no others.
func TestStoreArg(t *testing.T) {
	d := laid(t)
	for _, sends := range []bool{true, false} {
		for _, on := range []bool{true, false} {
			for _, n := range append(numbers(), 0x180, 0x181, 0x57f, 0x580, 2046, 2047, 2048, 0x80000000+0x181) {
				before := stateOf(d)
				x := with(some(3), func(x *api.Pdo) { x.On, x.Id = on, n })
				e := pdo.Store(d, 1, sends, x)
				if n < 0 || n > 2047 {
					if e != api.ErrArg || !before.is(stateOf(d)) {
						t.Fatal(x, e)
					}
				} else if got, other := pdo.Load(d, 1, sends); e != api.OK || other != api.OK || got != x {
					t.Fatal(x, e, got, other)
				}
				before = stateOf(d)
				x = with(some(3), func(x *api.Pdo) { x.On, x.N = on, n })
				e = pdo.Store(d, 1, sends, x)
				if n < 0 || n > 8 {
					if e != api.ErrArg || !before.is(stateOf(d)) {
						t.Fatal(x, e)
					}
				} else if got, other := pdo.Load(d, 1, sends); e != api.OK || other != api.OK || got.N != n || got.On != on {
					t.Fatal(x, e, got, other)
				}
			}
		}
	}
	for _, change := range []func(x *api.Pdo){ // ahead of what Set would say
		func(x *api.Pdo) { x.N, x.Type = -1, 256 },
		func(x *api.Pdo) { x.Id, x.Type = 2048, 256 },
	} {
		if e := pdo.Store(d, 0, true, with(some(0), change)); e != api.ErrArg {
			t.Fatal(e)
		}
	}
}

// P26.1: the first error of Set, or of pmap's Store, and nothing has changed.
func TestStoreFit(t *testing.T) {
	d := laid(t)
	pdo.Store(d, 0, true, some(9))
	pdo.Store(d, 0, false, some(9))
	before := stateOf(d)
	for _, x := range []struct {
		change      func(x *api.Pdo)
		sent, taken api.Errno
	}{
		{func(x *api.Pdo) { x.Type = -1 }, api.ErrFit, api.ErrFit},
		{func(x *api.Pdo) { x.Type = 256 }, api.ErrFit, api.ErrFit},
		{func(x *api.Pdo) { x.Type = math.MaxInt }, api.ErrFit, api.ErrFit},
		{func(x *api.Pdo) { x.Type = 1<<32 + 5 }, api.ErrFit, api.ErrFit},
		{func(x *api.Pdo) { x.Type = math.MinInt }, api.ErrFit, api.ErrFit},
		{func(x *api.Pdo) { x.Least = -1 }, api.ErrFit, api.OK},
		{func(x *api.Pdo) { x.Least = 65536 }, api.ErrFit, api.OK},
		{func(x *api.Pdo) { x.Most = -1 }, api.ErrFit, api.OK},
		{func(x *api.Pdo) { x.Most = 65536 }, api.ErrFit, api.OK},
		{func(x *api.Pdo) { x.Least, x.Most = math.MinInt, math.MaxInt }, api.ErrFit, api.OK},
		{func(x *api.Pdo) { x.Map[1].Bits = 256 }, api.ErrArg, api.ErrArg},
		{func(x *api.Pdo) { x.Map[0].Key.Sub = -1 }, api.ErrArg, api.ErrArg},
		{func(x *api.Pdo) { x.Map[0].Key.Index, x.Type = 65536, 256 }, api.ErrFit, api.ErrFit}, // the mapping comes behind
		{func(x *api.Pdo) { x.Map[0].Key.Index, x.Most = 65536, 65536 }, api.ErrFit, api.ErrArg},
		{func(x *api.Pdo) { x.Map[2].Bits = 256 }, api.OK, api.OK}, // behind N
	} {
		y := with(some(5), x.change)
		for _, sends := range []bool{true, false} {
			want := x.taken
			if sends {
				want = x.sent
			}
			f := d.Fork()
			if e := pdo.Store(f, 0, sends, y); e != want {
				t.Fatal(y, sends, e, want)
			}
			if want != api.OK && !before.is(stateOf(f)) {
				t.Fatal(y, sends, "something has changed")
			}
		}
	}
	if !before.is(stateOf(d)) { // P4
		t.Fatal("it hangs together with its Forks")
	}
}

// P26.1, P2: whichever entry can't be set, nothing has changed.
func TestStoreError(t *testing.T) {
	for _, r := range rows() {
		for _, x := range []struct {
			s     api.Spec
			first []byte
			e     api.Errno
		}{
			{api.Spec{}, nil, api.ErrNone},
			{spec(api.U32, api.Constant, 0, 4294967295), nil, api.ErrState},
			{spec(api.Text, api.ReadWrite, 0, 4), nil, api.ErrArg},
			{spec(api.I16, api.ReadWrite, -9, -7), nil, api.ErrFit},
			{spec(api.U32, api.ReadOnly, 0, 4294967295), nil, api.OK},
		} {
			for p := range 2 {
				for _, sends := range []bool{true, false} {
					d := odd(t, r.k, x.s, x.first...)
					before := stateOf(d)
					want := api.OK
					if ofTable(r.k, p, sends) && r.holds {
						want = x.e
					}
					if e := pdo.Store(d, p, sends, some(5)); e != want {
						t.Fatal(r.k, x, p, sends, e)
					}
					if got := stateOf(d); want != api.OK && !before.is(got) {
						t.Fatal(r.k, x, p, sends, "something has changed")
					}
					if got, e := pdo.Load(d, p, sends); want == api.OK && (got != some(5) || e != api.OK) {
						t.Fatal(r.k, x, p, sends, got, e)
					}
				}
			}
		}
	}
	// the entries' order: the mapping's error comes behind that of the table
	d := odd(t, key(0x1800, 5), api.Spec{})
	if e := pdo.Store(d, 0, true, with(some(5), func(x *api.Pdo) { x.Map[0].Bits = -1 })); e != api.ErrNone {
		t.Fatal(e)
	}
	if e := pdo.Store(d, 0, true, with(some(5), func(x *api.Pdo) { x.Type = 999 })); e != api.ErrFit {
		t.Fatal(e)
	}
}

// P26.1: which tables may be used.
func TestUsed(t *testing.T) {
	d := laid(t)
	for id := -3; id < 2100; id++ {
		x := with(some(255), func(x *api.Pdo) { x.Id = id })
		if pdo.Used(d, x) != (id >= 0x181 && id <= 0x57f) {
			t.Fatal(id)
		}
	}
	for _, n := range numbers() { // whatever stands behind two slots
		x := with(some(255), func(x *api.Pdo) { x.N = n })
		if pdo.Used(d, x) != (n == 1 || n == 2) {
			t.Fatal(n)
		}
		x = with(some(255), func(x *api.Pdo) { x.Type, x.Least, x.Most = n, n, -n })
		if !pdo.Used(d, x) || pdo.Used(d, with(x, func(x *api.Pdo) { x.On = false })) || pdo.Used(d, with(x, func(x *api.Pdo) { x.Id += 1 << 32 })) {
			t.Fatal(n)
		}
	}
	one := slot(0x2000, 1, 8)
	for _, x := range []struct {
		l    []api.Slot
		used bool
	}{
		{nil, false},
		{[]api.Slot{one}, true},
		{[]api.Slot{one, one, one, one, one, one, one, one}, true},
		{[]api.Slot{one, one, one, one, one, one, one, slot(0x2000, 2, 16)}, false},
		{[]api.Slot{slot(0x2000, 3, 32), slot(0x2000, 2, 16), slot(0x2000, 2, 16)}, true},
		{[]api.Slot{slot(0x2000, 3, 32), slot(0x2000, 2, 16), slot(0x2000, 2, 16), one}, false},
		{[]api.Slot{slot(0x2000, 8, 8)}, false},
		{[]api.Slot{one, slot(0x2000, 9, 8)}, false},
		{[]api.Slot{one, slot(0x2000, 2, 8)}, false},
		{[]api.Slot{one, {}}, false},
		{[]api.Slot{slot(0x2001, 1, 8)}, false},
		{[]api.Slot{slot(math.MinInt, math.MaxInt, math.MinInt)}, false},
	} {
		y := of(api.Pdo{On: true, Id: 0x300}, x.l...)
		if pdo.Used(d, y) != x.used || pdo.Used(nil, y) || pdo.Used(dict.New(), y) {
			t.Fatal(y)
		}
		y.Map[7].Bits += 5 // behind N, or else it does not fit
		if pdo.Used(d, y) != (x.used && y.N < 8) {
			t.Fatal(y)
		}
	}
	if pdo.Used(d, api.Pdo{}) || pdo.Used(nil, api.Pdo{}) {
		t.Fatal("the zero table")
	}
}

// sends: at the tick it sends the bytes of some, as they are.
func sends(t *testing.T, s *pdo.Sender, now int, d *dict.Dict, x api.Pdo, pulse bool) {
	t.Helper()
	a, _ := d.Num(key(0x2000, 1))
	b, _ := d.Num(key(0x2000, 4))
	want := api.Frame{Id: x.Id, Len: 2, Data: [8]byte{byte(a), byte(b)}}
	if f, is := s.Step(now, d, x, pulse); !is || f != want {
		t.Fatalf("at %d, %v: %v, %v, not %v", now, x, f, is, want)
	}
}

// rests: at the tick it sends nothing.
func rests(t *testing.T, s *pdo.Sender, now int, d *dict.Dict, x api.Pdo, pulse bool) {
	t.Helper()
	if f, is := s.Step(now, d, x, pulse); is || f != (api.Frame{}) {
		t.Fatalf("at %d, %v: %v, %v", now, x, f, is)
	}
}

// let gives 2000h, 1 a number.
func let(d *dict.Dict, n int64) { d.Set(key(0x2000, 1), n) }

// The document's example: of the type 2 a frame with every second pulse.
func TestExample(t *testing.T) {
	d, s := laid(t), &pdo.Sender{}
	for now := range 12 {
		rests(t, s, now, d, some(2), false)
		if now%2 == 0 {
			rests(t, s, now, d, some(2), true)
		} else {
			sends(t, s, now, d, some(2), true)
		}
	}
}

// P26.2: of the type 0 with a pulse, if there is anything new.
func TestStepOnChange(t *testing.T) {
	d, s, x := laid(t), &pdo.Sender{}, with(some(0), func(x *api.Pdo) { x.Least, x.Most = 100, 1 }) // these play no part
	rests(t, s, 0, d, x, false)
	sends(t, s, 1, d, x, true) // what was never sent is another one
	rests(t, s, 2, d, x, true)
	let(d, 7)
	rests(t, s, 3, d, x, false)
	sends(t, s, 3, d, x, true)
	let(d, 8)
	let(d, 7)
	rests(t, s, 900, d, x, true)
	let(d, 8)
	rests(t, s, 901, d, x, false)
	let(d, 7)
	rests(t, s, 902, d, x, true)
	let(d, 0)
	sends(t, s, 903, d, x, true)
}

// P26.2: of the types 1 to 240 with each so many-th pulse, whether there is anything new or not.
func TestStepRate(t *testing.T) {
	d := laid(t)
	for rate := 1; rate <= 240; rate++ {
		s, x := &pdo.Sender{}, with(some(rate), func(x *api.Pdo) { x.Least, x.Most = 65535, 1 })
		for n := 1; n <= 3*rate+1; n++ {
			rests(t, s, n, d, x, false)
			if n%rate == 0 {
				sends(t, s, n, d, x, true)
			} else {
				rests(t, s, n, d, x, true)
			}
		}
	}
}

// P26.2: of other types never, but for 254 and 255.
func TestStepTypes(t *testing.T) {
	d := laid(t)
	for _, kind := range numbers() {
		s, got := &pdo.Sender{}, 0
		for now := range 250 {
			let(d, int64(now))
			if _, is := s.Step(now, d, with(some(kind), func(x *api.Pdo) { x.Most = 1 }), true); is {
				got++
			}
		}
		want := 0
		switch {
		case kind == 0 || kind == 254 || kind == 255:
			want = 250
		case kind >= 1 && kind <= 240:
			want = 250 / kind
		}
		if got != want {
			t.Fatal(kind, got, want)
		}
	}
}

// P26.2: of the types 254 and 255 at once, if there is anything new.
func TestStepAtOnce(t *testing.T) {
	for _, kind := range []int{254, 255} {
		d, s, x := laid(t), &pdo.Sender{}, some(kind)
		sends(t, s, 5, d, x, kind == 254)
		rests(t, s, 5, d, x, true)
		rests(t, s, 6, d, x, false)
		let(d, 1)
		sends(t, s, 6, d, x, false)
		let(d, 2)
		sends(t, s, 6, d, x, true) // without Least at the same tick, too
		rests(t, s, math.MaxInt, d, x, true)
	}
}

// P26.2: Least holds back what is new; not the first frame.
func TestStepLeast(t *testing.T) {
	for _, kind := range []int{254, 255} {
		for _, least := range []int{1, 2, 7, 65535} {
			d, s, x := laid(t), &pdo.Sender{}, with(some(kind), func(x *api.Pdo) { x.Least = least })
			sends(t, s, 3, d, x, false)
			let(d, 1)
			rests(t, s, 3, d, x, true)
			rests(t, s, 3+least-1, d, x, false)
			sends(t, s, 3+least, d, x, false)
			rests(t, s, 3+2*least, d, x, false)
			let(d, 2)
			let(d, 1) // as it was sent last
			rests(t, s, 3+5*least, d, x, false)
			let(d, 2)
			sends(t, s, 3+5*least, d, x, false)
		}
	}
}

// P26.2: Most sends again what is not new; Least holds that back, too.
func TestStepMost(t *testing.T) {
	for _, kind := range []int{254, 255} {
		for _, most := range []int{1, 2, 7, 65535} {
			d, s, x := laid(t), &pdo.Sender{}, with(some(kind), func(x *api.Pdo) { x.Most = most })
			sends(t, s, 3, d, x, false)
			rests(t, s, 3+most-1, d, x, true)
			sends(t, s, 3+most, d, x, false)
			let(d, 1)
			sends(t, s, 3+most, d, x, false)
			sends(t, s, 1000000, d, x, false)
			rests(t, s, 1000000+most-1, d, x, false)
			for _, least := range []int{most - 1, most, most + 1, most + 5} {
				x, s := with(x, func(x *api.Pdo) { x.Least = least }), &pdo.Sender{}
				sends(t, s, 3, d, x, false)
				rests(t, s, 3+max(least, most)-1, d, x, false)
				sends(t, s, 3+max(least, most), d, x, false)
			}
		}
	}
}

// P1, P5: ticks, Least and Most of any size are held against each other without going round.
func TestStepNumbers(t *testing.T) {
	d := laid(t)
	for _, x := range []struct{ from, now, least, most int }{
		{math.MinInt, math.MaxInt, math.MaxInt, 0},
		{math.MinInt, 0, math.MaxInt, 0},
		{math.MinInt, math.MinInt + 5, 5, 0},
		{math.MinInt, math.MinInt + 5, math.MinInt, 0},
		{math.MaxInt - 5, math.MaxInt, 5, 0},
		{0, math.MaxInt, math.MaxInt, math.MaxInt},
		{7, 7, 0, 0},
		{7, 7, -1, -1},
		{7, 7, math.MinInt, math.MinInt},
	} {
		y, s := with(some(255), func(y *api.Pdo) { y.Least, y.Most = x.least, x.most }), &pdo.Sender{}
		let(d, 0)
		sends(t, s, x.from, d, y, false)
		let(d, 1)
		sends(t, s, x.now, d, y, false)
		rests(t, s, x.now, d, y, false)
	}
	for _, x := range []struct{ from, now, least int }{
		{math.MinInt, -2, math.MaxInt},
		{1, math.MaxInt, math.MaxInt},
		{math.MaxInt - 5, math.MaxInt, 6},
		{0, 0, 1},
	} {
		y, s := with(some(254), func(y *api.Pdo) { y.Least, y.Most = x.least, 1 }), &pdo.Sender{}
		let(d, 0)
		sends(t, s, x.from, d, y, false)
		let(d, 1)
		rests(t, s, x.now, d, y, false)
	}
	for _, now := range numbers() { // a tick that falls panics neither
		s := &pdo.Sender{}
		for _, then := range numbers() {
			s.Step(now, d, with(some(255), func(x *api.Pdo) { x.Least, x.Most = then, now }), true)
			s.Step(then, d, with(some(255), func(x *api.Pdo) { x.Least, x.Most = then, now }), true)
		}
	}
}

// P26.2: with another table, in whatever it is another one, all begins anew.
func TestStepAnew(t *testing.T) {
	for _, change := range []func(x *api.Pdo){
		func(x *api.Pdo) { x.On = false },
		func(x *api.Pdo) { x.Id++ },
		func(x *api.Pdo) { x.Type = 0 },
		func(x *api.Pdo) { x.Least++ },
		func(x *api.Pdo) { x.Most++ },
		func(x *api.Pdo) { x.N-- },
		func(x *api.Pdo) { x.Map[0].Bits = 16 },
		func(x *api.Pdo) { x.Map[1].Key.Sub = 1 },
		func(x *api.Pdo) { x.Map[7].Key.Index = 1 }, // behind N: another one, too
	} {
		d := laid(t)
		three, quick := some(3), with(some(255), func(x *api.Pdo) { x.Least = 50 })
		s, q := &pdo.Sender{}, &pdo.Sender{}
		rests(t, s, 0, d, three, true)
		rests(t, s, 1, d, three, true)
		sends(t, q, 0, d, quick, false)
		rests(t, q, 49, d, quick, false)
		s.Step(2, d, with(three, change), false)
		q.Step(2, d, with(quick, change), false)
		rests(t, s, 3, d, three, true) // counted from 1 on again
		rests(t, s, 4, d, three, true)
		sends(t, s, 5, d, three, true)
		sends(t, q, 3, d, quick, false) // nothing was sent
		rests(t, q, 52, d, quick, false)
	}
	// the pulse of the Step at which it is begun is the first one
	d, s := laid(t), &pdo.Sender{}
	sends(t, s, 0, d, some(1), true)
	rests(t, s, 1, d, some(2), true)
	sends(t, s, 2, d, some(2), true)
	// of another dictionary it goes on
	other := laid(t)
	sends(t, s, 3, d, some(255), false)
	rests(t, s, 4, other, some(255), false)
	let(other, 9)
	sends(t, s, 4, other, some(255), false)
}

// P26.2: what may not be used is never sent; pulses that are heard meanwhile are counted.
func TestStepUnused(t *testing.T) {
	for _, kind := range []int{0, 1, 2, 254, 255} {
		for _, x := range []api.Pdo{
			with(some(kind), func(x *api.Pdo) { x.On = false }),
			with(some(kind), func(x *api.Pdo) { x.Id = 0x180 }),
			with(some(kind), func(x *api.Pdo) { x.Id = 0x580 }),
			with(some(kind), func(x *api.Pdo) { x.Id = math.MaxInt }),
			with(some(kind), func(x *api.Pdo) { x.N = 0 }),
			with(some(kind), func(x *api.Pdo) { x.N = 3 }),
			with(some(kind), func(x *api.Pdo) { x.N = math.MinInt }),
			with(some(kind), func(x *api.Pdo) { x.Map[1].Key.Sub = 8 }),
			{Type: kind},
		} {
			d, s := laid(t), &pdo.Sender{}
			for now := range 6 {
				let(d, int64(now))
				rests(t, s, now, d, x, true)
				rests(t, s, now, nil, x, true)
			}
		}
		s := &pdo.Sender{}
		rests(t, s, 0, nil, some(kind), true)
		rests(t, s, 0, dict.New(), some(kind), true)
		rests(t, nil, 0, laid(t), some(kind), true)
		rests(t, nil, 0, nil, some(kind), true)
	}
	d, s, late := laid(t), &pdo.Sender{}, with(some(3), func(x *api.Pdo) { x.Map[1].Key = key(0x2000, 5) })
	rests(t, s, 0, d, late, true)
	rests(t, s, 1, d, late, true)
	add(t, d, key(0x2000, 5), spec(api.U8, api.ReadWrite, 0, 9), 4) // now it fits
	if f, is := s.Step(2, d, late, true); !is || f != (api.Frame{Id: 0x181, Len: 2, Data: [8]byte{0, 4}}) {
		t.Fatal(f, is)
	}
}

// P26.2: the frame is of the table's Id, and of its mapping's bytes; nothing of the dictionary is changed.
func TestStepFrame(t *testing.T) {
	d := laid(t)
	d.Set(key(0x2000, 2), 0x1234)
	d.Set(key(0x2000, 3), -2)
	let(d, 0x99)
	one, two, three := slot(0x2000, 1, 8), slot(0x2000, 2, 16), slot(0x2000, 3, 32)
	before := stateOf(d)
	for _, x := range []struct {
		l    []api.Slot
		want string
	}{
		{[]api.Slot{one}, "181#99"},
		{[]api.Slot{three}, "181#FEFFFFFF"},
		{[]api.Slot{two, one, three}, "181#341299FEFFFFFF"},
		{[]api.Slot{one, one, one, one, one, one, one, one}, "181#9999999999999999"},
		{[]api.Slot{three, two, two}, "181#FEFFFFFF34123412"},
	} {
		for id := 0x181; id <= 0x57f; id++ {
			f, is := new(pdo.Sender).Step(0, d, of(api.Pdo{On: true, Id: id, Type: 255}, x.l...), false)
			want, _ := frame.Parse(x.want)
			want.Id = id
			if !is || f != want {
				t.Fatal(id, x, f, is)
			}
		}
	}
	if !before.is(stateOf(d)) {
		t.Fatal("something has changed")
	}
}

// plain sends as the document says, told in another way: all that was so far is kept.
type plain struct {
	x      api.Pdo
	pulses int
	bytes  []string
	ticks  []int
}

func (k *plain) step(now int, x api.Pdo, b string, pulse bool) bool {
	if x != k.x {
		*k = plain{x: x}
	}
	if pulse {
		k.pulses++
	}
	n := len(k.bytes)
	fresh := n == 0 || k.bytes[n-1] != b
	send := false
	switch {
	case x.Type == 0:
		send = pulse && fresh
	case x.Type <= 240:
		send = pulse && k.pulses%x.Type == 0
	case x.Type >= 254:
		send = fresh || x.Most > 0 && now-k.ticks[n-1] >= x.Most
		if n > 0 && now-k.ticks[n-1] < x.Least {
			send = false
		}
	}
	if send {
		k.bytes, k.ticks = append(k.bytes, b), append(k.ticks, now)
	}
	return send
}

// P26.2: by any tables, with any writes and pulses between.
func TestStepAny(t *testing.T) {
	r := rand.New(rand.NewSource(262))
	for range 300 {
		d, s, k := laid(t), &pdo.Sender{}, &plain{}
		var tables []api.Pdo
		for range 3 {
			x := some([]int{0, 1, 2, 3, 5, 254, 255, 255, 241, 253}[r.Intn(10)])
			x.Least, x.Most = r.Intn(6), r.Intn(9)
			tables = append(tables, x)
		}
		x, now, quiet := tables[0], 0, 1+r.Intn(20)
		for range 200 {
			now += r.Intn(3)
			if r.Intn(60) == 0 {
				x = tables[r.Intn(3)]
			}
			if r.Intn(quiet) == 0 {
				let(d, int64(r.Intn(3)))
			}
			pulse := r.Intn(3) == 0
			b, _ := pmap.Pack(d, x.Map[:x.N]...)
			if k.step(now, x, string(b), pulse) {
				sends(t, s, now, d, x, pulse)
			} else {
				rests(t, s, now, d, x, pulse)
			}
		}
	}
}

// P26.4: of the type 255, at each tick: never two within Least; one in each Most.
func TestStepRhythm(t *testing.T) {
	r := rand.New(rand.NewSource(264))
	for range 300 {
		d, s := laid(t), &pdo.Sender{}
		most := r.Intn(12)
		x := with(some(255), func(x *api.Pdo) { x.Most, x.Least = most, r.Intn(12) })
		last, never := 0, true
		for now := range 300 {
			if r.Intn(4) == 0 {
				let(d, int64(r.Intn(3)))
			}
			_, is := s.Step(now, d, x, r.Intn(2) == 0)
			if is && !never && x.Least > 0 && now-last < x.Least {
				t.Fatal(x, last, now)
			}
			if is {
				last, never = now, false
			}
			if never || most > 0 && x.Least <= most && now-last >= most {
				t.Fatal(x, last, now)
			}
		}
	}
}

// bytesOf is a frame of some's Id.
func bytesOf(b ...byte) api.Frame {
	f := api.Frame{Id: 0x181, Len: len(b)}
	copy(f.Data[:], b)
	return f
}

// holds: what 2000h, 1 and 4 hold.
func holds(t *testing.T, d *dict.Dict, one, four int64) {
	t.Helper()
	a, _ := d.Num(key(0x2000, 1))
	b, _ := d.Num(key(0x2000, 4))
	if a != one || b != four {
		t.Fatalf("%d, %d, not %d, %d", a, b, one, four)
	}
}

// hears and pulses: the error that there is to be.
func hears(t *testing.T, k *pdo.Taker, d *dict.Dict, x api.Pdo, f api.Frame, want api.Errno) {
	t.Helper()
	if e := k.Hear(d, x, f); e != want {
		t.Fatalf("%v, %v: %v, not %v", x, f, e, want)
	}
}

func pulses(t *testing.T, k *pdo.Taker, d *dict.Dict, x api.Pdo, want api.Errno) {
	t.Helper()
	if e := k.Pulse(d, x); e != want {
		t.Fatalf("%v: %v, not %v", x, e, want)
	}
}

// P26.3: with the types 254 and 255 at once.
func TestHearAtOnce(t *testing.T) {
	for _, kind := range []int{254, 255} {
		d, k := laid(t), &pdo.Taker{}
		hears(t, k, d, some(kind), bytesOf(7, 1), api.OK)
		holds(t, d, 7, 1)
		hears(t, k, d, some(kind), bytesOf(8, 0, 99, 99, 99), api.OK) // the first so many
		holds(t, d, 8, 0)
		before := stateOf(d)
		pulses(t, k, d, some(kind), api.OK) // none wait
		hears(t, k, d, some(kind), bytesOf(9, 2), api.ErrForm)
		pulses(t, k, d, some(kind), api.OK)
		if !before.is(stateOf(d)) {
			t.Fatal("something has changed")
		}
	}
}

// P26.3: with the types 0 to 240 at the next pulse, the last one that came.
func TestHearAtPulse(t *testing.T) {
	for kind := range 241 {
		d, k, x := laid(t), &pdo.Taker{}, some(kind)
		pulses(t, k, d, x, api.OK)
		hears(t, k, d, x, bytesOf(7, 1), api.OK)
		holds(t, d, 0, 0)
		hears(t, k, d, x, bytesOf(8, 1, 99, 99, 99, 99, 99, 99), api.OK)
		holds(t, d, 0, 0)
		pulses(t, k, d, x, api.OK)
		holds(t, d, 8, 1)
		let(d, 5)
		pulses(t, k, d, x, api.OK) // they wait no more
		holds(t, d, 5, 1)
		hears(t, k, d, x, bytesOf(9, 2), api.OK) // whether they fit is told at the pulse
		pulses(t, k, d, x, api.ErrForm)
		holds(t, d, 5, 1)
		pulses(t, k, d, x, api.OK) // likewise
		hears(t, k, d, x, bytesOf(1, 0), api.OK)
		hears(t, k, d, x, bytesOf(2), api.ErrLen) // what is refused takes no place
		hears(t, k, d, x, api.Frame{Id: 0x182, Len: 8}, api.ErrForm)
		pulses(t, k, d, x, api.OK)
		holds(t, d, 1, 0)
	}
}

// P26.3: by what is wrong with the table.
func TestHearState(t *testing.T) {
	d := laid(t)
	before := stateOf(d)
	for _, kind := range numbers() {
		x, k := some(kind), &pdo.Taker{}
		if kind >= 0 && kind <= 240 || kind == 254 || kind == 255 {
			hears(t, k, d, x, bytesOf(1), api.ErrLen)
			continue
		}
		for _, f := range []api.Frame{bytesOf(1, 1), bytesOf(1), {}, {Id: -1}} {
			hears(t, k, d, x, f, api.ErrState)
		}
		pulses(t, k, d, x, api.OK)
		hears(t, k, d, some(0), bytesOf(1, 1), api.OK)
		pulses(t, k, d, x, api.ErrState)
		pulses(t, k, d, some(0), api.OK) // they wait no more
	}
	for _, kind := range []int{0, 1, 240, 254, 255} {
		for _, x := range []api.Pdo{
			with(some(kind), func(x *api.Pdo) { x.On = false }),
			with(some(kind), func(x *api.Pdo) { x.Id = 0x180 }),
			with(some(kind), func(x *api.Pdo) { x.Id = 0x580 }),
			with(some(kind), func(x *api.Pdo) { x.N = 0 }),
			with(some(kind), func(x *api.Pdo) { x.N = 9 }),
			with(some(kind), func(x *api.Pdo) { x.N = math.MinInt }),
			with(some(kind), func(x *api.Pdo) { x.Map[0].Bits = 16 }),
			{Type: kind},
		} {
			k := &pdo.Taker{}
			f := bytesOf(1, 1, 1)
			f.Id = x.Id
			hears(t, k, d, x, f, api.ErrState)
			pulses(t, k, d, x, api.OK)
			hears(t, k, d, some(0), bytesOf(1, 1), api.OK)
			pulses(t, k, d, x, api.ErrState)
			pulses(t, k, d, some(0), api.OK)
		}
		k := &pdo.Taker{}
		hears(t, k, nil, some(kind), bytesOf(1, 1), api.ErrState)
		hears(t, k, dict.New(), some(kind), bytesOf(1, 1), api.ErrState)
	}
	if !before.is(stateOf(d)) {
		t.Fatal("something has changed")
	}
}

// P26.3: by what is wrong with the frame.
func TestHearForm(t *testing.T) {
	d := laid(t)
	before := stateOf(d)
	for _, kind := range []int{0, 7, 240, 254, 255} {
		x, k := some(kind), &pdo.Taker{}
		for _, id := range append(numbers(), 0x180, 0x182, 0x581, 0x180+1<<32+1, 0x181-2048) {
			f := bytesOf(1, 1)
			f.Id = id
			hears(t, k, d, x, f, api.ErrForm)
			f.Len = 1
			hears(t, k, d, x, f, api.ErrForm)
		}
		for _, n := range []int{-1, 9, 10, 256 + 2, 1<<32 + 2, math.MinInt, math.MaxInt} {
			hears(t, k, d, x, api.Frame{Id: 0x181, Len: n}, api.ErrForm)
		}
		for n := range 9 {
			hears(t, k, d, x, api.Frame{Id: 0x181, Len: n, Rtr: true}, api.ErrForm)
			if n < 8 { // a byte behind its end
				hears(t, k, d, x, api.Frame{Id: 0x181, Len: n, Data: [8]byte{7: 1}}, api.ErrForm)
			}
		}
		for n := range 2 { // with none it has fewer, too
			hears(t, k, d, x, api.Frame{Id: 0x181, Len: n}, api.ErrLen)
		}
		pulses(t, k, d, x, api.OK)
	}
	if !before.is(stateOf(d)) {
		t.Fatal("something has changed")
	}
}

// P26.3: as many bytes as the mapping has, at least.
func TestHearLength(t *testing.T) {
	one, two, three := slot(0x2000, 1, 8), slot(0x2000, 2, 16), slot(0x2000, 3, 32)
	for _, l := range [][]api.Slot{{one}, {two}, {three}, {one, two}, {one, two, three}, {three, two, two}, {one, one, one, one, one, one, one, one}} {
		for _, kind := range []int{0, 255} {
			for n := range 9 {
				d, k, x := laid(t), &pdo.Taker{}, of(some(kind), l...)
				want := api.OK
				if n < pmap.Size(l...) {
					want = api.ErrLen
				}
				hears(t, k, d, x, bytesOf(make([]byte, n)...), want)
				pulses(t, k, d, x, api.OK)
			}
		}
	}
}

// P26.3: what waits is taken by the table that the pulse tells; of another length it is dropped.
func TestPulseOtherTable(t *testing.T) {
	d, k := laid(t), &pdo.Taker{}
	hears(t, k, d, some(3), bytesOf(7, 1), api.OK)
	pulses(t, k, d, of(some(3), slot(0x2000, 1, 8)), api.ErrLen)
	pulses(t, k, d, some(3), api.OK)
	holds(t, d, 0, 0)
	hears(t, k, d, some(3), bytesOf(7, 1), api.OK)
	pulses(t, k, d, of(some(3), slot(0x2000, 2, 16)), api.OK)
	holds(t, d, 0, 0)
	if n, _ := d.Num(key(0x2000, 2)); n != 0x107 {
		t.Fatal(n)
	}
	hears(t, k, d, some(3), bytesOf(7, 1), api.OK)
	hears(t, k, d, some(255), bytesOf(9, 0), api.OK) // at once: what waits goes on waiting
	holds(t, d, 9, 0)
	pulses(t, k, d, some(255), api.OK)
	holds(t, d, 7, 1)
	hears(t, k, d, some(3), bytesOf(7, 0), api.OK)
	pulses(t, k, nil, some(3), api.ErrState)
	pulses(t, k, d, some(3), api.OK)
	holds(t, d, 7, 1)
}

// A nil taker takes nothing.
func TestNilTaker(t *testing.T) {
	d := laid(t)
	before := stateOf(d)
	for _, x := range []api.Pdo{some(0), some(255), {}, some(245)} {
		for _, d := range []*dict.Dict{d, nil} {
			hears(t, nil, d, x, bytesOf(1, 1), api.ErrNil)
			hears(t, nil, d, x, api.Frame{Id: -1}, api.ErrNil)
			pulses(t, nil, d, x, api.ErrNil)
		}
	}
	if !before.is(stateOf(d)) {
		t.Fatal("something has changed")
	}
}

// P26.4: what one node sends, and another one takes, stands there.
func TestThereAndBack(t *testing.T) {
	r := rand.New(rand.NewSource(4))
	mapped := []api.Slot{slot(0x2000, 1, 8), slot(0x2000, 2, 16), slot(0x2000, 3, 32), slot(0x2000, 4, 8)}
	types := []int{0, 1, 2, 254, 255}
	sent := 0
	for range 500 {
		a, b := laid(t), laid(t)
		r.Shuffle(len(mapped), func(i, j int) { mapped[i], mapped[j] = mapped[j], mapped[i] })
		x := of(api.Pdo{On: true, Id: 0x181 + r.Intn(0x3fe), Type: types[r.Intn(5)], Least: r.Intn(3), Most: r.Intn(5)}, mapped[:1+r.Intn(4)]...)
		y := with(x, func(x *api.Pdo) { x.Type, x.Least, x.Most = types[r.Intn(5)], 0, 0 })
		if pdo.Store(a, 1, true, x) != api.OK || pdo.Store(b, 0, false, y) != api.OK {
			t.Fatal(x, y)
		}
		s, k := &pdo.Sender{}, &pdo.Taker{}
		for now := range 20 {
			a.Set(key(0x2000, 1), r.Int63n(256))
			a.Set(key(0x2000, 2), r.Int63n(65536))
			a.Set(key(0x2000, 3), r.Int63n(11)-5)
			a.Set(key(0x2000, 4), r.Int63n(2))
			out, _ := pdo.Load(a, 1, true)
			in, _ := pdo.Load(b, 0, false)
			f, is := s.Step(now, a, out, r.Intn(2) == 0)
			if !is {
				continue
			}
			sent++
			want := stateOf(b)
			for _, z := range x.Map[:x.N] {
				held, _ := a.Raw(z.Key)
				want.held[z.Key] = string(held)
			}
			hears(t, k, b, in, f, api.OK)
			pulses(t, k, b, in, api.OK)
			if got := stateOf(b); !maps.Equal(got.held, want.held) {
				t.Fatal(x, y, f)
			}
		}
	}
	if sent < 500 {
		t.Fatal(sent)
	}
}

// P3, P6: what a sender and a taker keep is their own, and they hang on nothing else.
func TestApart(t *testing.T) {
	d, a, b := laid(t), &pdo.Sender{}, &pdo.Sender{}
	sends(t, a, 0, d, some(255), false)
	sends(t, b, 0, d, some(255), false)
	rests(t, a, 1, d, some(255), false)
	x, y := &pdo.Taker{}, &pdo.Taker{}
	hears(t, x, d, some(0), bytesOf(7, 1), api.OK)
	pulses(t, y, d, some(0), api.OK)
	holds(t, d, 0, 0)
	pulses(t, x, d, some(0), api.OK)
	holds(t, d, 7, 1)
	var l []api.Frame
	for now := range 3 {
		let(d, int64(now))
		f, _ := a.Step(now, d, some(255), false)
		l = append(l, f)
	}
	if !slices.Equal(l, []api.Frame{bytesOf(0, 1), bytesOf(1, 1), bytesOf(2, 1)}) {
		t.Fatal(l)
	}
}
