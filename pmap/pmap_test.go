package pmap_test

import (
	"bytes"
	"maps"
	"math"
	"math/rand"
	"slices"
	"testing"

	"tripwire/api"
	"tripwire/dict"
	"tripwire/pmap"
)

// The calls have just these signatures.
var (
	_ func(*dict.Dict, ...api.Slot) api.Abort            = pmap.Check
	_ func(...api.Slot) int                              = pmap.Size
	_ func(*dict.Dict, ...api.Slot) ([]byte, api.Errno)  = pmap.Pack
	_ func(*dict.Dict, []byte, ...api.Slot) api.Errno    = pmap.Unpack
	_ func(*dict.Dict, int) api.Errno                    = pmap.Lay
	_ func(*dict.Dict, int) ([]api.Slot, api.Errno)      = pmap.Load
	_ func(d *dict.Dict, i int, l ...api.Slot) api.Errno = pmap.Store
)

// key is a name.
func key(index, sub int) api.Key { return api.Key{Index: index, Sub: sub} }

// slot is a slot.
func slot(index, sub, bits int) api.Slot { return api.Slot{Key: key(index, sub), Bits: bits} }

// spec is what an entry may hold.
func spec(k api.Kind, a api.Access, low, high int64) api.Spec {
	return api.Spec{Kind: k, Access: a, Low: low, High: high}
}

// add adds an entry.
func add(t *testing.T, d *dict.Dict, k api.Key, s api.Spec, first ...byte) {
	t.Helper()
	if e := d.Add(k, s, first); e != api.OK {
		t.Fatal(k, s, first, e)
	}
}

// state is all that can be told of a dictionary.
type state struct {
	held    map[api.Key]string
	specs   map[api.Key]api.Spec
	changes int
}

func stateOf(d *dict.Dict) state {
	s := state{map[api.Key]string{}, map[api.Key]api.Spec{}, d.Changes()}
	for k := range d.Keys() {
		b, _ := d.Raw(k)
		s.held[k] = string(b)
		s.specs[k], _ = d.Spec(k)
	}
	return s
}

func (s state) is(other state) bool {
	return s.changes == other.changes && maps.Equal(s.held, other.held) && maps.Equal(s.specs, other.specs)
}

// own has entries that may be mapped (2000h, 1 to 7), and, from 11 on, some that may not.
func own(t *testing.T) *dict.Dict {
	t.Helper()
	d := dict.New()
	add(t, d, key(0x2000, 1), spec(api.U8, api.ReadWrite, 0, 255), 5)
	add(t, d, key(0x2000, 2), spec(api.U16, api.ReadOnly, 0, 65535), 2, 1)
	add(t, d, key(0x2000, 3), spec(api.U32, api.WriteOnly, 0, 4294967295), 4, 3, 2, 1)
	add(t, d, key(0x2000, 4), spec(api.I8, api.ReadWrite, -10, 10), 0xfe)
	add(t, d, key(0x2000, 5), spec(api.I16, api.ReadWrite, -300, 300), 0, 1)
	add(t, d, key(0x2000, 6), spec(api.I32, api.ReadWrite, -70000, 70000), 0xff, 0xff, 0xff, 0xff)
	add(t, d, key(0x2000, 7), spec(api.Bool, api.ReadWrite, 0, 1), 1)
	add(t, d, key(0x2000, 8), spec(api.U8, api.ReadWrite, 7, 9), 8)
	add(t, d, key(0x2000, 11), spec(api.U8, api.Constant, 0, 255), 9)
	add(t, d, key(0x2000, 12), spec(api.Text, api.ReadWrite, 1, 1), 'x')
	add(t, d, key(0x2000, 13), spec(api.Text, api.ReadWrite, 0, 4))
	add(t, d, key(0x2000, 14), spec(api.Text, api.ReadWrite, 4, 4), 1, 2, 3, 4)
	add(t, d, key(0x2000, 15), spec(api.I32, api.Constant, 0, 5), 1, 0, 0, 0)
	return d
}

// bits are those of own's entries that may be mapped, by their Subs.
func bits(sub int) int { return []int{0, 8, 16, 32, 8, 16, 32, 8, 8}[sub] }

// of is a mapping of own's entries.
func of(subs ...int) []api.Slot {
	var l []api.Slot
	for _, sub := range subs {
		l = append(l, slot(0x2000, sub, bits(sub)))
	}
	return l
}

// wrongSlots are such as no dictionary of these tests may map.
func wrongSlots() []api.Slot {
	return []api.Slot{
		{}, slot(0x2000, 1, 0), slot(0x2000, 1, 1), slot(0x2000, 1, 7), slot(0x2000, 1, 9), slot(0x2000, 1, 16), slot(0x2000, 1, -8),
		slot(0x2000, 1, 8+256), slot(0x2000, 1, 1<<32+8), slot(0x2000, 1, math.MaxInt), slot(0x2000, 1, math.MinInt), slot(0x2000, 1, math.MinInt+8),
		slot(0x2000, 2, 2), slot(0x2000, 2, 8), slot(0x2000, 2, 32), slot(0x2000, 3, 4), slot(0x2000, 3, 16), slot(0x2000, 3, 64), slot(0x2000, 7, 1),
		slot(0x2000, 0, 8), slot(0x2000, 9, 8), slot(0x2000, 9, 0), slot(0x2001, 1, 8), slot(0x1fff, 1, 8), slot(0, 1, 8), slot(1, 0, 0),
		slot(0x2000, 11, 8), slot(0x2000, 15, 32), slot(0x2000, 12, 8), slot(0x2000, 12, 0), slot(0x2000, 13, 0), slot(0x2000, 13, 8), slot(0x2000, 14, 32),
		slot(0x2000, 257, 8), slot(0x2000, -1, 8), slot(0x12000, 1, 8), slot(-0x2000, 1, 8), slot(1<<32+0x2000, 1, 8), slot(0x1fff, 257, 8),
		slot(math.MaxInt, math.MaxInt, 8), slot(math.MinInt, math.MinInt, 8), slot(math.MinInt, math.MaxInt, math.MaxInt), slot(0x2000, math.MinInt, 8),
	}
}

// fine: Check, Pack and Unpack all take a mapping; refused: they refuse it for that reason, and nothing changes.
func fine(t *testing.T, d *dict.Dict, l ...api.Slot) []byte {
	t.Helper()
	before := stateOf(d)
	if a := pmap.Check(d, l...); a != api.Fine {
		t.Fatalf("%v: %x", l, a)
	}
	b, e := pmap.Pack(d, l...)
	if e != api.OK || len(b) != pmap.Size(l...) || !before.is(stateOf(d)) {
		t.Fatal(l, b, e)
	}
	return b
}

func refused(t *testing.T, d *dict.Dict, want api.Abort, l ...api.Slot) {
	t.Helper()
	before := stateOf(d)
	if a := pmap.Check(d, l...); a != want {
		t.Fatalf("%v: %x, not %x", l, a, want)
	}
	if b, e := pmap.Pack(d, l...); e != api.ErrFit || len(b) != 0 {
		t.Fatal(l, b, e)
	}
	for n := range 12 {
		if e := pmap.Unpack(d, make([]byte, n), l...); e != api.ErrFit {
			t.Fatal(l, n, e)
		}
	}
	if !before.is(stateOf(d)) {
		t.Fatal(l, "something has changed")
	}
}

// The document's example.
func TestExample(t *testing.T) {
	if b := fine(t, own(t), slot(0x2000, 1, 8), slot(0x2000, 2, 16)); !bytes.Equal(b, []byte{5, 2, 1}) {
		t.Fatal(b)
	}
}

// P25.1: which entries may be mapped, each by itself, and behind others.
func TestCheck(t *testing.T) {
	d := own(t)
	for sub := 1; sub <= 8; sub++ {
		held, _ := d.Raw(key(0x2000, sub))
		if b := fine(t, d, of(sub)...); !bytes.Equal(b, held) {
			t.Fatal(sub, b)
		}
		if b := fine(t, d, of(1, sub, 4)...); !bytes.Equal(b, slices.Concat([]byte{5}, held, []byte{0xfe})) {
			t.Fatal(sub, b)
		}
	}
	for _, s := range wrongSlots() {
		refused(t, d, api.AbNoMap, s)
		refused(t, d, api.AbNoMap, of(1)[0], s)
		refused(t, d, api.AbNoMap, s, of(1)[0])
		refused(t, d, api.AbNoMap, append(of(1, 1, 1, 1, 1, 1, 1), s)...)
	}
}

// P25.1: each kind and each access: of Constant entries and texts none, of others just their own bits.
func TestCheckKinds(t *testing.T) {
	for kind := api.Bool; kind <= api.Text; kind++ {
		for access := api.ReadOnly; access <= api.Constant; access++ {
			d := dict.New()
			add(t, d, key(1, 255), spec(kind, access, 0, 1))
			own := 8
			switch kind {
			case api.U16, api.I16:
				own = 16
			case api.U32, api.I32:
				own = 32
			}
			for b := -40; b <= 80; b++ {
				want := api.AbNoMap
				if kind != api.Text && access != api.Constant && b == own {
					want = api.Fine
				}
				if a := pmap.Check(d, slot(1, 255, b)); a != want {
					t.Fatalf("%v, %v, %d: %x", kind, access, b, a)
				}
			}
		}
	}
}

// P25.1: at most eight slots, and at most 64 bits; slot by slot.
func TestCheckLength(t *testing.T) {
	d := own(t)
	for n := range 12 {
		l := slices.Repeat(of(1), n)
		if n <= 8 {
			fine(t, d, l...)
		} else {
			refused(t, d, api.AbMapLen, l...)
		}
	}
	fine(t, d)
	for _, subs := range [][]int{{3, 3}, {3, 6}, {2, 2, 2, 2}, {1, 3, 2, 1}, {3, 1, 1, 1, 1}, {1, 1, 1, 1, 3}, {2, 5, 3}, {1, 1, 1, 1, 1, 1, 1, 1}, {1, 4, 7, 8, 1, 4, 7, 8}} {
		fine(t, d, of(subs...)...)
		if len(subs) < 8 {
			refused(t, d, api.AbMapLen, of(append(subs, 1)...)...)
			refused(t, d, api.AbMapLen, of(append([]int{1}, subs...)...)...)
		}
	}
	for _, subs := range [][]int{{3, 3, 3}, {1, 1, 1, 1, 1, 1, 1, 2}, {2, 1, 1, 1, 1, 1, 1, 1}, {3, 3, 3, 3, 3, 3, 3, 3}, {3, 2, 1, 2}} {
		refused(t, d, api.AbMapLen, of(subs...)...)
	}
	for _, s := range wrongSlots() { // what is first found counts; that there are too many goes ahead of all
		refused(t, d, api.AbMapLen, append(of(3, 3, 1), s)...)
		refused(t, d, api.AbNoMap, append([]api.Slot{s}, of(3, 3, 1)...)...)
		refused(t, d, api.AbNoMap, append(of(3, 3), s)...)
		refused(t, d, api.AbMapLen, append([]api.Slot{s}, of(1, 1, 1, 1, 1, 1, 1, 1)...)...)
		refused(t, d, api.AbMapLen, slices.Repeat([]api.Slot{s}, 9)...)
		refused(t, d, api.AbNoMap, slices.Repeat([]api.Slot{s}, 8)...)
	}
	refused(t, d, api.AbMapLen, make([]api.Slot, 100000)...)
}

// P25.1: the bytes of all bits; of more than 64, too.
func TestSize(t *testing.T) {
	for n := range 12 {
		for _, b := range []int{8, 16, 32} {
			want := n * b / 8
			if n > 8 {
				want = 0
			}
			if got := pmap.Size(slices.Repeat([]api.Slot{slot(n, 999, b)}, n)...); got != want {
				t.Fatal(n, b, got)
			}
		}
	}
	if n := pmap.Size(slot(0, 0, 8), slot(1, 2, 16), slot(-5, 77777, 32), slot(0, 0, 8)); n != 8 {
		t.Fatal(n)
	}
	wrong := []int{math.MinInt, math.MinInt + 8, -32, -16, -8, 0, 256 + 8, 1<<16 + 8, 1<<32 + 8, math.MaxInt}
	for b := -70; b <= 70; b++ {
		if b != 8 && b != 16 && b != 32 {
			wrong = append(wrong, b)
		}
	}
	for _, b := range wrong {
		for at := range 4 {
			l := slices.Insert(of(1, 2, 3), at, slot(0x2000, 1, b))
			if n := pmap.Size(l...); n != 0 {
				t.Fatal(l, n)
			}
		}
	}
}

// P25.2: the entries' bytes, one behind the other, and back; what is mapped twice holds the last.
func TestUnpack(t *testing.T) {
	for _, x := range []struct {
		subs []int
		b    []byte
		want map[int]string
	}{
		{nil, nil, nil},
		{[]int{1}, []byte{77}, map[int]string{1: "\x4d"}},
		{[]int{1, 2}, []byte{0, 255, 254}, map[int]string{1: "\x00", 2: "\xff\xfe"}},
		{[]int{2, 1}, []byte{0, 255, 254}, map[int]string{2: "\x00\xff", 1: "\xfe"}},
		{[]int{3, 6}, []byte{1, 2, 3, 4, 5, 6, 1, 0}, map[int]string{3: "\x01\x02\x03\x04", 6: "\x05\x06\x01\x00"}},
		{[]int{4, 5, 7}, []byte{0xf6, 0xd4, 0xfe, 0}, map[int]string{4: "\xf6", 5: "\xd4\xfe", 7: "\x00"}},
		{[]int{1, 1}, []byte{3, 4}, map[int]string{1: "\x04"}},
		{[]int{1, 2, 1}, []byte{3, 4, 5, 6}, map[int]string{1: "\x06", 2: "\x04\x05"}},
		{[]int{8, 8, 8, 8, 8, 8, 8, 8}, []byte{7, 8, 9, 7, 8, 9, 7, 9}, map[int]string{8: "\x09"}},
	} {
		d := own(t)
		want := stateOf(d)
		for sub, b := range x.want {
			want.held[key(0x2000, sub)] = b
		}
		if e := pmap.Unpack(d, x.b, of(x.subs...)...); e != api.OK {
			t.Fatal(x, e)
		}
		if got := stateOf(d); !maps.Equal(got.held, want.held) {
			t.Fatal(x, got.held)
		}
	}
}

// P25.2: another number of bytes is ErrLen, whatever they are.
func TestUnpackLength(t *testing.T) {
	d := own(t)
	before := stateOf(d)
	for _, subs := range [][]int{nil, {1}, {7}, {1, 2}, {3, 3}, {8, 8}, {1, 1, 1, 1, 1, 1, 1, 1}} {
		l := of(subs...)
		for n := range 20 {
			if n == pmap.Size(l...) {
				continue
			}
			for _, x := range []byte{0, 8, 255} {
				if e := pmap.Unpack(d, bytes.Repeat([]byte{x}, n), l...); e != api.ErrLen {
					t.Fatal(subs, n, e)
				}
			}
		}
	}
	if !before.is(stateOf(d)) {
		t.Fatal("something has changed")
	}
}

// P25.2: one part that does not fit its entry, and nothing is changed; of such as are mapped twice any part counts.
func TestUnpackForm(t *testing.T) {
	d := own(t)
	before := stateOf(d)
	for _, x := range []struct {
		subs []int
		b    []byte
	}{
		{[]int{7}, []byte{2}},
		{[]int{8}, []byte{6}},
		{[]int{8}, []byte{10}},
		{[]int{4}, []byte{11}},
		{[]int{4}, []byte{0xf5}},
		{[]int{5}, []byte{0x2d, 1}},
		{[]int{5}, []byte{0xd3, 0xfe}},
		{[]int{6}, []byte{0x71, 0x11, 1, 0}},
		{[]int{1, 2, 7}, []byte{77, 1, 1, 255}},
		{[]int{7, 1, 2}, []byte{255, 1, 1, 77}},
		{[]int{1, 7, 2}, []byte{77, 2, 77, 77}},
		{[]int{8, 8}, []byte{9, 6}},
		{[]int{8, 8}, []byte{10, 9}},
		{[]int{1, 8, 8, 8}, []byte{1, 9, 0, 9}},
		{[]int{3, 5, 1, 8}, []byte{9, 9, 9, 9, 1, 1, 1, 0}},
	} {
		if e := pmap.Unpack(d, x.b, of(x.subs...)...); e != api.ErrForm || !before.is(stateOf(d)) {
			t.Fatal(x, e)
		}
	}
}

// A nil dictionary has no entries: no slot is one of its.
func TestNil(t *testing.T) {
	for _, s := range append(wrongSlots(), of(1, 2, 3)...) {
		if a := pmap.Check(nil, s); a != api.AbNoMap {
			t.Fatal(s, a)
		}
		if b, e := pmap.Pack(nil, s); len(b) != 0 || e != api.ErrFit {
			t.Fatal(s, b, e)
		}
		if e := pmap.Unpack(nil, []byte{1}, s); e != api.ErrFit {
			t.Fatal(s, e)
		}
	}
	if a := pmap.Check(nil); a != api.Fine {
		t.Fatal(a)
	}
	if a := pmap.Check(nil, make([]api.Slot, 9)...); a != api.AbMapLen {
		t.Fatal(a)
	}
	if b, _ := pmap.Pack(nil); len(b) != 0 {
		t.Fatal(b)
	}
	for _, index := range []int{-1, 0, 0x1a00, 65536} {
		if e := pmap.Lay(nil, index); e != api.ErrNil {
			t.Fatal(e)
		}
		if l, e := pmap.Load(nil, index); len(l) != 0 || e != api.ErrNil {
			t.Fatal(l, e)
		}
		for _, l := range [][]api.Slot{nil, of(1), make([]api.Slot, 9), {slot(-1, 0, 0)}} {
			if e := pmap.Store(nil, index, l...); e != api.ErrNil {
				t.Fatal(e)
			}
		}
	}
}

// fill gives each entry that may be mapped some number that fits it.
func fill(r *rand.Rand, d *dict.Dict) {
	for k := range d.Keys() {
		if s, _ := d.Spec(k); s.Kind != api.Text {
			d.Set(k, s.Low+r.Int63n(s.High-s.Low+1)) // ErrState of such as are Constant
		}
	}
}

// P25.4: what was packed of one dictionary is unpacked into another one, of which no other entry changes.
func TestThereAndBack(t *testing.T) {
	r := rand.New(rand.NewSource(25))
	a, b := own(t), own(t)
	for range 5000 {
		fill(r, a)
		fill(r, b)
		var subs []int
		for range r.Intn(9) {
			subs = append(subs, 1+r.Intn(8))
		}
		l := of(subs...)
		if pmap.Check(a, l...) != api.Fine {
			refused(t, a, api.AbMapLen, l...)
			continue
		}
		want := stateOf(b)
		for _, s := range l {
			held, _ := a.Raw(s.Key)
			want.held[s.Key] = string(held)
		}
		packed := fine(t, a, l...)
		if e := pmap.Unpack(b, packed, l...); e != api.OK || !maps.Equal(stateOf(b).held, want.held) {
			t.Fatal(subs, packed, e)
		}
		if again := fine(t, b, l...); !bytes.Equal(again, packed) {
			t.Fatal(subs, packed, again)
		}
	}
}

// P25.2: any bytes are taken, or nothing changes.
func TestAnyBytes(t *testing.T) {
	r := rand.New(rand.NewSource(26))
	d := own(t)
	took := 0
	for range 20000 {
		var subs []int
		for range 1 + r.Intn(4) {
			subs = append(subs, 1+r.Intn(8))
		}
		l := of(subs...)
		if pmap.Check(d, l...) != api.Fine {
			continue
		}
		b := make([]byte, pmap.Size(l...))
		for i := range b {
			b[i] = []byte{0, 1, 7, 8, 255, byte(r.Intn(256))}[r.Intn(6)]
		}
		before, twin := stateOf(d), d.Fork()
		want, rest := api.OK, b
		for _, s := range l {
			if twin.Put(s.Key, rest[:s.Bits/8]) != api.OK {
				want = api.ErrForm
			}
			rest = rest[s.Bits/8:]
		}
		if want == api.OK {
			before = stateOf(twin)
			took++
		}
		if e := pmap.Unpack(d, b, l...); e != want || !before.is(stateOf(d)) {
			t.Fatal(subs, b, e, want)
		}
	}
	if took < 1000 {
		t.Fatal(took)
	}
}

// P3: what is handed in stays as it is, and is not kept; what is answered is new.
func TestMemory(t *testing.T) {
	d := own(t)
	l := append(of(1, 2), slot(9, 9, 9))
	b := []byte{1, 2, 3, 77, 77}
	if e := pmap.Unpack(d, b[:3], l[:2]...); e != api.OK || !bytes.Equal(b, []byte{1, 2, 3, 77, 77}) || l[2] != slot(9, 9, 9) {
		t.Fatal(b, l, e)
	}
	clear(b)
	one := fine(t, d, l[:2]...)
	if !bytes.Equal(one, []byte{1, 2, 3}) {
		t.Fatal(one)
	}
	clear(one)
	if two := fine(t, d, l[:2]...); !bytes.Equal(two, []byte{1, 2, 3}) {
		t.Fatal(two)
	}
	pmap.Lay(d, 0x1a00)
	if e := pmap.Store(d, 0x1a00, l[:2]...); e != api.OK || l[2] != slot(9, 9, 9) || !slices.Equal(l[:2], of(1, 2)) {
		t.Fatal(l, e)
	}
	clear(l)
	got, _ := pmap.Load(d, 0x1a00)
	if !slices.Equal(got, of(1, 2)) {
		t.Fatal(got)
	}
	clear(got[:cap(got)])
	if got, _ := pmap.Load(d, 0x1a00); !slices.Equal(got, of(1, 2)) {
		t.Fatal(got)
	}
}

// laid is a mapping object's entries at first.
func laid(index int) state {
	s := state{map[api.Key]string{}, map[api.Key]api.Spec{}, 0}
	s.held[key(index, 0)], s.specs[key(index, 0)] = "\x00", spec(api.U8, api.ReadWrite, 0, 8)
	for sub := 1; sub <= 8; sub++ {
		s.held[key(index, sub)], s.specs[key(index, sub)] = "\x00\x00\x00\x00", spec(api.U32, api.ReadWrite, 0, 4294967295)
	}
	return s
}

// P25.3: all entries, at each Index that may be.
func TestLay(t *testing.T) {
	for _, index := range []int{1, 2, 0x1600, 0x1a00, 0x1a01, 65534, 65535} {
		d := dict.New()
		if e := pmap.Lay(d, index); e != api.OK || !laid(index).is(stateOf(d)) {
			t.Fatal(index, e, stateOf(d))
		}
		if e := pmap.Lay(d, index); e != api.ErrTwice || !laid(index).is(stateOf(d)) {
			t.Fatal(index, e)
		}
	}
	for _, index := range []int{0, -1, 65536, 65537, 1 << 32, 1<<32 + 1, math.MinInt, math.MinInt + 1, math.MaxInt} {
		d := dict.New()
		if e := pmap.Lay(d, index); e != api.ErrArg || d.Len() != 0 {
			t.Fatal(index, e)
		}
	}
}

// P25.3: from the Sub 0 on; what was added ahead of an error stays.
func TestLayError(t *testing.T) {
	other := spec(api.Text, api.ReadOnly, 0, 2)
	for at := range 9 {
		d := dict.New()
		add(t, d, key(7, at), other, 'x')
		want := laid(7)
		for sub := at; sub <= 8; sub++ {
			delete(want.held, key(7, sub))
			delete(want.specs, key(7, sub))
		}
		want.held[key(7, at)], want.specs[key(7, at)] = "x", other
		if e := pmap.Lay(d, 7); e != api.ErrTwice || !want.is(stateOf(d)) {
			t.Fatal(at, e)
		}
	}
	for room := range 11 {
		d := dict.New()
		for i := range 512 - room {
			add(t, d, key(0x3000+i, 0), spec(api.U8, api.ReadOnly, 0, 9))
		}
		want := api.ErrFull
		if room >= 9 {
			want = api.OK
		}
		if e := pmap.Lay(d, 7); e != want {
			t.Fatal(room, e)
		}
		for sub := range 9 {
			if _, there := d.Raw(key(7, sub)); there != (sub < room) {
				t.Fatal(room, sub)
			}
		}
	}
}

// numbers are those that an object holds.
func numbers(d *dict.Dict, index int) [9]int64 {
	var l [9]int64
	for sub := range l {
		l[sub], _ = d.Num(key(index, sub))
	}
	return l
}

// P25.3, P25.5: what was stored stands there, with 0 behind, and is loaded.
func TestStore(t *testing.T) {
	d := own(t)
	for _, index := range []int{0x1a00, 0x1a01} {
		if e := pmap.Lay(d, index); e != api.OK {
			t.Fatal(e)
		}
	}
	if l, e := pmap.Load(d, 0x1a00); len(l) != 0 || e != api.OK {
		t.Fatal(l, e)
	}
	for _, x := range []struct {
		l    []api.Slot
		want [9]int64
	}{
		{of(1, 2), [9]int64{2, 0x20000108, 0x20000210}},
		{nil, [9]int64{}},
		{make([]api.Slot, 8), [9]int64{8}},
		{of(1, 2, 3, 4, 5, 6, 7, 8), [9]int64{8, 0x20000108, 0x20000210, 0x20000320, 0x20000408, 0x20000510, 0x20000620, 0x20000708, 0x20000808}},
		{[]api.Slot{slot(65535, 255, 255)}, [9]int64{1, 4294967295}}, // whether it fits plays no part
		{[]api.Slot{{}, slot(0, 0, 1), slot(0, 1, 0), slot(1, 0, 0)}, [9]int64{4, 0, 1, 256, 65536}},
	} {
		want := stateOf(d)
		for sub, n := range x.want {
			want.held[key(0x1a00, sub)] = string([]byte{byte(n), byte(n >> 8), byte(n >> 16), byte(n >> 24)}[:4])
		}
		want.held[key(0x1a00, 0)] = string([]byte{byte(len(x.l))})
		if e := pmap.Store(d, 0x1a00, x.l...); e != api.OK || numbers(d, 0x1a00) != x.want || !maps.Equal(stateOf(d).held, want.held) {
			t.Fatal(x, e, numbers(d, 0x1a00))
		}
		if l, e := pmap.Load(d, 0x1a00); e != api.OK || !slices.Equal(l, x.l) {
			t.Fatal(x, l, e)
		}
		if l, e := pmap.Load(d, 0x1a01); e != api.OK || len(l) != 0 {
			t.Fatal(x, l, e)
		}
	}
	r := rand.New(rand.NewSource(3))
	for range 500 {
		l := make([]api.Slot, r.Intn(9))
		for i := range l {
			l[i] = slot(r.Intn(65536), r.Intn(256), r.Intn(256))
		}
		if e := pmap.Store(d, 0x1a01, l...); e != api.OK {
			t.Fatal(l, e)
		}
		if got, e := pmap.Load(d, 0x1a01); e != api.OK || !slices.Equal(got, l) {
			t.Fatal(l, got, e)
		}
	}
}

// P25.3: what is behind the number of slots is not told; too many, and slots without a word, change nothing.
func TestStoreWrong(t *testing.T) {
	d := dict.New()
	pmap.Lay(d, 5)
	pmap.Store(d, 5, of(1, 2, 3)...)
	d.Set(key(5, 0), 2)
	if l, e := pmap.Load(d, 5); e != api.OK || !slices.Equal(l, of(1, 2)) {
		t.Fatal(l, e)
	}
	before := stateOf(d)
	for _, n := range []int{9, 10, 256, 264, 70000} {
		for _, l := range [][]api.Slot{make([]api.Slot, n), slices.Repeat([]api.Slot{slot(-1, -1, -1)}, n)} {
			if e := pmap.Store(d, 5, l...); e != api.ErrLimit {
				t.Fatal(n, e)
			}
			if e := pmap.Store(d, 6, l...); e != api.ErrLimit { // ahead of ErrNone
				t.Fatal(n, e)
			}
		}
	}
	for _, s := range []api.Slot{
		slot(-1, 0, 8), slot(65536, 0, 8), slot(math.MaxInt, 0, 8), slot(math.MinInt, 0, 8), slot(1<<32, 0, 8),
		slot(5, -1, 8), slot(5, 256, 8), slot(5, math.MaxInt, 8), slot(5, math.MinInt, 8),
		slot(5, 0, -1), slot(5, 0, 256), slot(5, 0, math.MaxInt), slot(5, 0, math.MinInt),
	} {
		for at := range 8 {
			l := of(1, 2, 3, 4, 5, 6, 7, 8)
			l[at] = s
			if e := pmap.Store(d, 5, l[:at+1]...); e != api.ErrArg {
				t.Fatal(l, e)
			}
			if e := pmap.Store(d, 5, l...); e != api.ErrArg {
				t.Fatal(l, e)
			}
			if e := pmap.Store(d, 6, l...); e != api.ErrArg { // ahead of ErrNone
				t.Fatal(l, e)
			}
		}
	}
	for _, index := range []int{0, -1, 4, 6, 65535, 65536, math.MinInt, math.MaxInt} {
		if e := pmap.Store(d, index, of(1)...); e != api.ErrNone {
			t.Fatal(index, e)
		}
		if l, e := pmap.Load(d, index); len(l) != 0 || e != api.ErrNone {
			t.Fatal(index, l, e)
		}
	}
	if !before.is(stateOf(d)) {
		t.Fatal("something has changed")
	}
}

// odd is a mapping object with another spec of one of its entries (without it, if that is no spec).
func odd(t *testing.T, sub int, s api.Spec, first ...byte) *dict.Dict {
	t.Helper()
	d := dict.New()
	for i := range 9 {
		switch {
		case i != sub && i == 0:
			add(t, d, key(5, i), spec(api.U8, api.ReadWrite, 0, 8), 3)
		case i != sub:
			add(t, d, key(5, i), spec(api.U32, api.ReadWrite, 0, 4294967295), byte(i), 0, 0, 0)
		case s != (api.Spec{}):
			add(t, d, key(5, i), s, first...)
		}
	}
	return d
}

// P25.3: with an entry that is not there, or holds a text, there are no slots, also behind those that are told.
func TestLoadNone(t *testing.T) {
	for sub := range 9 {
		for _, d := range []*dict.Dict{
			odd(t, sub, api.Spec{}),
			odd(t, sub, spec(api.Text, api.ReadWrite, 0, 4)),
			odd(t, sub, spec(api.Text, api.ReadOnly, 1, 4), 3),
			odd(t, sub, spec(api.Text, api.ReadOnly, 4, 4), 3, 0, 0, 0),
		} {
			if l, e := pmap.Load(d, 5); len(l) != 0 || e != api.ErrNone {
				t.Fatal(sub, l, e)
			}
		}
	}
}

// P25.3: of a dictionary that somebody else laid: how many slots there are is looked at, whatever kind it has.
func TestLoadOdd(t *testing.T) {
	for _, kind := range []api.Kind{api.I8, api.I16, api.I32} {
		size := map[api.Kind]int{api.I8: 1, api.I16: 2, api.I32: 4}[kind]
		for n := int64(-128); n <= 127; n++ {
			b := []byte{byte(n), byte(n >> 8), byte(n >> 16), byte(n >> 24)}[:size]
			l, e := pmap.Load(odd(t, 0, spec(kind, api.ReadOnly, -128, 127), b...), 5)
			if n < 0 || n > 8 {
				if len(l) != 0 || e != api.ErrNone {
					t.Fatal(kind, n, l, e)
				}
				continue
			}
			if int64(len(l)) != n || e != api.OK {
				t.Fatal(kind, n, l, e)
			}
			for i, s := range l {
				if s != slot(0, 0, i+1) {
					t.Fatal(kind, n, l)
				}
			}
		}
	}
	if l, e := pmap.Load(odd(t, 0, spec(api.U32, api.ReadWrite, 0, 4294967295), 0, 0, 0, 0x80), 5); len(l) != 0 || e != api.ErrNone {
		t.Fatal(l, e)
	}
	// a number that is no word is no slot that fits anything
	l, e := pmap.Load(odd(t, 2, spec(api.I32, api.ReadWrite, -5, 5), 0xff, 0xff, 0xff, 0xff), 5)
	if e != api.OK || !slices.Equal(l, []api.Slot{slot(0, 0, 1), {}, slot(0, 0, 3)}) {
		t.Fatal(l, e)
	}
}

// P25.3, P2: dict's first error of Set, and nothing has changed.
func TestStoreError(t *testing.T) {
	for sub := range 9 {
		for _, x := range []struct {
			s     api.Spec
			first []byte
			e     api.Errno
		}{
			{api.Spec{}, nil, api.ErrNone},
			{spec(api.U32, api.Constant, 0, 4294967295), []byte{1, 0, 0, 0}, api.ErrState},
			{spec(api.Text, api.ReadWrite, 0, 4), nil, api.ErrArg},
			{spec(api.U32, api.ReadWrite, 100, 200), nil, api.ErrFit},
			{spec(api.U32, api.ReadOnly, 0, 4294967295), nil, api.OK},
		} {
			d := odd(t, sub, x.s, x.first...)
			before := stateOf(d)
			if e := pmap.Store(d, 5, of(1, 2, 3, 4, 5)...); e != x.e {
				t.Fatal(sub, x, e)
			}
			if x.e != api.OK && !before.is(stateOf(d)) {
				t.Fatal(sub, x, "something has changed")
			}
			if l, e := pmap.Load(d, 5); x.e == api.OK && (e != api.OK || !slices.Equal(l, of(1, 2, 3, 4, 5))) {
				t.Fatal(sub, x, l, e)
			}
		}
	}
	// the first one: of the Sub 0 ahead of those behind it
	d := dict.New()
	add(t, d, key(5, 0), spec(api.U8, api.ReadWrite, 0, 1))
	if e := pmap.Store(d, 5, of(1, 2)...); e != api.ErrFit || d.Changes() != 0 {
		t.Fatal(e)
	}
	if e := pmap.Store(d, 5, of(1)...); e != api.ErrNone || d.Changes() != 0 {
		t.Fatal(e)
	}
	if n, _ := d.Num(key(5, 0)); n != 0 {
		t.Fatal(n)
	}
}

// P4: what is done to a Fork changes nothing of the other one.
func TestFork(t *testing.T) {
	d := own(t)
	pmap.Lay(d, 5)
	pmap.Store(d, 5, of(1)...)
	f, before := d.Fork(), stateOf(d)
	if pmap.Store(f, 5, of(2, 3)...) != api.OK || pmap.Unpack(f, []byte{99}, of(1)...) != api.OK || !before.is(stateOf(d)) {
		t.Fatal("they hang together")
	}
}
