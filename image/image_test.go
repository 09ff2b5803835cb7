package image_test

import (
	"bytes"
	"maps"
	"math"
	"math/rand"
	"slices"
	"strings"
	"testing"

	"tripwire/api"
	"tripwire/dict"
	"tripwire/image"
	"tripwire/pmap"
)

// The calls have just these signatures.
var (
	_ func(*dict.Dict) api.Errno                        = image.Lay
	_ func(int) (api.Slot, bool)                        = image.Own
	_ func(int) (api.Slot, bool)                        = image.Output
	_ func(api.Key) bool                                = image.Program
	_ func(*dict.Dict, api.Key, int64) api.Errno        = image.Write
	_ func(*dict.Dict, api.Channel) ([]byte, api.Errno) = image.Value
	_ func(*dict.Dict, api.Channel) ([]byte, api.Errno) = image.Safe
	_ func(*dict.Dict, api.Channel, []byte) api.Errno   = image.Release
	_ func(*dict.Dict, api.Channel) api.Errno           = image.Fall
	_ func(*dict.Dict, api.Channel) bool                = image.IsSafe
)

// key is a name.
func key(index, sub int) api.Key { return api.Key{Index: index, Sub: sub} }

// slot is a slot.
func slot(index, sub, bits int) api.Slot { return api.Slot{Key: key(index, sub), Bits: bits} }

// spec is what an entry may hold.
func spec(k api.Kind, a api.Access, low, high int64) api.Spec {
	return api.Spec{Kind: k, Access: a, Low: low, High: high}
}

// byteOf is what an entry of some U8 may hold.
func byteOf(low, high int64) api.Spec { return spec(api.U8, api.ReadWrite, low, high) }

// add adds an entry.
func add(t *testing.T, d *dict.Dict, k api.Key, s api.Spec, first ...byte) {
	t.Helper()
	if e := d.Add(k, s, first); e != api.OK {
		t.Fatal(k, s, first, e)
	}
}

// laid is a dictionary with the image's entries.
func laid(t *testing.T) *dict.Dict {
	t.Helper()
	d := dict.New()
	if e := image.Lay(d); e != api.OK {
		t.Fatal(e)
	}
	return d
}

// put gives an entry bytes.
func put(t *testing.T, d *dict.Dict, k api.Key, b ...byte) {
	t.Helper()
	if e := d.Put(k, b); e != api.OK {
		t.Fatal(k, b, e)
	}
}

// holds: what an entry holds.
func holds(t *testing.T, d *dict.Dict, k api.Key, want ...byte) {
	t.Helper()
	if b, there := d.Raw(k); !there || !bytes.Equal(b, want) {
		t.Fatal(k, b, there, "not", want)
	}
}

// state is all that can be told of a dictionary.
type state struct {
	held    map[api.Key]string
	specs   map[api.Key]api.Spec
	changes int
}

func stateOf(d *dict.Dict) state {
	s := state{map[api.Key]string{}, map[api.Key]api.Spec{}, d.Changes()}
	for k := range d.Keys() {
		b, _ := d.Raw(k)
		s.held[k] = string(b)
		s.specs[k], _ = d.Spec(k)
	}
	return s
}

func (s state) is(other state) bool {
	return s.changes == other.changes && maps.Equal(s.held, other.held) && maps.Equal(s.specs, other.specs)
}

// channel is a table of slots, of which nothing else is told.
func channel(l ...api.Slot) api.Channel {
	x := api.Channel{N: len(l)}
	copy(x.Map[:], l)
	return x
}

// outputs is a table of outputs, by their Subs.
func outputs(subs ...int) api.Channel {
	var l []api.Slot
	for _, sub := range subs {
		l = append(l, slot(0x2100, sub, bits(sub)))
	}
	return channel(l...)
}

// bits are those of an entry that holds numbers, by its Sub.
func bits(sub int) int { return []int{0, 8, 16, 32, 16, 8, 8}[sub] }

// numbers are small ones, and such as are like them in their low bits.
func numbers() []int {
	var l []int
	for i := -20; i <= 20; i++ {
		l = append(l, i)
	}
	return append(l, 255, 256, 257, 262, -255, -256, -250, 65535, 65536, 65537, 1<<31, 1<<32, 1<<32+1, 1<<32+6, math.MinInt32, math.MaxInt32, math.MinInt, math.MinInt+1, math.MinInt+6, math.MaxInt)
}

// row is an entry of the document's table.
type row struct {
	key   api.Key
	spec  api.Spec
	first string
}

// table is the document's.
func table() []row {
	var l []row
	behind := func(index int, a api.Access) {
		l = append(l,
			row{key(index, 1), spec(api.U8, a, 0, 255), "\x00"},
			row{key(index, 2), spec(api.U16, a, 0, 65535), "\x00\x00"},
			row{key(index, 3), spec(api.U32, a, 0, 4294967295), "\x00\x00\x00\x00"},
			row{key(index, 4), spec(api.I16, a, -32768, 32767), "\x00\x00"},
			row{key(index, 5), spec(api.Bool, a, 0, 1), "\x00"},
			row{key(index, 6), spec(api.I8, a, -128, 127), "\x00"})
	}
	behind(0x2000, api.ReadWrite)
	l = append(l, row{key(0x2000, 7), spec(api.Text, api.ReadWrite, 0, 40), ""})
	behind(0x2100, api.ReadOnly)
	behind(0x2200, api.ReadWrite)
	return l
}

// has: a dictionary has just some entries, of which none was written to.
func has(t *testing.T, d *dict.Dict, want ...row) {
	t.Helper()
	s := state{map[api.Key]string{}, map[api.Key]api.Spec{}, 0}
	for _, r := range want {
		s.held[r.key], s.specs[r.key] = r.first, r.spec
	}
	if got := stateOf(d); !got.is(s) {
		t.Fatalf("%v, not %v", got, s)
	}
}

// The document's example.
func TestExample(t *testing.T) {
	d := laid(t)
	put(t, d, key(0x2200, 1), 9)
	if e := image.Fall(d, outputs(1)); e != api.OK {
		t.Fatal(e)
	}
	holds(t, d, key(0x2100, 1), 9)
}

// P32.1: all entries of the table, and nothing else changes.
func TestLay(t *testing.T) {
	has(t, laid(t), table()...)
	d := dict.New()
	other := row{key(0x2000, 8), byteOf(0, 9), "\x05"}
	add(t, d, other.key, other.spec, 5)
	if e := image.Lay(d); e != api.OK {
		t.Fatal(e)
	}
	has(t, d, append(table(), other)...)
	if e := image.Lay(nil); e != api.ErrNil {
		t.Fatal(e)
	}
}

// P32.1: where one of them is there already, those ahead of it are added, and stay.
func TestLayTwice(t *testing.T) {
	for i, r := range table() {
		d := dict.New()
		other := row{r.key, byteOf(3, 9), "\x05"}
		add(t, d, other.key, other.spec, 5)
		if e := image.Lay(d); e != api.ErrTwice {
			t.Fatal(r, e)
		}
		has(t, d, append(table()[:i], other)...)
	}
	d := laid(t)
	before := stateOf(d)
	if e := image.Lay(d); e != api.ErrTwice || !before.is(stateOf(d)) {
		t.Fatal(e)
	}
}

// P32.1: where there is no room for all, those for which there is are added, and stay.
func TestLayFull(t *testing.T) {
	for room := range len(table()) + 2 {
		d := dict.New()
		var others []row
		for i := range api.MaxEntries - room {
			r := row{key(0x3000+i/256, i%256), byteOf(0, 9), "\x00"}
			add(t, d, r.key, r.spec)
			others = append(others, r)
		}
		want := api.ErrFull
		if room >= len(table()) {
			want = api.OK
		}
		if e := image.Lay(d); e != want {
			t.Fatal(room, e)
		}
		has(t, d, append(others, table()[:min(room, len(table()))]...)...)
	}
}

// P32.1: the slots, which may be mapped; of other Subs none.
func TestOwnAndOutput(t *testing.T) {
	d := laid(t)
	for _, sub := range numbers() {
		own, isOwn := image.Own(sub)
		out, isOut := image.Output(sub)
		if sub < 1 || sub > 6 {
			if isOwn || isOut || own != (api.Slot{}) || out != (api.Slot{}) {
				t.Fatal(sub, own, out)
			}
			continue
		}
		if !isOwn || !isOut || own != slot(0x2000, sub, bits(sub)) || out != slot(0x2100, sub, bits(sub)) {
			t.Fatal(sub, own, out)
		}
		if a := pmap.Check(d, own, out); a != api.Fine {
			t.Fatalf("%d: %x", sub, a)
		}
	}
}

// P32.1: what the program may write.
func TestProgram(t *testing.T) {
	for _, index := range append(numbers(), 0x2000, 0x1fff, 0x2001, 0x2100, 0x2200, 0x12000, -0x2000, 1<<32+0x2000, math.MinInt+0x2000) {
		for _, sub := range numbers() {
			want := index == 0x2000 && sub >= 1 && sub <= 6
			if got := image.Program(key(index, sub)); got != want {
				t.Fatal(index, sub, got)
			}
		}
	}
}

// P32.1: the program writes numbers that its entries may hold, and those alone; nothing else changes.
func TestWrite(t *testing.T) {
	ns := []int64{math.MinInt64, math.MinInt64 + 1, -1<<32 - 1, -1 << 32, -1 << 31, -32769, -32768, -32767, -129, -128, -127, -1, 0, 1, 2, 127, 128, 254, 255, 256, 32767, 32768, 65535, 65536, 1<<31 - 1, 1 << 31, 1<<32 - 1, 1 << 32, 1<<32 + 1, math.MaxInt64}
	d := laid(t)
	for _, r := range table()[:6] {
		for _, n := range ns {
			want := stateOf(d)
			fits := n >= r.spec.Low && n <= r.spec.High
			if e := image.Write(d, r.key, n); fits && e != api.OK || !fits && e != api.ErrFit {
				t.Fatal(r, n, e)
			}
			if fits {
				b := make([]byte, len(r.first))
				for i := range b {
					b[i] = byte(n >> (8 * i))
				}
				want.held[r.key] = string(b)
			}
			if !maps.Equal(stateOf(d).held, want.held) {
				t.Fatal(r, n)
			}
			if is, there := d.Num(r.key); fits && (is != n || !there) {
				t.Fatal(r, n, is)
			}
		}
	}
}

// P32.1: what the program may not write, and what is not there; the first error counts.
func TestWriteWrong(t *testing.T) {
	d := laid(t)
	before := stateOf(d)
	wrong := []api.Key{{}, key(0x2000, 0), key(0x2000, 7), key(0x2000, 8), key(0x2000, 257), key(0x2000, -1), key(0x2100, 1), key(0x2200, 1), key(0x1fff, 1), key(0x2001, 1), key(0x12000, 1), key(math.MinInt, math.MaxInt)}
	for _, k := range wrong {
		for _, n := range []int64{0, 1, 77777777777, math.MinInt64, math.MaxInt64} {
			if e := image.Write(d, k, n); e != api.ErrArg {
				t.Fatal(k, n, e)
			}
			if e := image.Write(nil, k, n); e != api.ErrNil {
				t.Fatal(k, n, e)
			}
		}
	}
	if !before.is(stateOf(d)) {
		t.Fatal("something has changed")
	}
	if e := image.Write(nil, key(0x2000, 1), 1); e != api.ErrNil {
		t.Fatal(e)
	}
	for sub := 1; sub <= 6; sub++ { // dict's errors of Set
		d := dict.New()
		if e := image.Write(d, key(0x2000, sub), 1); e != api.ErrNone || d.Len() != 0 {
			t.Fatal(sub, e)
		}
		add(t, d, key(0x2000, sub), spec(api.U8, api.Constant, 0, 9))
		if e := image.Write(d, key(0x2000, sub), 1); e != api.ErrState {
			t.Fatal(sub, e)
		}
		d = dict.New()
		add(t, d, key(0x2000, sub), spec(api.Text, api.ReadWrite, 0, 9))
		if e := image.Write(d, key(0x2000, sub), 1); e != api.ErrArg {
			t.Fatal(sub, e)
		}
	}
}

// hold: what a channel's calls tell of it, without a change.
func hold(t *testing.T, d *dict.Dict, x api.Channel, value, safe string) {
	t.Helper()
	before := stateOf(d)
	for range 2 {
		if b, e := image.Value(d, x); e != api.OK || string(b) != value {
			t.Fatalf("Value: %q, %v, not %q", b, e, value)
		}
		if b, e := image.Safe(d, x); e != api.OK || string(b) != safe {
			t.Fatalf("Safe: %q, %v, not %q", b, e, safe)
		}
		if is := image.IsSafe(d, x); is != (value == safe) {
			t.Fatalf("IsSafe: %v of %q, %q", is, value, safe)
		}
	}
	if !before.is(stateOf(d)) {
		t.Fatal("something has changed")
	}
}

// refused: a channel that is none of this dictionary's; nothing changes.
func refused(t *testing.T, d *dict.Dict, x api.Channel) {
	t.Helper()
	before := stateOf(d)
	if b, e := image.Value(d, x); e != api.ErrFit || len(b) != 0 {
		t.Fatal(x, b, e)
	}
	if b, e := image.Safe(d, x); e != api.ErrFit || len(b) != 0 {
		t.Fatal(x, b, e)
	}
	for n := range 10 {
		if e := image.Release(d, x, make([]byte, n)); e != api.ErrFit {
			t.Fatal(x, n, e)
		}
	}
	if e := image.Fall(d, x); e != api.ErrFit {
		t.Fatal(x, e)
	}
	if image.IsSafe(d, x) {
		t.Fatal(x)
	}
	if !before.is(stateOf(d)) {
		t.Fatal(x, "something has changed")
	}
}

// P32.2: what is released is the value, what falls is safe.
func TestReleaseAndFall(t *testing.T) {
	d := laid(t)
	put(t, d, key(0x2200, 1), 7)
	put(t, d, key(0x2200, 2), 8, 9)
	put(t, d, key(0x2200, 4), 0xff, 0xfe)
	put(t, d, key(0x2200, 5), 1)
	x := outputs(1, 2, 4, 5)
	safe := "\x07\x08\x09\xff\xfe\x01"
	hold(t, d, x, "\x00\x00\x00\x00\x00\x00", safe)
	if e := image.Fall(d, x); e != api.OK {
		t.Fatal(e)
	}
	hold(t, d, x, safe, safe)
	if e := image.Release(d, x, []byte{1, 2, 3, 4, 5, 0}); e != api.OK {
		t.Fatal(e)
	}
	hold(t, d, x, "\x01\x02\x03\x04\x05\x00", safe)
	holds(t, d, key(0x2100, 1), 1)
	holds(t, d, key(0x2100, 2), 2, 3)
	holds(t, d, key(0x2100, 4), 4, 5)
	holds(t, d, key(0x2100, 5), 0)
	holds(t, d, key(0x2100, 3), 0, 0, 0, 0)
	put(t, d, key(0x2200, 2), 6, 6) // the safe value is what it is when it falls
	if e := image.Fall(d, x); e != api.OK {
		t.Fatal(e)
	}
	hold(t, d, x, "\x07\x06\x06\xff\xfe\x01", "\x07\x06\x06\xff\xfe\x01")
	put(t, d, key(0x2200, 5), 0)
	hold(t, d, x, "\x07\x06\x06\xff\xfe\x01", "\x07\x06\x06\xff\xfe\x00")
}

// P32.2: each entry by itself, and in any order; the program's entries have the outputs as their safe values.
func TestEachEntry(t *testing.T) {
	for sub := 1; sub <= 6; sub++ {
		d := laid(t)
		n := bits(sub) / 8
		one, none := strings.Repeat("\x01", n), strings.Repeat("\x00", n)
		put(t, d, key(0x2200, sub), []byte(one)...)
		x := outputs(sub)
		hold(t, d, x, none, one)
		if e := image.Fall(d, x); e != api.OK {
			t.Fatal(sub, e)
		}
		hold(t, d, x, one, one)
		own, _ := image.Own(sub)
		hold(t, d, channel(own), none, one)
		hold(t, d, channel(slot(0x2200, sub, bits(sub))), one, none) // nothing stands 100h behind them
	}
	d := laid(t)
	put(t, d, key(0x2200, 2), 1, 2)
	put(t, d, key(0x2200, 6), 3)
	hold(t, d, outputs(2, 6), "\x00\x00\x00", "\x01\x02\x03")
	hold(t, d, outputs(6, 2), "\x00\x00\x00", "\x03\x01\x02")
	hold(t, d, outputs(6, 6, 6), "\x00\x00\x00", "\x03\x03\x03")
	hold(t, d, outputs(3, 3), "\x00\x00\x00\x00\x00\x00\x00\x00", "\x00\x00\x00\x00\x00\x00\x00\x00")
	hold(t, d, outputs(1, 5, 6, 1, 5, 6, 1, 6), strings.Repeat("\x00", 8), "\x00\x00\x03\x00\x00\x03\x00\x03")
}

// P32.2: a safe value is what stands 100h behind, of whatever kind and access, if it has as many bytes; else 0.
func TestSafeValues(t *testing.T) {
	d := dict.New()
	for sub := 1; sub <= 8; sub++ {
		add(t, d, key(0x3000, sub), byteOf(0, 255), 5)
	}
	add(t, d, key(0x3000, 9), spec(api.U16, api.ReadOnly, 0, 65535), 6, 5)
	add(t, d, key(0x3000, 10), spec(api.U32, api.WriteOnly, 0, 65535), 6, 5, 0, 0)
	add(t, d, key(0x3000, 11), spec(api.I32, api.ReadWrite, -9, 65535), 6, 5, 0, 0)
	add(t, d, key(0x3100, 1), spec(api.I8, api.Constant, -9, 9), 0xff)
	add(t, d, key(0x3100, 2), spec(api.Bool, api.WriteOnly, 0, 1), 1)
	add(t, d, key(0x3100, 3), spec(api.Text, api.ReadWrite, 0, 9), 'x')
	add(t, d, key(0x3100, 4), spec(api.Text, api.ReadWrite, 0, 9))
	add(t, d, key(0x3100, 5), spec(api.Text, api.ReadWrite, 0, 9), 'x', 'y')
	add(t, d, key(0x3100, 6), spec(api.U16, api.ReadWrite, 0, 65535), 7, 7)
	add(t, d, key(0x3101, 7), byteOf(0, 255), 7) // neither of these is 100h behind, of the same Sub
	add(t, d, key(0x30ff, 7), byteOf(0, 255), 7)
	add(t, d, key(0x2f00, 7), byteOf(0, 255), 7)
	add(t, d, key(0x3100, 0), byteOf(0, 255), 7)
	add(t, d, key(0x3100, 9), byteOf(0, 255), 7)
	add(t, d, key(0x3100, 10), spec(api.Text, api.ReadWrite, 0, 9), 'a', 'b', 'c', 'd')
	add(t, d, key(0x3100, 11), spec(api.U16, api.ReadWrite, 0, 65535), 7, 7)
	for sub, want := range map[int]string{1: "\xff", 2: "\x01", 3: "x", 4: "\x00", 5: "\x00", 6: "\x00", 7: "\x00", 8: "\x00"} {
		hold(t, d, channel(slot(0x3000, sub, 8)), "\x05", want)
	}
	hold(t, d, channel(slot(0x3000, 9, 16)), "\x06\x05", "\x00\x00")
	hold(t, d, channel(slot(0x3000, 10, 32), slot(0x3000, 11, 32)), "\x06\x05\x00\x00\x06\x05\x00\x00", "abcd\x00\x00\x00\x00")
	hold(t, d, channel(slot(0x3000, 1, 8), slot(0x3000, 9, 16), slot(0x3000, 3, 8)), "\x05\x06\x05\x05", "\xff\x00\x00x")
	if e := d.Put(key(0x3100, 3), nil); e != api.OK { // a text that has as many bytes no more
		t.Fatal(e)
	}
	hold(t, d, channel(slot(0x3000, 3, 8)), "\x05", "\x00")
}

// P32.2: behind the greatest Indexes nothing stands.
func TestLastIndexes(t *testing.T) {
	d := dict.New()
	for _, index := range []int{1, 0xff, 0x100, 0xfeff, 0xff00, 0xffff} {
		add(t, d, key(index, 255), byteOf(0, 255), byte(index))
	}
	add(t, d, key(0x101, 255), byteOf(0, 255), 44)
	for index, want := range map[int]string{1: "\x2c", 0xff: "\x00", 0xfeff: "\xff", 0xff00: "\x00", 0xffff: "\x00"} {
		hold(t, d, channel(slot(index, 255, 8)), string([]byte{byte(index)}), want)
	}
}

// P32.2: only N and the slots ahead of it play a part.
func TestOnlySlots(t *testing.T) {
	d := laid(t)
	put(t, d, key(0x2200, 1), 7)
	for _, x := range []api.Channel{
		{Dir: api.Sends, Time: -1, Gap: math.MaxInt, Plain: 5, Turned: 5},
		{Dir: api.Dir(77), Time: 65536, Plain: -1, Turned: 99999},
		{Dir: api.Takes},
	} {
		x.N = 1
		for i := range x.Map {
			x.Map[i] = slot(-i, i*1000, 99)
		}
		x.Map[0] = slot(0x2100, 1, 8)
		put(t, d, key(0x2100, 1), 3)
		hold(t, d, x, "\x03", "\x07")
		if e := image.Release(d, x, []byte{4}); e != api.OK {
			t.Fatal(e)
		}
		hold(t, d, x, "\x04", "\x07")
		if e := image.Fall(d, x); e != api.OK {
			t.Fatal(e)
		}
		hold(t, d, x, "\x07", "\x07")
	}
}

// P32.2: a channel without slots fits any dictionary, and has no bytes.
func TestNoSlots(t *testing.T) {
	for _, d := range []*dict.Dict{laid(t), dict.New(), nil} {
		x := channel()
		hold(t, d, x, "", "")
		if e := image.Release(d, x, nil); e != api.OK {
			t.Fatal(e)
		}
		if e := image.Release(d, x, []byte{1}); e != api.ErrLen {
			t.Fatal(e)
		}
		if e := image.Fall(d, x); e != api.OK {
			t.Fatal(e)
		}
	}
}

// P32.2: another N, or a mapping that does not fit, is ErrFit, and not safe.
func TestRefused(t *testing.T) {
	d := laid(t)
	add(t, d, key(0x3000, 1), spec(api.U8, api.Constant, 0, 9))
	for _, n := range numbers() {
		x := outputs(1, 5, 6, 1, 5, 6, 1, 5)
		x.N = n
		if n < 0 || n > 8 {
			refused(t, d, x)
			refused(t, nil, x)
		} else {
			hold(t, d, x, strings.Repeat("\x00", n), strings.Repeat("\x00", n))
		}
	}
	for _, s := range []api.Slot{
		{}, slot(0x2100, 1, 0), slot(0x2100, 1, 7), slot(0x2100, 1, 16), slot(0x2100, 1, -8), slot(0x2100, 2, 8), slot(0x2100, 2, 32), slot(0x2100, 3, 64),
		slot(0x2100, 0, 8), slot(0x2100, 7, 8), slot(0x2100, 257, 8), slot(0x2100, -1, 8), slot(0x2101, 1, 8), slot(0x12100, 1, 8), slot(-0x2100, 1, 8),
		slot(0x2000, 7, 0), slot(0x2000, 7, 8), slot(0x3000, 1, 8), slot(math.MaxInt, math.MaxInt, math.MaxInt), slot(math.MinInt, math.MinInt, math.MinInt),
		slot(math.MaxInt-0xff, 1, 8), slot(math.MaxInt, 1, 8), slot(0, 1, 8), slot(0x2100, 1, 1<<32+8),
	} {
		good := slot(0x2100, 1, 8)
		for _, x := range []api.Channel{channel(s), channel(good, s), channel(s, good), channel(good, good, s, good)} {
			refused(t, d, x)
			refused(t, nil, x)
		}
	}
	for _, x := range []api.Channel{outputs(3, 3, 1), outputs(1, 3, 3), outputs(2, 2, 4, 4, 5), outputs(3, 3, 3, 3, 3, 3, 3, 3)} {
		refused(t, d, x)
	}
	refused(t, nil, outputs(1))
	refused(t, dict.New(), outputs(1))
}

// P32.2: Release has pmap's errors of Unpack, and changes nothing with them.
func TestReleaseWrong(t *testing.T) {
	d := laid(t)
	add(t, d, key(0x3000, 1), byteOf(3, 9), 4)
	before := stateOf(d)
	for _, x := range []api.Channel{outputs(1), outputs(1, 2), outputs(3, 3), outputs(5)} {
		l := x.Map[:x.N]
		for n := range 12 {
			if n == pmap.Size(l...) {
				continue
			}
			for _, b := range []byte{0, 2, 255} {
				if e := image.Release(d, x, bytes.Repeat([]byte{b}, n)); e != api.ErrLen {
					t.Fatal(x, n, e)
				}
			}
		}
	}
	for _, c := range []struct {
		x api.Channel
		b []byte
	}{
		{outputs(5), []byte{2}},
		{outputs(1, 5, 2), []byte{1, 255, 1, 1}},
		{outputs(1, 2, 5), []byte{1, 1, 1, 2}},
		{channel(slot(0x3000, 1, 8)), []byte{2}},
		{channel(slot(0x3000, 1, 8)), []byte{10}},
		{channel(slot(0x3000, 1, 8), slot(0x3000, 1, 8)), []byte{0, 9}},
	} {
		if e := image.Release(d, c.x, c.b); e != api.ErrForm {
			t.Fatal(c, e)
		}
	}
	if !before.is(stateOf(d)) {
		t.Fatal("something has changed")
	}
}

// P32.2: Fall, too, where a safe value does not fit its entry.
func TestFallWrong(t *testing.T) {
	d := laid(t)
	put(t, d, key(0x2200, 1), 7)
	add(t, d, key(0x3000, 1), byteOf(3, 9), 4) // it may not hold 0, and nothing stands behind it
	add(t, d, key(0x3000, 2), byteOf(0, 9), 4)
	add(t, d, key(0x3100, 2), byteOf(0, 255), 10)
	add(t, d, key(0x3000, 3), byteOf(3, 9), 4) // it may not hold 0, but what stands behind it
	add(t, d, key(0x3100, 3), byteOf(0, 255), 9)
	for sub, safe := range map[int]string{1: "\x00", 2: "\x0a"} {
		s := slot(0x3000, sub, 8)
		for _, x := range []api.Channel{channel(s), channel(slot(0x2100, 1, 8), s), channel(s, slot(0x2100, 1, 8))} {
			before := stateOf(d)
			if e := image.Fall(d, x); e != api.ErrForm || !before.is(stateOf(d)) {
				t.Fatal(sub, e)
			}
			if image.IsSafe(d, x) {
				t.Fatal(sub)
			}
		}
		hold(t, d, channel(s), "\x04", safe)
	}
	x := channel(slot(0x3000, 3, 8))
	if e := image.Fall(d, x); e != api.OK {
		t.Fatal(e)
	}
	hold(t, d, x, "\x09", "\x09")
}

// Safe values that are mapped themselves: each entry gets the one that it had ahead of that.
func TestFallOfSafeValues(t *testing.T) {
	d := laid(t)
	for i, index := range []int{0x2000, 0x2100, 0x2200} {
		put(t, d, key(index, 1), byte(1+i))
	}
	a, b, c := slot(0x2000, 1, 8), slot(0x2100, 1, 8), slot(0x2200, 1, 8)
	for _, l := range [][]api.Slot{{a, b, c}, {c, b, a}, {b, c, a}, {c, a, b}} {
		d := d.Fork()
		if e := image.Fall(d, channel(l...)); e != api.OK {
			t.Fatal(e)
		}
		holds(t, d, key(0x2000, 1), 2)
		holds(t, d, key(0x2100, 1), 3)
		holds(t, d, key(0x2200, 1), 0)
	}
}

// P3: what is handed in stays as it is, and is not kept; what is answered is new memory.
func TestMemory(t *testing.T) {
	d := laid(t)
	put(t, d, key(0x2200, 2), 7, 8)
	x := outputs(2)
	b := []byte{1, 2, 77}
	if e := image.Release(d, x, b[:2]); e != api.OK || string(b) != "\x01\x02\x4d" {
		t.Fatal(b, e)
	}
	clear(b)
	hold(t, d, x, "\x01\x02", "\x07\x08")
	value, _ := image.Value(d, x)
	safe, _ := image.Safe(d, x)
	clear(value)
	clear(safe)
	hold(t, d, x, "\x01\x02", "\x07\x08")
}

// some is a channel of some of the image's entries, each once, none of which is another one's safe value.
func some(r *rand.Rand) api.Channel {
	var l []api.Slot
	for _, i := range r.Perm(12)[:r.Intn(9)] {
		index := []int{0x2100, 0x4000}[i/6]
		l = append(l, slot(index, 1+i%6, bits(1+i%6)))
	}
	return channel(l...)
}

// anyNumber gives each entry that may hold numbers some number.
func anyNumber(r *rand.Rand, d *dict.Dict) {
	for k := range d.Keys() {
		if s, _ := d.Spec(k); s.Kind != api.Text {
			d.Set(k, s.Low+r.Int63n(s.High-s.Low+1))
		}
	}
}

// P32.3, P32.4: what was released is the value, what has fallen is safe, and no other entries change.
func TestAnything(t *testing.T) {
	r := rand.New(rand.NewSource(32))
	d := laid(t)
	for i, row := range table()[:6] {
		add(t, d, key(0x4000, row.key.Sub), row.spec)
		if i%2 == 0 { // some have safe values
			add(t, d, key(0x4100, row.key.Sub), row.spec)
		}
	}
	fits := 0
	for range 3000 {
		anyNumber(r, d)
		x := some(r)
		l := x.Map[:x.N]
		if pmap.Check(d, l...) != api.Fine {
			refused(t, d, x)
			continue
		}
		fits++
		other := d.Fork()
		anyNumber(r, other)
		b, _ := pmap.Pack(other, l...)
		safe := ""
		fallen, released := stateOf(d), stateOf(d)
		for _, s := range l {
			held := strings.Repeat("\x00", s.Bits/8)
			if is, there := d.Raw(key(s.Key.Index+0x100, s.Key.Sub)); there {
				held = string(is)
			}
			safe += held
			fallen.held[s.Key] = held
			is, _ := other.Raw(s.Key)
			released.held[s.Key] = string(is)
		}
		steps := []func(){func() {
			if e := image.Release(d, x, b); e != api.OK || !maps.Equal(stateOf(d).held, released.held) {
				t.Fatal(x, b, e)
			}
			hold(t, d, x, string(b), safe)
		}, func() {
			if e := image.Fall(d, x); e != api.OK || !maps.Equal(stateOf(d).held, fallen.held) {
				t.Fatal(x, e)
			}
			hold(t, d, x, safe, safe)
		}}
		for _, i := range []int{0, 1, 1, 0, 0, 1}[r.Intn(2):] {
			steps[i]()
		}
	}
	if fits < 1000 {
		t.Fatal(fits)
	}
}

// The order in which slots stand is the one in which bytes do, in all orders.
func TestOrders(t *testing.T) {
	d := laid(t)
	for sub, b := range map[int]string{1: "a", 2: "bc", 4: "de", 6: "f"} {
		put(t, d, key(0x2200, sub), []byte(b)...)
	}
	for _, subs := range [][]int{{1, 2, 4, 6}, {6, 4, 2, 1}, {4, 1, 6, 2}} {
		want := ""
		for _, sub := range subs {
			want += map[int]string{1: "a", 2: "bc", 4: "de", 6: "f"}[sub]
		}
		x := outputs(subs...)
		if e := image.Release(d, x, make([]byte, 6)); e != api.OK {
			t.Fatal(e)
		}
		hold(t, d, x, "\x00\x00\x00\x00\x00\x00", want)
		b := []byte(want)
		slices.Reverse(b)
		if e := image.Release(d, x, b); e != api.OK {
			t.Fatal(e)
		}
		hold(t, d, x, string(b), want)
	}
}
