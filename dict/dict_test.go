package dict_test

import (
	"bytes"
	"iter"
	"maps"
	"math"
	"math/rand"
	"slices"
	"testing"

	"tripwire/api"
	"tripwire/dict"
)

// The calls have just these signatures.
var (
	_ func() *dict.Dict                                     = dict.New
	_ func(*dict.Dict, api.Key, api.Spec, []byte) api.Errno = (*dict.Dict).Add
	_ func(*dict.Dict, api.Key) ([]byte, api.Abort)         = (*dict.Dict).Read
	_ func(*dict.Dict, api.Key, []byte) api.Abort           = (*dict.Dict).Write
	_ func(*dict.Dict, api.Key) ([]byte, bool)              = (*dict.Dict).Raw
	_ func(*dict.Dict, api.Key, []byte) api.Errno           = (*dict.Dict).Put
	_ func(*dict.Dict, api.Key) (int64, bool)               = (*dict.Dict).Num
	_ func(*dict.Dict, api.Key, int64) api.Errno            = (*dict.Dict).Set
	_ func(*dict.Dict, api.Key) (api.Spec, bool)            = (*dict.Dict).Spec
	_ func(*dict.Dict) iter.Seq[api.Key]                    = (*dict.Dict).Keys
	_ func(*dict.Dict, int) iter.Seq[int]                   = (*dict.Dict).Subs
	_ func(*dict.Dict) int                                  = (*dict.Dict).Len
	_ func(*dict.Dict) int                                  = (*dict.Dict).Changes
	_ func(*dict.Dict) *dict.Dict                           = (*dict.Dict).Fork
)

// The reasons, as the numbers that api gives them.
const (
	writeOnly = 0x06010001
	readOnly  = 0x06010002
	noObject  = 0x06020000
	noSub     = 0x06090011
	short     = 0x06070013
	long      = 0x06070012
	noValue   = 0x06090030
	high      = 0x06090031
	low       = 0x06090032
)

// key is a name.
func key(index, sub int) api.Key { return api.Key{Index: index, Sub: sub} }

// number is a spec of numbers, text one of texts.
func number(k api.Kind, a api.Access, from, to int64) api.Spec {
	return api.Spec{Kind: k, Access: a, Low: from, High: to}
}

func text(a api.Access, from, to int64) api.Spec {
	return api.Spec{Kind: api.Text, Access: a, Low: from, High: to}
}

// names that are none.
func noNames() []api.Key {
	return []api.Key{
		{}, key(0, 1), key(-1, 0), key(65536, 0), key(65537, 1), key(1, -1), key(1, 256), key(1, 257), key(0, 256), key(0x2000, -256),
		key(0x2000, 256), key(0x1fff, 257), key(0x2001, -255), key(0x2000, 1<<32), key(0x2000, 1<<32+1), key(1<<56+0x2000, 1), key(1<<55, 1), key(0x2000+1<<32, 1), key(-0x2000, 1),
		key(math.MaxInt, 0), key(math.MaxInt, math.MaxInt), key(math.MinInt, 0), key(math.MinInt, math.MinInt), key(0x2000, math.MinInt), key(0x2000, math.MaxInt),
		key(0, 0x200001), key(-1, 0x200101),
	}
}

// some has entries of each access, and of texts.
func some(t *testing.T) *dict.Dict {
	t.Helper()
	d := dict.New()
	for _, x := range []struct {
		k     api.Key
		s     api.Spec
		first []byte
	}{
		{key(0x2000, 4), number(api.U8, api.Constant, 0, 9), []byte{8}},
		{key(0x2000, 1), number(api.U8, api.ReadWrite, 2, 9), []byte{5}},
		{key(0x2000, 2), number(api.U16, api.ReadOnly, 0, 300), []byte{2, 1}},
		{key(0x2000, 3), number(api.I8, api.WriteOnly, -5, 5), []byte{0xfe}},
		{key(0x2000, 7), text(api.ReadWrite, 0, 4), []byte("ab")},
		{key(0x2000, 9), text(api.Constant, 0, 4), []byte("c")},
		{key(0x2002, 0), number(api.Bool, api.ReadWrite, 0, 1), nil},
		{key(1, 0), number(api.U32, api.ReadWrite, 0, 1<<32-1), nil},
		{key(65535, 255), number(api.I16, api.ReadWrite, -300, 300), nil},
		{key(1, 255), text(api.WriteOnly, 1, 2), nil},
	} {
		if e := d.Add(x.k, x.s, x.first); e != api.OK {
			t.Fatal(x.k, e)
		}
	}
	return d
}

// held is what an entry is and holds.
type held struct {
	spec api.Spec
	has  string
}

// all is all that a dictionary holds.
func all(t *testing.T, d *dict.Dict) map[api.Key]held {
	t.Helper()
	l := map[api.Key]held{}
	for k := range d.Keys() {
		b, there := d.Raw(k)
		s, is := d.Spec(k)
		if !there || !is {
			t.Fatal(k, "is not there")
		}
		l[k] = held{s, string(b)}
	}
	return l
}

// The document's example.
func TestExample(t *testing.T) {
	d := dict.New()
	if e := d.Add(key(0x2000, 1), number(api.U8, api.ReadWrite, 0, 9), []byte{5}); e != api.OK {
		t.Fatal(e)
	}
	if b, a := d.Read(key(0x2000, 1)); a != api.Fine || !bytes.Equal(b, []byte{5}) {
		t.Fatal(b, a)
	}
	if a := d.Write(key(0x2000, 1), []byte{0x0a}); a != api.AbHigh {
		t.Fatal(a)
	}
	if a := d.Write(key(0x2000, 2), []byte{1}); a != api.AbNoSub {
		t.Fatal(a)
	}
	if a := d.Write(key(0x2001, 0), []byte{1}); a != api.AbNoObject {
		t.Fatal(a)
	}
}

// P14.1: one without entries.
func TestNew(t *testing.T) {
	d := dict.New()
	if d.Len() != 0 || d.Changes() != 0 || len(slices.Collect(d.Keys())) != 0 || len(slices.Collect(d.Subs(1))) != 0 {
		t.Fatal("it has something")
	}
	if _, a := d.Read(key(1, 0)); a != noObject {
		t.Fatal(a)
	}
}

// P14.1: the names that there are, and others.
func TestAddNames(t *testing.T) {
	s := number(api.U8, api.ReadWrite, 0, 9)
	for _, k := range []api.Key{key(1, 0), key(1, 255), key(65535, 0), key(65535, 255), key(0x1fff, 255), key(0x2000, 0), key(0x2000, 128)} {
		d := dict.New()
		if e := d.Add(k, s, []byte{7}); e != api.OK || d.Len() != 1 {
			t.Fatal(k, e)
		}
		if b, there := d.Raw(k); !there || !bytes.Equal(b, []byte{7}) {
			t.Fatal(k, b)
		}
	}
	d := some(t)
	want := all(t, d)
	for _, k := range noNames() {
		if e := d.Add(k, s, []byte{7}); e != api.ErrArg {
			t.Fatal(k, e)
		}
	}
	if !maps.Equal(all(t, d), want) || d.Len() != len(want) {
		t.Fatal("something was added")
	}
}

// P14.1: what an entry holds at first.
func TestAddFirst(t *testing.T) {
	for _, x := range []struct {
		s     api.Spec
		first []byte
		want  []byte
		e     api.Errno
	}{
		{number(api.U16, api.ReadOnly, 10, 20), []byte{15, 0}, []byte{15, 0}, api.OK},
		{number(api.U16, api.ReadOnly, 10, 20), nil, []byte{10, 0}, api.OK},
		{number(api.U16, api.ReadOnly, 10, 20), []byte{}, []byte{10, 0}, api.OK},
		{number(api.I8, api.Constant, -20, -10), nil, []byte{0xf6}, api.OK},
		{number(api.I8, api.Constant, -20, 10), nil, []byte{0}, api.OK},
		{number(api.U16, api.ReadOnly, 10, 20), []byte{15}, nil, api.ErrFit},
		{number(api.U16, api.ReadOnly, 10, 20), []byte{15, 0, 0}, nil, api.ErrFit},
		{number(api.U16, api.ReadOnly, 10, 20), []byte{21, 0}, nil, api.ErrFit},
		{number(api.U16, api.ReadOnly, 10, 20), []byte{9, 0}, nil, api.ErrFit},
		{number(api.Bool, api.ReadOnly, 0, 1), []byte{2}, nil, api.ErrFit},
		{text(api.ReadWrite, 2, 4), nil, []byte{0, 0}, api.OK},
		{text(api.ReadWrite, 2, 4), []byte{}, []byte{0, 0}, api.OK},
		{text(api.ReadWrite, 2, 4), []byte("abcd"), []byte("abcd"), api.OK},
		{text(api.ReadWrite, 2, 4), []byte("a"), nil, api.ErrFit},
		{text(api.ReadWrite, 2, 4), []byte("abcde"), nil, api.ErrFit},
		{text(api.ReadWrite, 0, 4), nil, nil, api.OK}, // here no bytes fit
		{text(api.ReadWrite, 0, 0), nil, nil, api.OK},
		{text(api.ReadWrite, 64, 64), bytes.Repeat([]byte{255}, 64), bytes.Repeat([]byte{255}, 64), api.OK},
		{text(api.ReadWrite, 0, 65), nil, nil, api.ErrArg},
		{number(api.U8, api.NoAccess, 0, 9), []byte{5}, nil, api.ErrArg},
		{number(api.U8, 5, 0, 9), []byte{5}, nil, api.ErrArg},
		{number(api.NoKind, api.ReadWrite, 0, 9), []byte{5}, nil, api.ErrArg},
		{number(9, api.ReadWrite, 0, 9), nil, nil, api.ErrArg},
		{number(api.U8, api.ReadWrite, 9, 8), nil, nil, api.ErrArg},
		{number(api.U8, api.ReadWrite, 0, 256), []byte{5, 5}, nil, api.ErrArg},
	} {
		d := dict.New()
		e := d.Add(key(0x2000, 1), x.s, x.first)
		b, there := d.Raw(key(0x2000, 1))
		if e != x.e || there != (x.e == api.OK) || !bytes.Equal(b, x.want) {
			t.Fatal(x, e, there, b)
		}
		if s, is := d.Spec(key(0x2000, 1)); is != there || is && s != x.s || !is && s != (api.Spec{}) {
			t.Fatal(x, s, is)
		}
		if d.Changes() != 0 {
			t.Fatal("what is there at first is no change")
		}
	}
}

// full has as many entries as may be.
func full(t *testing.T) *dict.Dict {
	t.Helper()
	d := dict.New()
	for i := range 512 {
		k := key(65535-i*61%1000, i%256)
		if e := d.Add(k, number(api.U16, api.ReadWrite, 0, 999), []byte{byte(i), byte(i >> 8)}); e != api.OK {
			t.Fatal(i, e)
		}
	}
	return d
}

// P14.1: as many as may be, and no more.
func TestFull(t *testing.T) {
	d := full(t)
	if d.Len() != 512 {
		t.Fatal(d.Len())
	}
	s := number(api.U16, api.ReadWrite, 0, 999)
	if e := d.Add(key(1, 1), s, nil); e != api.ErrFull || d.Len() != 512 {
		t.Fatal(e)
	}
	for i := range 512 {
		k := key(65535-i*61%1000, i%256)
		if n, is := d.Num(k); n != int64(i) || !is {
			t.Fatal(k, n)
		}
		if e := d.Add(k, s, nil); e != api.ErrTwice { // ahead of ErrFull
			t.Fatal(e)
		}
	}
	if _, there := d.Raw(key(1, 1)); there {
		t.Fatal("it is there")
	}
}

// P14.1, P2: of several errors the one that is named first; nothing has changed then.
func TestAddErrors(t *testing.T) {
	d := full(t)
	var none *dict.Dict
	good, bad := number(api.U8, api.ReadWrite, 0, 9), number(api.U8, api.ReadWrite, 9, 0)
	there, new := key(65535, 0), key(1, 1)
	want := all(t, d)
	for _, x := range []struct {
		d     *dict.Dict
		k     api.Key
		s     api.Spec
		first []byte
		e     api.Errno
	}{
		{none, key(0, 0), bad, []byte{10}, api.ErrNil},
		{none, new, good, []byte{5}, api.ErrNil},
		{d, key(0, 0), bad, []byte{10}, api.ErrArg},
		{d, key(65535, 256), good, []byte{10}, api.ErrArg},
		{d, there, bad, []byte{10}, api.ErrArg},
		{d, there, good, []byte{10}, api.ErrFit},
		{d, new, good, []byte{10}, api.ErrFit},
		{d, there, good, []byte{5}, api.ErrTwice},
		{d, new, good, []byte{5}, api.ErrFull},
	} {
		if e := x.d.Add(x.k, x.s, x.first); e != x.e {
			t.Fatal(x.k, x.s, x.first, e)
		}
	}
	if !maps.Equal(all(t, d), want) || d.Changes() != 0 {
		t.Fatal("something has changed")
	}
}

// P14.2: what is read from outside.
func TestRead(t *testing.T) {
	d := some(t)
	for _, x := range []struct {
		k    api.Key
		want string
		a    api.Abort
	}{
		{key(0x2000, 1), "\x05", 0},
		{key(0x2000, 2), "\x02\x01", 0},
		{key(0x2000, 3), "", writeOnly},
		{key(0x2000, 4), "\x08", 0},
		{key(0x2000, 7), "ab", 0},
		{key(0x2000, 9), "c", 0},
		{key(0x2002, 0), "\x00", 0},
		{key(1, 0), "\x00\x00\x00\x00", 0},
		{key(65535, 255), "\x00\x00", 0},
		{key(1, 255), "", writeOnly},
		{key(0x2000, 0), "", noSub},
		{key(0x2000, 5), "", noSub},
		{key(0x2000, 255), "", noSub},
		{key(0x2002, 1), "", noSub},
		{key(65535, 0), "", noSub},
		{key(1, 254), "", noSub},
		{key(0x2001, 0), "", noObject},
		{key(0x1fff, 255), "", noObject},
		{key(2, 0), "", noObject},
		{key(65534, 255), "", noObject},
	} {
		if b, a := d.Read(x.k); string(b) != x.want || a != x.a {
			t.Fatalf("%v: % x, %x", x.k, b, a)
		}
		if a := d.Write(x.k, nil); a == 0 && x.k != key(0x2000, 7) || x.a == noSub && a != noSub || x.a == noObject && a != noObject {
			t.Fatalf("%v: %x", x.k, a)
		}
	}
	if d.Changes() != 1 { // of 2000h 7 alone
		t.Fatal(d.Changes())
	}
}

// P14.2: a Sub that no name has is none of an object that is there; an Index that none has is no object's.
func TestNoNames(t *testing.T) {
	d := some(t)
	want := all(t, d)
	for _, k := range noNames() {
		reason := api.Abort(noObject)
		if k.Index == 0x2000 || k.Index == 1 {
			reason = noSub
		}
		if b, a := d.Read(k); b != nil || a != reason {
			t.Fatalf("%v: % x, %x", k, b, a)
		}
		if a := d.Write(k, []byte{5}); a != reason {
			t.Fatalf("%v: %x", k, a)
		}
		if b, there := d.Raw(k); b != nil || there {
			t.Fatal(k, b)
		}
		if n, is := d.Num(k); n != 0 || is {
			t.Fatal(k, n)
		}
		if s, there := d.Spec(k); s != (api.Spec{}) || there {
			t.Fatal(k, s)
		}
		if e := d.Put(k, []byte{5}); e != api.ErrNone {
			t.Fatal(k, e)
		}
		if e := d.Set(k, 5); e != api.ErrNone {
			t.Fatal(k, e)
		}
	}
	if !maps.Equal(all(t, d), want) || d.Changes() != 0 {
		t.Fatal("something has changed")
	}
}

// P14.2, P14.5: what is written from outside; what is refused changes nothing.
func TestWrite(t *testing.T) {
	for _, x := range []struct {
		k api.Key
		b string
		a api.Abort
	}{
		{key(0x2000, 1), "\x02", 0},
		{key(0x2000, 1), "\x09", 0},
		{key(0x2000, 1), "\x0a", high},
		{key(0x2000, 1), "\x01", low},
		{key(0x2000, 1), "", short},
		{key(0x2000, 1), "\x05\x00", long},
		{key(0x2000, 2), "\x05\x00", readOnly},
		{key(0x2000, 2), "\x05", readOnly}, // ahead of what does not fit
		{key(0x2000, 3), "\xfb", 0},
		{key(0x2000, 3), "\xfa", low},
		{key(0x2000, 3), "\x06", high},
		{key(0x2000, 4), "\x05", readOnly},
		{key(0x2000, 4), "\x08", readOnly},
		{key(0x2000, 4), "\x80\x80", readOnly},
		{key(0x2000, 7), "", 0},
		{key(0x2000, 7), "\xff\x00\xfe\xfd", 0},
		{key(0x2000, 7), "abcde", long},
		{key(0x2000, 9), "d", readOnly},
		{key(0x2002, 0), "\x01", 0},
		{key(0x2002, 0), "\x02", noValue},
		{key(1, 255), "", short},
		{key(1, 255), "x", 0},
		{key(65535, 255), "\xd4\xfe", 0},
		{key(65535, 255), "\xd3\xfe", low},
		{key(0x2000, 5), "\x05", noSub},
		{key(0x2001, 1), "\x05", noObject},
	} {
		d := some(t)
		want := all(t, d)
		changes := 0
		if x.a == 0 {
			want[x.k] = held{want[x.k].spec, x.b}
			changes = 1
		}
		if a := d.Write(x.k, []byte(x.b)); a != x.a {
			t.Fatalf("%v, %q: %x", x.k, x.b, a)
		}
		if !maps.Equal(all(t, d), want) || d.Changes() != changes {
			t.Fatalf("%v, %q: %v, %d", x.k, x.b, all(t, d), d.Changes())
		}
	}
}

// P14.3, P14.5: what is put from within: to such as are read only from outside, too, but to none that is Constant.
func TestPut(t *testing.T) {
	for _, x := range []struct {
		k api.Key
		b string
		e api.Errno
	}{
		{key(0x2000, 1), "\x09", api.OK},
		{key(0x2000, 1), "\x0a", api.ErrFit},
		{key(0x2000, 1), "", api.ErrFit}, // no first value stands for it here
		{key(0x2000, 2), "\x2c\x01", api.OK},
		{key(0x2000, 2), "\x2d\x01", api.ErrFit},
		{key(0x2000, 2), "\x2c", api.ErrFit},
		{key(0x2000, 3), "\x05", api.OK},
		{key(0x2000, 4), "\x05", api.ErrState},
		{key(0x2000, 4), "\x08", api.ErrState},
		{key(0x2000, 4), "", api.ErrState}, // ahead of ErrFit
		{key(0x2000, 7), "", api.OK},
		{key(0x2000, 7), "abcd", api.OK},
		{key(0x2000, 7), "abcde", api.ErrFit},
		{key(0x2000, 9), "d", api.ErrState},
		{key(0x2002, 0), "\x02", api.ErrFit},
		{key(1, 255), "xy", api.OK},
		{key(0x2000, 5), "\x05", api.ErrNone},
		{key(0x2001, 0), "", api.ErrNone},
	} {
		d := some(t)
		want := all(t, d)
		changes := 0
		if x.e == api.OK {
			want[x.k] = held{want[x.k].spec, x.b}
			changes = 1
		}
		if e := d.Put(x.k, []byte(x.b)); e != x.e {
			t.Fatalf("%v, %q: %d", x.k, x.b, e)
		}
		if !maps.Equal(all(t, d), want) || d.Changes() != changes {
			t.Fatalf("%v, %q: %v, %d", x.k, x.b, all(t, d), d.Changes())
		}
	}
}

// P14.3, P14.5: numbers that are set from within.
func TestSet(t *testing.T) {
	for _, x := range []struct {
		k api.Key
		n int64
		e api.Errno
		b string
	}{
		{key(0x2000, 1), 9, api.OK, "\x09"},
		{key(0x2000, 1), 10, api.ErrFit, ""},
		{key(0x2000, 1), 1, api.ErrFit, ""},
		{key(0x2000, 1), 256 + 5, api.ErrFit, ""},
		{key(0x2000, 1), math.MaxInt64, api.ErrFit, ""},
		{key(0x2000, 1), math.MinInt64, api.ErrFit, ""},
		{key(0x2000, 2), 300, api.OK, "\x2c\x01"},
		{key(0x2000, 2), 301, api.ErrFit, ""},
		{key(0x2000, 3), -5, api.OK, "\xfb"},
		{key(0x2000, 3), -6, api.ErrFit, ""},
		{key(0x2000, 4), 5, api.ErrState, ""},
		{key(0x2000, 4), 8, api.ErrState, ""},
		{key(0x2000, 4), 10, api.ErrState, ""},
		{key(0x2000, 7), 2, api.ErrArg, ""},
		{key(0x2000, 7), 99, api.ErrArg, ""},
		{key(0x2000, 9), 1, api.ErrState, ""}, // ahead of ErrArg
		{key(0x2002, 0), 1, api.OK, "\x01"},
		{key(0x2002, 0), 2, api.ErrFit, ""},
		{key(1, 0), 1<<32 - 1, api.OK, "\xff\xff\xff\xff"},
		{key(1, 0), 1 << 32, api.ErrFit, ""},
		{key(1, 0), -1, api.ErrFit, ""},
		{key(65535, 255), -300, api.OK, "\xd4\xfe"},
		{key(0x2000, 5), 1, api.ErrNone, ""},
		{key(0x2001, 0), 1, api.ErrNone, ""},
	} {
		d := some(t)
		want := all(t, d)
		changes := 0
		if x.e == api.OK {
			want[x.k] = held{want[x.k].spec, x.b}
			changes = 1
		}
		if e := d.Set(x.k, x.n); e != x.e {
			t.Fatalf("%v, %d: %d", x.k, x.n, e)
		}
		if !maps.Equal(all(t, d), want) || d.Changes() != changes {
			t.Fatalf("%v, %d: %v, %d", x.k, x.n, all(t, d), d.Changes())
		}
		if n, is := d.Num(x.k); x.e == api.OK && (n != x.n || !is) {
			t.Fatalf("%v: %d", x.k, n)
		}
	}
}

// P14.3: which numbers entries hold, whoever may read them; a text is none.
func TestNum(t *testing.T) {
	d := some(t)
	for _, x := range []struct {
		k  api.Key
		n  int64
		is bool
	}{
		{key(0x2000, 1), 5, true},
		{key(0x2000, 2), 258, true},
		{key(0x2000, 3), -2, true},
		{key(0x2000, 4), 8, true},
		{key(0x2000, 7), 0, false},
		{key(0x2000, 9), 0, false},
		{key(0x2002, 0), 0, true},
		{key(1, 0), 0, true},
		{key(65535, 255), 0, true},
		{key(1, 255), 0, false},
		{key(0x2000, 5), 0, false},
		{key(0x2001, 0), 0, false},
	} {
		if n, is := d.Num(x.k); n != x.n || is != x.is {
			t.Fatal(x.k, n, is)
		}
	}
}

// P14.4: names in order, and the Subs of an object.
func TestKeysAndSubs(t *testing.T) {
	d := some(t)
	keys := []api.Key{key(1, 0), key(1, 255), key(0x2000, 1), key(0x2000, 2), key(0x2000, 3), key(0x2000, 4), key(0x2000, 7), key(0x2000, 9), key(0x2002, 0), key(65535, 255)}
	if got := slices.Collect(d.Keys()); !slices.Equal(got, keys) || d.Len() != len(keys) {
		t.Fatal(got)
	}
	for index, want := range map[int][]int{
		1: {0, 255}, 0x2000: {1, 2, 3, 4, 7, 9}, 0x2002: {0}, 65535: {255}, 0x2001: nil, 0x1fff: nil, 2: nil, 65534: nil,
		0: nil, -1: nil, 65536: nil, 0x12000: nil, 1<<32 + 1: nil, 1<<56 + 0x2000: nil, math.MaxInt: nil, math.MinInt: nil, -0x2000: nil,
	} {
		if got := slices.Collect(d.Subs(index)); !slices.Equal(got, want) {
			t.Fatal(index, got)
		}
	}
}

// P7: told as often as it is ranged over, each time from its beginning; who stops has it told no more.
func TestAgain(t *testing.T) {
	d := some(t)
	again(t, d.Keys())
	again(t, d.Subs(0x2000))
	again(t, d.Subs(1))
	again(t, d.Subs(7))
}

func again[T comparable](t *testing.T, seq iter.Seq[T]) {
	t.Helper()
	want := slices.Collect(seq)
	for stop := range want {
		got := []T{}
		seq(func(x T) bool {
			got = append(got, x)
			return len(got) <= stop
		})
		if !slices.Equal(got, want[:stop+1]) {
			t.Fatalf("stopped at %d: %v", stop, got)
		}
	}
	for range seq { // one within another
		if got := slices.Collect(seq); !slices.Equal(got, want) {
			t.Fatal(got)
		}
	}
}

// Entries may be written to, and others added, while names are ranged over; what is told is as it is when that begins.
func TestMeanwhile(t *testing.T) {
	d := some(t)
	keys := d.Keys()
	subs := d.Subs(0x2000)
	if e := d.Add(key(0x2000, 6), number(api.U8, api.ReadWrite, 0, 1), nil); e != api.OK {
		t.Fatal(e)
	}
	if n := len(slices.Collect(keys)); n != 11 {
		t.Fatal(n)
	}
	at := 20
	for range subs {
		d.Set(key(0x2000, 1), 9)
		if e := d.Add(key(0x2000, at), number(api.U8, api.ReadWrite, 0, 1), nil); e != api.OK {
			t.Fatal(e)
		}
		at++
	}
	if at != 27 || d.Len() != 18 {
		t.Fatal(at, d.Len())
	}
}

// P14.4: other bytes than an entry had are a change; the same ones are none.
func TestChanges(t *testing.T) {
	d := some(t)
	want := 0
	for i, step := range []struct {
		by int
		do func() bool
	}{
		{0, func() bool { return d.Write(key(0x2000, 1), []byte{5}) == api.Fine }},
		{1, func() bool { return d.Write(key(0x2000, 1), []byte{6}) == api.Fine }},
		{0, func() bool { return d.Write(key(0x2000, 1), []byte{6}) == api.Fine }},
		{0, func() bool { return d.Put(key(0x2000, 1), []byte{6}) == api.OK }},
		{0, func() bool { return d.Set(key(0x2000, 1), 6) == api.OK }},
		{1, func() bool { return d.Set(key(0x2000, 1), 5) == api.OK }},
		{1, func() bool { return d.Put(key(0x2000, 1), []byte{6}) == api.OK }},
		{1, func() bool { return d.Write(key(0x2000, 7), nil) == api.Fine }},
		{0, func() bool { return d.Put(key(0x2000, 7), []byte{}) == api.OK }},
		{1, func() bool { return d.Write(key(0x2000, 7), []byte{0}) == api.Fine }},
		{0, func() bool { return d.Write(key(0x2000, 1), []byte{10}) == api.AbHigh }},
		{0, func() bool { return d.Put(key(0x2000, 1), []byte{10}) == api.ErrFit }},
		{0, func() bool { return d.Set(key(0x2000, 4), 1) == api.ErrState }},
		{0, func() bool { return d.Add(key(0x3000, 4), text(api.ReadOnly, 0, 9), []byte("x")) == api.OK }},
	} {
		want += step.by
		if !step.do() || d.Changes() != want {
			t.Fatal(i, d.Changes(), want)
		}
	}
}

// P14.4, P4: a Fork stands alike, and what becomes of the one changes nothing of the other one.
func TestFork(t *testing.T) {
	one := some(t)
	one.Set(key(0x2000, 1), 7)
	two := one.Fork()
	if one == two || two.Changes() != 1 || two.Len() != one.Len() || !maps.Equal(all(t, one), all(t, two)) {
		t.Fatal("it does not stand alike")
	}
	before := all(t, one)
	two.Set(key(0x2000, 1), 8)
	two.Write(key(0x2000, 7), []byte("zz"))
	two.Put(key(0x2000, 2), []byte{1, 1})
	two.Add(key(0x2000, 5), number(api.U8, api.ReadWrite, 0, 9), nil)
	if !maps.Equal(all(t, one), before) || one.Changes() != 1 || one.Len() != 10 || two.Changes() != 4 || two.Len() != 11 {
		t.Fatal(all(t, one), one.Changes(), two.Changes())
	}
	after := all(t, two)
	one.Set(key(0x2000, 1), 2)
	one.Add(key(0x2000, 6), number(api.U8, api.ReadWrite, 0, 9), nil)
	one.Add(key(7, 7), number(api.U8, api.ReadWrite, 0, 9), nil)
	if !maps.Equal(all(t, two), after) || two.Changes() != 4 || two.Len() != 11 {
		t.Fatal(all(t, two))
	}
	if _, a := one.Read(key(0x2000, 5)); a != noSub {
		t.Fatal(a)
	}
	if _, a := two.Read(key(7, 7)); a != noObject {
		t.Fatal(a)
	}
	empty := dict.New().Fork()
	if e := empty.Add(key(1, 1), number(api.U8, api.ReadWrite, 0, 9), nil); e != api.OK || empty.Len() != 1 {
		t.Fatal(e)
	}
}

// P3: what is handed in stays as it is, and is not kept; what is answered is new memory.
func TestMemory(t *testing.T) {
	d := dict.New()
	k := key(0x2000, 1)
	b := []byte{1, 2, 77, 78}
	holds := func(want ...byte) {
		t.Helper()
		got, a := d.Read(k)
		if a != api.Fine || !bytes.Equal(got, want) {
			t.Fatal(got, a)
		}
		raw, _ := d.Raw(k)
		for i := range got {
			got[i], raw[i] = 99, 98
		}
		got, _ = d.Read(k)
		raw, _ = d.Raw(k)
		if !bytes.Equal(got, want) || !bytes.Equal(raw, want) {
			t.Fatal(got, raw)
		}
	}
	d.Add(k, text(api.ReadWrite, 1, 2), b[:2])
	b[0] = 3
	holds(1, 2)
	d.Write(k, b[:2])
	b[0] = 4
	holds(3, 2)
	d.Put(k, b[:1])
	b[0] = 5
	holds(4)
	if !bytes.Equal(b, []byte{5, 2, 77, 78}) {
		t.Fatal(b)
	}
	none := b[:0]
	d.Add(key(0x2000, 2), text(api.ReadWrite, 1, 2), none)
	if !bytes.Equal(b, []byte{5, 2, 77, 78}) {
		t.Fatal(b)
	}
}

// P1, P14.2 to P14.4: a nil dictionary.
func TestNil(t *testing.T) {
	var d *dict.Dict
	for _, k := range append(noNames(), key(0x2000, 1), key(1, 0)) {
		if b, a := d.Read(k); b != nil || a != noObject {
			t.Fatal(b, a)
		}
		if a := d.Write(k, []byte{1}); a != noObject {
			t.Fatal(a)
		}
		if b, there := d.Raw(k); b != nil || there {
			t.Fatal(b)
		}
		if d.Put(k, []byte{1}) != api.ErrNil || d.Set(k, 1) != api.ErrNil || d.Add(k, number(api.U8, api.ReadWrite, 0, 9), nil) != api.ErrNil {
			t.Fatal(k)
		}
		if n, is := d.Num(k); n != 0 || is {
			t.Fatal(n)
		}
		if s, is := d.Spec(k); s != (api.Spec{}) || is {
			t.Fatal(s)
		}
		for range d.Subs(k.Index) {
			t.Fatal("told")
		}
	}
	for range d.Keys() {
		t.Fatal("told")
	}
	if d.Len() != 0 || d.Changes() != 0 || d.Fork() != nil {
		t.Fatal("a nil dictionary has something")
	}
}

// P1: nothing panics of a dictionary that no call made.
func TestNoCallMadeIt(t *testing.T) {
	var d dict.Dict
	k := key(0x2000, 1)
	for range 2 {
		d.Read(k)
		d.Write(k, []byte{1})
		d.Raw(k)
		d.Put(k, []byte{1})
		d.Num(k)
		d.Set(k, 1)
		d.Spec(k)
		d.Keys()(func(api.Key) bool { return true })
		d.Subs(0x2000)(func(int) bool { return true })
		d.Len()
		d.Changes()
		d.Fork().Add(k, number(api.U8, api.ReadWrite, 0, 9), nil)
		d.Add(k, number(api.U8, api.ReadWrite, 0, 9), nil)
	}
}

// plain is what a dictionary should be, told without the package: of U8 entries, by their names.
type plain struct {
	l       map[api.Key]held
	changes int
}

// write is what should come of a Write of one byte.
func (p *plain) write(k api.Key, x byte) api.Abort {
	h, there := p.l[k]
	switch {
	case !there && !p.object(k.Index):
		return noObject
	case !there:
		return noSub
	case h.spec.Access == api.ReadOnly || h.spec.Access == api.Constant:
		return readOnly
	case int64(x) > h.spec.High:
		return high
	case int64(x) < h.spec.Low:
		return low
	}
	p.hold(k, x)
	return 0
}

// put is what should come of a Put, or a Set, of one byte.
func (p *plain) put(k api.Key, x byte) api.Errno {
	h, there := p.l[k]
	switch {
	case !there:
		return api.ErrNone
	case h.spec.Access == api.Constant:
		return api.ErrState
	case int64(x) > h.spec.High || int64(x) < h.spec.Low:
		return api.ErrFit
	}
	p.hold(k, x)
	return api.OK
}

func (p *plain) hold(k api.Key, x byte) {
	h := p.l[k]
	if h.has != string([]byte{x}) {
		p.changes++
	}
	p.l[k] = held{h.spec, string([]byte{x})}
}

// object: is there one of that Index?
func (p *plain) object(index int) bool {
	for k := range p.l {
		if k.Index == index {
			return true
		}
	}
	return false
}

// alike: is the dictionary what it should be?
func alike(t *testing.T, d *dict.Dict, p *plain) {
	t.Helper()
	if got := all(t, d); !maps.Equal(got, p.l) || d.Len() != len(p.l) || d.Changes() != p.changes {
		t.Fatalf("%v, not %v; %d changes, not %d", got, p.l, d.Changes(), p.changes)
	}
	inOrder := func(a, b api.Key) int {
		if a.Index != b.Index {
			return a.Index - b.Index
		}
		return a.Sub - b.Sub
	}
	keys := slices.Collect(d.Keys())
	if !slices.IsSortedFunc(keys, inOrder) {
		t.Fatal(keys)
	}
	for index := range 6 {
		want := []int{}
		for _, k := range keys {
			if k.Index == index {
				want = append(want, k.Sub)
			}
		}
		if got := slices.Collect(d.Subs(index)); !slices.Equal(got, want) {
			t.Fatal(index, got)
		}
	}
}

// P14.1 to P14.5, P4: whatever is done to dictionaries and their Forks, each entry holds what was written to it last, of what fits it.
func TestAnything(t *testing.T) {
	r := rand.New(rand.NewSource(14))
	for range 40 {
		ds, ps := []*dict.Dict{dict.New()}, []*plain{{l: map[api.Key]held{}}}
		for range 200 {
			at := r.Intn(len(ds))
			d, p := ds[at], ps[at]
			k, x := key(1+r.Intn(4), r.Intn(4)*85), byte(r.Intn(12))
			switch r.Intn(6) {
			case 0:
				s := number(api.U8, api.Access(1+r.Intn(4)), int64(r.Intn(4)), int64(4+r.Intn(7)))
				want := api.OK
				if _, there := p.l[k]; int64(x) < s.Low || int64(x) > s.High {
					want = api.ErrFit
				} else if there {
					want = api.ErrTwice
				} else {
					p.l[k] = held{s, string([]byte{x})}
				}
				if e := d.Add(k, s, []byte{x}); e != want {
					t.Fatal(k, s, x, e)
				}
			case 1, 2:
				want := p.write(k, x)
				if a := d.Write(k, []byte{x}); a != want {
					t.Fatalf("%v, %d: %x, not %x", k, x, a, want)
				}
			case 3:
				want := p.put(k, x)
				if e := d.Put(k, []byte{x}); e != want {
					t.Fatal(k, x, e)
				}
			case 4:
				want := p.put(k, x)
				if e := d.Set(k, int64(x)); e != want {
					t.Fatal(k, x, e)
				}
			case 5:
				if len(ds) < 3 {
					ds, ps = append(ds, d.Fork()), append(ps, &plain{maps.Clone(p.l), p.changes})
				}
			}
			for i := range ds {
				alike(t, ds[i], ps[i])
			}
		}
	}
}
