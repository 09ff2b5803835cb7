package pair_test

import (
	"bytes"
	"math"
	"math/rand"
	"slices"
	"testing"

	"tripwire/api"
	"tripwire/frame"
	"tripwire/pair"
)

// The calls have just these signatures.
var (
	_ func(int, int, []byte) ([]api.Frame, api.Errno) = pair.Make
	_ func([]byte, []byte) bool                       = pair.Like
	_ func([]byte, []byte) int                        = pair.Unlike
	_ func(api.Told) api.Cause                        = pair.Cause
	_ func(int) (*pair.Check, api.Errno)              = pair.New
	_ func(*pair.Check, []byte) api.Told              = (*pair.Check).Plain
	_ func(*pair.Check, []byte) api.Told              = (*pair.Check).Turned
	_ func(*pair.Check) bool                          = (*pair.Check).Half
	_ func(*pair.Check) []byte                        = (*pair.Check).Value
	_ func(*pair.Check)                               = (*pair.Check).Clear
	_ func(*pair.Check) *pair.Check                   = (*pair.Check).Fork
)

// turned is bytes with each bit turned, reckoned in another way.
func turned(b []byte) []byte {
	l := []byte{}
	for _, x := range b {
		l = append(l, 255-x)
	}
	return l
}

// some is n bytes.
func some(r *rand.Rand, n int) []byte {
	b := make([]byte, n)
	r.Read(b)
	return b
}

// checker is one of a size.
func checker(t *testing.T, size int) *pair.Check {
	t.Helper()
	c, e := pair.New(size)
	if c == nil || e != api.OK {
		t.Fatal(size, e)
	}
	return c
}

// stands: whether it waits for the turned one, and its value (nil: none).
func stands(t *testing.T, c *pair.Check, half bool, value []byte) {
	t.Helper()
	for range 2 {
		if got := c.Value(); c.Half() != half || !bytes.Equal(got, value) {
			t.Fatalf("half %v, the value %v; not %v, %v", c.Half(), got, half, value)
		}
	}
}

// plain and flipped: what a frame tells.
func plain(t *testing.T, c *pair.Check, b []byte, want api.Told) {
	t.Helper()
	if got := c.Plain(b); got != want {
		t.Fatalf("Plain(%v): %d, not %d", b, got, want)
	}
}

func flipped(t *testing.T, c *pair.Check, b []byte, want api.Told) {
	t.Helper()
	if got := c.Turned(b); got != want {
		t.Fatalf("Turned(%v): %d, not %d", b, got, want)
	}
}

// numbers are small ones, and such as are like them in their low bits.
func numbers() []int {
	var l []int
	for i := -20; i <= 20; i++ {
		l = append(l, i)
	}
	return append(l, 255, 256, 257, 264, -255, -256, 1<<16+1, 1<<31, 1<<32, 1<<32+1, 1<<32+8, math.MinInt32, math.MaxInt32, math.MinInt, math.MinInt+1, math.MaxInt)
}

// The document's example.
func TestExample(t *testing.T) {
	l, e := pair.Make(0x101, 0x102, []byte{5})
	if e != api.OK || len(l) != 2 {
		t.Fatal(l, e)
	}
	one, _ := frame.Text(l[0])
	two, _ := frame.Text(l[1])
	if one != "101#05" || two != "102#FA" {
		t.Fatal(one, two)
	}
}

// P27.1: of all lengths and identifiers that may be; both frames, in this order.
func TestMake(t *testing.T) {
	r := rand.New(rand.NewSource(271))
	ids := []int{0, 1, 2, 0x7f, 0x80, 0x101, 0x102, 0x17f, 0x180, api.MaxId - 1, api.MaxId}
	for n := 1; n <= 8; n++ {
		for _, b := range [][]byte{make([]byte, n), bytes.Repeat([]byte{255}, n), some(r, n), some(r, n)} {
			for _, one := range ids {
				for _, two := range ids {
					l, e := pair.Make(one, two, b)
					first, second := api.Frame{Id: one, Len: n}, api.Frame{Id: two, Len: n}
					copy(first.Data[:], b)
					copy(second.Data[:], turned(b))
					if e != api.OK || !slices.Equal(l, []api.Frame{first, second}) {
						t.Fatal(one, two, b, l, e)
					}
				}
			}
		}
	}
}

// P27.1, P2: the length is looked at first, then the identifiers.
func TestMakeErrors(t *testing.T) {
	ids := []int{-1, -2, api.MaxId + 1, api.MaxId + 2, 1 << 16, 1 << 32, 1<<32 + 5, math.MinInt, math.MinInt + 5, math.MaxInt}
	for n := range 30 {
		b := make([]byte, n)
		long := n < 1 || n > 8
		for _, id := range append(ids, 0, 5, api.MaxId) {
			l, e := pair.Make(id, 6, b)
			k, f := pair.Make(6, id, b)
			want := api.OK
			switch {
			case long:
				want = api.ErrLen
			case id < 0 || id > api.MaxId:
				want = api.ErrRange
			}
			if e != want || f != want || len(l) != len(k) || len(l) > 0 != (want == api.OK) {
				t.Fatal(n, id, l, e, k, f)
			}
			if want == api.ErrRange { // both
				if l, e := pair.Make(id, id, b); e != want || len(l) > 0 {
					t.Fatal(n, id, l, e)
				}
			}
		}
	}
	for _, n := range []int{255, 256, 257, 264, 1<<16 + 1} {
		if l, e := pair.Make(1, 2, make([]byte, n)); e != api.ErrLen || len(l) > 0 {
			t.Fatal(n, l, e)
		}
	}
	if l, e := pair.Make(1, 2, nil); e != api.ErrLen || len(l) > 0 {
		t.Fatal(l, e)
	}
	if l, e := pair.Make(-1, -1, nil); e != api.ErrLen || len(l) > 0 {
		t.Fatal(l, e)
	}
}

// P27.1: all pairs of single bytes.
func TestLikeBytes(t *testing.T) {
	for x := range 256 {
		for y := range 256 {
			a, b := []byte{byte(x)}, []byte{byte(y)}
			n := 0
			for i := range 8 {
				if x>>i&1 == y>>i&1 {
					n++
				}
			}
			if got := pair.Unlike(a, b); got != n || pair.Like(a, b) != (n == 0) || (n == 0) != (x+y == 255) {
				t.Fatal(x, y, got, pair.Like(a, b))
			}
		}
	}
}

// P27.1: longer rows, of the same length and of others; the longer one's end is not looked at by Unlike.
func TestLikeRows(t *testing.T) {
	r := rand.New(rand.NewSource(272))
	for range 2000 {
		a := some(r, r.Intn(20))
		b := turned(a)
		if !pair.Like(a, b) || !pair.Like(b, a) || pair.Unlike(a, b) != 0 {
			t.Fatal(a)
		}
		n := 0
		for i := range b {
			for bit := range 8 {
				if r.Intn(12) == 0 {
					b[i] ^= 1 << bit
					n++
				}
			}
		}
		if pair.Like(a, b) != (n == 0) || pair.Unlike(a, b) != n || pair.Unlike(b, a) != n {
			t.Fatal(a, b, n)
		}
		more := append(slices.Clone(b), some(r, 1+r.Intn(9))...)
		if pair.Like(a, more) || pair.Like(more, a) || pair.Unlike(a, more) != n || pair.Unlike(more, a) != n {
			t.Fatal(a, more, n)
		}
	}
}

// P27.1: rows without bytes, and long ones.
func TestLikeEdges(t *testing.T) {
	none := []byte{}
	for _, x := range [][2][]byte{{nil, nil}, {nil, none}, {none, nil}, {none, none}} {
		if !pair.Like(x[0], x[1]) || pair.Unlike(x[0], x[1]) != 0 {
			t.Fatal("rows without bytes")
		}
	}
	if pair.Like(nil, []byte{255}) || pair.Like([]byte{0}, nil) || pair.Unlike(nil, []byte{0}) != 0 || pair.Unlike([]byte{1}, none) != 0 {
		t.Fatal("of one row without bytes")
	}
	long := bytes.Repeat([]byte{1, 2, 3}, 50000)
	if !pair.Like(long, turned(long)) || pair.Like(long, long) || pair.Unlike(long, long) != 8*len(long) {
		t.Fatal("long rows")
	}
	if pair.Like(long, turned(long)[1:]) || pair.Like(long[:5], turned(long)) {
		t.Fatal("long rows of other lengths")
	}
}

// P27.1: of each number that Told may be.
func TestCause(t *testing.T) {
	for _, n := range numbers() {
		want := api.NoCause
		switch api.Told(n) {
		case api.ToldOrder:
			want = api.CauseOrder
		case api.ToldLen:
			want = api.CauseLen
		case api.ToldUnlike:
			want = api.CauseUnlike
		}
		if got := pair.Cause(api.Told(n)); got != want {
			t.Fatal(n, got)
		}
	}
}

// P27.2: of each number; a new one waits for the plain frame, and has no value.
func TestNew(t *testing.T) {
	for _, n := range numbers() {
		c, e := pair.New(n)
		if n < 1 || n > 8 {
			if c != nil || e != api.ErrArg {
				t.Fatal(n, c, e)
			}
			continue
		}
		if c == nil || e != api.OK {
			t.Fatal(n, c, e)
		}
		stands(t, c, false, nil)
		flipped(t, c, make([]byte, n), api.ToldOrder)
		stands(t, c, false, nil)
	}
}

// P27.2: one behind the other, in both orders.
func TestOrder(t *testing.T) {
	r := rand.New(rand.NewSource(273))
	for n := 1; n <= 8; n++ {
		c, a, b := checker(t, n), some(r, n), some(r, n)
		plain(t, c, a, api.ToldFirst)
		stands(t, c, true, nil)
		flipped(t, c, turned(a), api.ToldGood)
		stands(t, c, false, a)
		flipped(t, c, turned(a), api.ToldOrder) // once more
		stands(t, c, false, a)
		plain(t, c, b, api.ToldFirst)
		stands(t, c, true, a)
		plain(t, c, b, api.ToldOrder)
		stands(t, c, false, a)
		flipped(t, c, turned(b), api.ToldOrder) // the second plain one is not waited behind
		plain(t, c, b, api.ToldFirst)
		plain(t, c, a, api.ToldOrder)
		plain(t, c, a, api.ToldFirst)
		flipped(t, c, turned(b), api.ToldUnlike)
		stands(t, c, false, a)
		flipped(t, c, turned(a), api.ToldOrder)
		plain(t, c, b, api.ToldFirst)
		flipped(t, c, turned(b), api.ToldGood)
		stands(t, c, false, b)
	}
}

// P27.2, P2: the length is looked at first, in both states; then it waits for the plain one.
func TestLength(t *testing.T) {
	r := rand.New(rand.NewSource(274))
	for size := 1; size <= 8; size++ {
		a := some(r, size)
		for _, n := range []int{0, 1, 2, 3, 4, 5, 6, 7, 8, 9, 10, 16, 256, 256 + size, 1<<16 + size} {
			if n == size {
				continue
			}
			b := append(slices.Clone(a), make([]byte, n)...)[:n]
			c := checker(t, size)
			for range 2 { // without a value, and with one
				value := c.Value()
				plain(t, c, b, api.ToldLen)
				flipped(t, c, turned(b), api.ToldLen)
				stands(t, c, false, value)
				plain(t, c, a, api.ToldFirst)
				plain(t, c, b, api.ToldLen)
				stands(t, c, false, value)
				flipped(t, c, turned(a), api.ToldOrder)
				plain(t, c, a, api.ToldFirst)
				flipped(t, c, turned(b), api.ToldLen)
				stands(t, c, false, value)
				flipped(t, c, turned(a), api.ToldOrder)
				plain(t, c, a, api.ToldFirst)
				flipped(t, c, turned(a), api.ToldGood)
				stands(t, c, false, a)
			}
			plain(t, c, nil, api.ToldLen)
			flipped(t, c, nil, api.ToldLen)
		}
	}
}

// P27.3: Clear in both states.
func TestClear(t *testing.T) {
	c, a, b := checker(t, 2), []byte{1, 2}, []byte{3, 4}
	c.Clear()
	stands(t, c, false, nil)
	plain(t, c, a, api.ToldFirst)
	c.Clear()
	stands(t, c, false, nil)
	flipped(t, c, turned(a), api.ToldOrder)
	plain(t, c, a, api.ToldFirst)
	flipped(t, c, turned(a), api.ToldGood)
	c.Clear()
	stands(t, c, false, a)
	plain(t, c, b, api.ToldFirst)
	c.Clear()
	c.Clear()
	stands(t, c, false, a)
	plain(t, c, b, api.ToldFirst)
	flipped(t, c, turned(b), api.ToldGood)
	stands(t, c, false, b)
}

// step is something that is done to a checker: P(lain), T(urned) with bytes, or C(lear).
type step struct {
	kind byte
	data string
}

// steps are such as tell all that may be told, of the size 2.
func steps() []step {
	return []step{
		{'P', "\x00\x01"}, {'P', "\xff\xfe"}, {'P', "\x00"}, {'P', "\x00\x01\x00"},
		{'T', "\xff\xfe"}, {'T', "\x00\x01"}, {'T', "\xff\xfe\xff"}, {'T', ""}, {'C', ""},
	}
}

// told is what the last of some steps tells, if it waits behind those ahead.
func told(x step, waits bool, ahead step) api.Told {
	switch {
	case x.kind == 'C':
		return api.ToldNothing
	case len(x.data) != 2:
		return api.ToldLen
	case waits != (x.kind == 'T'):
		return api.ToldOrder
	case x.kind == 'P':
		return api.ToldFirst
	case x.data != string(turned([]byte(ahead.data))):
		return api.ToldUnlike
	}
	return api.ToldGood
}

// P27.2, P27.3, P27.5: all rows of five steps; told from what was done and told ahead.
func TestAllRows(t *testing.T) {
	const length = 5
	all := steps()
	rows := 1
	for range length {
		rows *= len(all)
	}
	for row := range rows {
		c, ahead, waits, value := checker(t, 2), step{}, false, []byte(nil)
		for range length {
			x := all[row%len(all)]
			row /= len(all)
			got := api.ToldNothing
			switch x.kind {
			case 'P':
				got = c.Plain([]byte(x.data))
			case 'T':
				got = c.Turned([]byte(x.data))
			default:
				c.Clear()
			}
			if want := told(x, waits, ahead); got != want {
				t.Fatalf("%v behind %v: %d, not %d", x, ahead, got, want)
			}
			if got == api.ToldGood {
				value = []byte(ahead.data)
			}
			ahead, waits = x, got == api.ToldFirst
			stands(t, c, waits, value)
		}
	}
}

// P27.4: what was made is good, whatever came ahead that was whole; and its value is what it was made of.
func TestMadeIsGood(t *testing.T) {
	r := rand.New(rand.NewSource(275))
	for size := 1; size <= 8; size++ {
		c := checker(t, size)
		for range 300 {
			b := some(r, size)
			l, e := pair.Make(0x101, 0x102, b)
			if e != api.OK {
				t.Fatal(e)
			}
			plain(t, c, frame.Bytes(l[0]), api.ToldFirst)
			flipped(t, c, frame.Bytes(l[1]), api.ToldGood)
			stands(t, c, false, b)
		}
	}
}

// P27.4: bits of one of both frames are turned: it is told, and the value stays.
func TestTurnedBits(t *testing.T) {
	r := rand.New(rand.NewSource(276))
	for size := 1; size <= 8; size++ {
		b, old := some(r, size), some(r, size)
		for at := range size {
			for bits := 1; bits < 256; bits++ {
				spoilt, whole := slices.Clone(b), turned(b)
				spoilt[at] ^= byte(bits)
				c := checker(t, size)
				for _, value := range [][]byte{nil, old} {
					plain(t, c, spoilt, api.ToldFirst)
					flipped(t, c, whole, api.ToldUnlike)
					stands(t, c, false, value)
					plain(t, c, b, api.ToldFirst)
					flipped(t, c, turned(spoilt), api.ToldUnlike)
					stands(t, c, false, value)
					plain(t, c, old, api.ToldFirst)
					flipped(t, c, turned(old), api.ToldGood)
				}
			}
		}
	}
	for range 2000 { // of more than one byte
		b := some(r, 1+r.Intn(8))
		spoilt := some(r, len(b))
		if bytes.Equal(b, spoilt) {
			continue
		}
		c := checker(t, len(b))
		plain(t, c, spoilt, api.ToldFirst)
		flipped(t, c, turned(b), api.ToldUnlike)
		stands(t, c, false, nil)
	}
}

// P27.5: whatever comes, good is told of a turned one behind its plain one alone.
func TestAnyFrames(t *testing.T) {
	r := rand.New(rand.NewSource(277))
	good := 0
	for range 400 {
		c := checker(t, 1)
		var came []step
		value := []byte(nil)
		for range 60 {
			x := step{"PT"[r.Intn(2)], string([]byte{byte(r.Intn(2) * 255)}[:1-r.Intn(9)/8])}
			got := api.ToldNothing
			if x.kind == 'P' {
				got = c.Plain([]byte(x.data))
			} else {
				got = c.Turned([]byte(x.data))
			}
			if got == api.ToldGood {
				good++
				y := came[len(came)-1]
				if x.kind != 'T' || y.kind != 'P' || !bytes.Equal(turned([]byte(y.data)), []byte(x.data)) {
					t.Fatal(y, x)
				}
				value = []byte(y.data)
			}
			came = append(came, x)
			stands(t, c, got == api.ToldFirst, value)
		}
	}
	if good < 1000 {
		t.Fatal(good)
	}
}

// P3: what is handed in stays, and is not kept; what is answered is new.
func TestMemory(t *testing.T) {
	room := []byte{1, 2, 3, 0xc7, 0xc7, 0xc7, 0xc7, 0xc7, 0xc7}
	other := []byte{254, 253, 252, 0xc7, 0xc7, 0xc7}
	keep, keepOther := slices.Clone(room), slices.Clone(other)
	c := checker(t, 3)
	one, _ := pair.Make(5, 6, room[:3])
	two, _ := pair.Make(5, 6, room[:3])
	pair.Like(room[:3], other[:3])
	pair.Unlike(room[:3], other[:3])
	plain(t, c, room[:3], api.ToldFirst)
	mine := slices.Clone(room)
	clear(room) // it is not kept
	flipped(t, c, other[:3], api.ToldGood)
	if !bytes.Equal(mine, keep) || !bytes.Equal(other, keepOther) {
		t.Fatal("what was handed in is changed")
	}
	clear(other)
	stands(t, c, false, keep[:3])
	v, w := c.Value(), c.Value()
	clear(v[:cap(v)])
	if !bytes.Equal(w, keep[:3]) {
		t.Fatal("one answer lies in another one")
	}
	stands(t, c, false, keep[:3])
	clear(one[:cap(one)])
	if two[0].Data[0] != 1 || two[1].Data[0] != 254 {
		t.Fatal("one answer lies in another one")
	}
}

// P27.3, P4: a fork stands alike, and neither is changed by what becomes of the other one.
func TestFork(t *testing.T) {
	a, b := []byte{1, 2}, []byte{3, 4}
	c := checker(t, 2)
	stands(t, c.Fork(), false, nil)
	plain(t, c, a, api.ToldFirst)
	f := c.Fork()
	if f == c {
		t.Fatal("the same")
	}
	stands(t, f, true, nil)
	flipped(t, f, turned(a), api.ToldGood)
	stands(t, c, true, nil)
	stands(t, f, false, a)
	c.Clear()
	stands(t, f, false, a)
	plain(t, f, b, api.ToldFirst)
	stands(t, c, false, nil)
	g := f.Fork()
	stands(t, g, true, a)
	clear(g.Value())
	flipped(t, g, turned(b), api.ToldGood)
	stands(t, g, false, b)
	stands(t, f, true, a)
	plain(t, f, []byte{9}, api.ToldLen) // it is of the same size
	plain(t, g, []byte{9}, api.ToldLen)
	stands(t, f, false, a)
	stands(t, g, false, b)
}

// P6: two checkers have nothing in common.
func TestApart(t *testing.T) {
	x, y := checker(t, 1), checker(t, 1)
	plain(t, x, []byte{1}, api.ToldFirst)
	stands(t, y, false, nil)
	plain(t, y, []byte{2}, api.ToldFirst)
	flipped(t, x, []byte{254}, api.ToldGood)
	flipped(t, y, []byte{253}, api.ToldGood)
	stands(t, x, false, []byte{1})
	stands(t, y, false, []byte{2})
}

// P27.3, P1: a nil checker.
func TestNil(t *testing.T) {
	var c *pair.Check
	for n := range 10 {
		plain(t, c, make([]byte, n), api.ToldNothing)
		flipped(t, c, make([]byte, n), api.ToldNothing)
	}
	plain(t, c, nil, api.ToldNothing)
	flipped(t, c, nil, api.ToldNothing)
	c.Clear()
	stands(t, c, false, nil)
	if c.Fork() != nil {
		t.Fatal("a fork of nil")
	}
}

// P1: no call made it, and nothing panics.
func TestNoCallMadeIt(t *testing.T) {
	for n := range 10 {
		c := &pair.Check{}
		c.Plain(make([]byte, n))
		c.Half()
		c.Turned(make([]byte, n))
		c.Value()
		c.Clear()
		c.Fork().Turned(nil)
	}
}
