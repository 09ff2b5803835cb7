package word_test

import (
	"bytes"
	"math"
	"slices"
	"testing"

	"tripwire/api"
	"tripwire/word"
)

// The calls have just these signatures.
var (
	_ func(api.Kind) int                        = word.Size
	_ func(api.Kind) int64                      = word.Low
	_ func(api.Kind) int64                      = word.High
	_ func(api.Kind, int64) bool                = word.Fits
	_ func(api.Kind, int64) ([]byte, api.Errno) = word.Put
	_ func(api.Kind, []byte) (int64, api.Errno) = word.Get
	_ func([]byte) []byte                       = word.Flip
	_ func(*word.Writer, api.Kind, int64)       = (*word.Writer).Num
	_ func(*word.Writer, []byte)                = (*word.Writer).Raw
	_ func(*word.Writer) []byte                 = (*word.Writer).Bytes
	_ func(*word.Writer) api.Errno              = (*word.Writer).Err
	_ func([]byte) *word.Reader                 = word.New
	_ func(*word.Reader, api.Kind) int64        = (*word.Reader).Num
	_ func(*word.Reader, int) []byte            = (*word.Reader).Raw
	_ func(*word.Reader) int                    = (*word.Reader).Left
	_ func(*word.Reader) api.Errno              = (*word.Reader).Err
)

// row is what the document says of a kind.
type row struct {
	kind      api.Kind
	size      int
	low, high int64
}

func rows() []row {
	return []row{
		{api.Bool, 1, 0, 1},
		{api.U8, 1, 0, 255},
		{api.U16, 2, 0, 65535},
		{api.U32, 4, 0, 4294967295},
		{api.I8, 1, -128, 127},
		{api.I16, 2, -32768, 32767},
		{api.I32, 4, -2147483648, 2147483647},
	}
}

// others are kinds that are none of numbers.
func others() []api.Kind {
	return []api.Kind{api.NoKind, api.Text, 9, 10, 255, 256, 257, 1 << 16, 1 << 32, 1<<32 + 1, math.MaxInt, -1, -2, -7, -256, -255, math.MinInt}
}

// kinds are both.
func kinds() []api.Kind {
	l := others()
	for _, r := range rows() {
		l = append(l, r.kind)
	}
	return l
}

// bytesOf are a number's bytes, reckoned as the document says it.
func bytesOf(size int, n int64) []byte {
	l := []byte{}
	whole := int64(1)
	for range size {
		whole *= 256
	}
	left := ((n % whole) + whole) % whole
	for range size {
		l = append(l, byte(left%256))
		left /= 256
	}
	return l
}

// numbers are all of a kind's numbers, or of many those at the edges, and some between.
func numbers(r row) []int64 {
	var l []int64
	if r.size < 4 {
		for n := r.low; n <= r.high; n++ {
			l = append(l, n)
		}
		return l
	}
	for _, n := range []int64{r.low, 0, r.high, 1 << 7, 1 << 8, 1 << 15, 1 << 16, 1 << 24, 1 << 31, -1 << 7, -1 << 8, -1 << 15, -1 << 16, -1 << 24, 0x12345678, 0x80ff7f01, -0x12345678} {
		for d := int64(-3); d <= 3; d++ {
			if r.low <= n+d && n+d <= r.high {
				l = append(l, n+d)
			}
		}
	}
	return l
}

// misfits are numbers that are none of a kind's.
func misfits(r row) []int64 {
	l := []int64{r.low - 1, r.low - 2, r.high + 1, r.high + 2, math.MinInt64, math.MinInt64 + 1, math.MaxInt64, math.MaxInt64 - 1}
	for _, by := range []int64{1 << 8, 1 << 16, 1 << 32, 1 << 40, 1 << 62} {
		for _, n := range []int64{r.low - by, r.high + by, by + 1, -by - 1} {
			if n < r.low || n > r.high {
				l = append(l, n)
			}
		}
	}
	return l
}

// P2.1: sizes and edges; 0 of what is no kind of numbers.
func TestKinds(t *testing.T) {
	for _, r := range rows() {
		if s, l, h := word.Size(r.kind), word.Low(r.kind), word.High(r.kind); s != r.size || l != r.low || h != r.high {
			t.Fatalf("kind %d: %d bytes, %d to %d", r.kind, s, l, h)
		}
	}
	for _, k := range others() {
		if s, l, h := word.Size(k), word.Low(k), word.High(k); s != 0 || l != 0 || h != 0 {
			t.Fatalf("kind %d: %d bytes, %d to %d", k, s, l, h)
		}
	}
}

// P2.1: a kind's numbers fit, the next ones do not.
func TestFits(t *testing.T) {
	for _, r := range rows() {
		for _, n := range numbers(r) {
			if !word.Fits(r.kind, n) {
				t.Fatalf("kind %d: %d does not fit", r.kind, n)
			}
		}
		for _, n := range misfits(r) {
			if word.Fits(r.kind, n) {
				t.Fatalf("kind %d: %d fits", r.kind, n)
			}
		}
	}
	for _, k := range others() {
		for _, n := range []int64{0, 1, -1, 64, math.MinInt64, math.MaxInt64} {
			if word.Fits(k, n) {
				t.Fatalf("kind %d: %d fits", k, n)
			}
		}
	}
}

// P2.1: a number's bytes, the lowest first.
func TestPut(t *testing.T) {
	for _, c := range []struct {
		kind api.Kind
		n    int64
		b    []byte
	}{
		{api.Bool, 0, []byte{0}}, {api.Bool, 1, []byte{1}}, {api.U8, 255, []byte{0xff}},
		{api.U16, 258, []byte{2, 1}}, {api.U16, 65535, []byte{0xff, 0xff}},
		{api.U32, 0x04030201, []byte{1, 2, 3, 4}}, {api.U32, 4294967295, []byte{0xff, 0xff, 0xff, 0xff}},
		{api.I8, -1, []byte{0xff}}, {api.I8, -128, []byte{0x80}}, {api.I8, 127, []byte{0x7f}},
		{api.I16, -2, []byte{0xfe, 0xff}}, {api.I16, -32768, []byte{0, 0x80}},
		{api.I32, -2147483648, []byte{0, 0, 0, 0x80}}, {api.I32, -2, []byte{0xfe, 0xff, 0xff, 0xff}},
	} {
		if b, e := word.Put(c.kind, c.n); e != api.OK || !bytes.Equal(b, c.b) {
			t.Fatalf("Put(%d, %d): %v, %d", c.kind, c.n, b, e)
		}
	}
	for _, r := range rows() {
		for _, n := range numbers(r) {
			if b, e := word.Put(r.kind, n); e != api.OK || !bytes.Equal(b, bytesOf(r.size, n)) {
				t.Fatalf("Put(%d, %d): %v, %d", r.kind, n, b, e)
			}
		}
	}
}

// P2.1: what does not fit has no bytes.
func TestPutArg(t *testing.T) {
	for _, r := range rows() {
		for _, n := range misfits(r) {
			if b, e := word.Put(r.kind, n); e != api.ErrArg || len(b) != 0 {
				t.Fatalf("Put(%d, %d): %v, %d", r.kind, n, b, e)
			}
		}
	}
	for _, k := range others() {
		for _, n := range []int64{0, 1, -1, 255, math.MinInt64, math.MaxInt64} {
			if b, e := word.Put(k, n); e != api.ErrArg || len(b) != 0 {
				t.Fatalf("Put(%d, %d): %v, %d", k, n, b, e)
			}
		}
	}
}

// P2.1, P2.4: the number of which these are the bytes; and back.
func TestGet(t *testing.T) {
	for _, r := range rows() {
		for _, n := range numbers(r) {
			if got, e := word.Get(r.kind, bytesOf(r.size, n)); e != api.OK || got != n {
				t.Fatalf("Get(%d, %v): %d, %d; not %d", r.kind, bytesOf(r.size, n), got, e, n)
			}
			b, _ := word.Put(r.kind, n)
			if got, e := word.Get(r.kind, b); e != api.OK || got != n {
				t.Fatalf("Get(%d, Put(%d)): %d, %d", r.kind, n, got, e)
			}
		}
	}
	for _, r := range rows() {
		for seed := range 70000 {
			b := []byte{byte(seed), byte(seed >> 8), byte(seed * 7 >> 3), byte(seed * 31 >> 5)}[:r.size]
			n, e := word.Get(r.kind, b)
			if e != api.OK && r.kind != api.Bool {
				t.Fatalf("Get(%d, %v): %d", r.kind, b, e)
			}
			if back, f := word.Put(r.kind, n); e == api.OK && (f != api.OK || !bytes.Equal(back, b)) {
				t.Fatalf("Put(%d, Get(%v)): %v, %d", r.kind, b, back, f)
			}
		}
	}
}

// P2.1: the kind is looked at first, then the length, then the bytes.
func TestGetErrors(t *testing.T) {
	for _, k := range others() {
		for n := range 6 {
			if got, e := word.Get(k, make([]byte, n)); e != api.ErrArg || got != 0 {
				t.Fatalf("Get(%d, %d bytes): %d, %d", k, n, got, e)
			}
		}
		if got, e := word.Get(k, nil); e != api.ErrArg || got != 0 {
			t.Fatalf("Get(%d, nil): %d, %d", k, got, e)
		}
	}
	for _, r := range rows() {
		for _, n := range []int{0, 1, 2, 3, 4, 5, 8, 256, 257, 258, 260, 1<<16 + r.size} {
			for _, x := range []byte{0, 1, 2, 0xff} {
				if n == r.size {
					continue
				}
				if got, e := word.Get(r.kind, bytes.Repeat([]byte{x}, n)); e != api.ErrLen || got != 0 {
					t.Fatalf("Get(%d, %d bytes of %d): %d, %d", r.kind, n, x, got, e)
				}
			}
		}
		if got, e := word.Get(r.kind, nil); e != api.ErrLen || got != 0 {
			t.Fatalf("Get(%d, nil): %d, %d", r.kind, got, e)
		}
	}
	for x := 2; x < 256; x++ {
		if got, e := word.Get(api.Bool, []byte{byte(x)}); e != api.ErrForm || got != 0 {
			t.Fatalf("Get(Bool, %d): %d, %d", x, got, e)
		}
	}
}

// P2.1, P2.4: each bit turned; no byte is like the flipped one; twice is as it was.
func TestFlip(t *testing.T) {
	var all, want []byte
	for x := range 256 {
		all = append(all, byte(x))
		want = append(want, byte(255-x))
	}
	got := word.Flip(all)
	if !bytes.Equal(got, want) || !bytes.Equal(word.Flip(got), all) {
		t.Fatal(got)
	}
	for i := range all {
		if all[i] == got[i] {
			t.Fatalf("%d is like the flipped one", i)
		}
	}
	if !bytes.Equal(word.Flip([]byte{0, 0xa5}), []byte{0xff, 0x5a}) || len(word.Flip(nil)) != 0 || len(word.Flip([]byte{})) != 0 {
		t.Fatal("flip")
	}
	long := bytes.Repeat([]byte{1, 2, 4, 8, 0xfe}, 20001)
	if !bytes.Equal(word.Flip(word.Flip(long)), long) || bytes.Equal(word.Flip(long), long) {
		t.Fatal("a long one")
	}
}

// P2.2: numbers and bytes, one behind the other; the zero value is a writer.
func TestWriter(t *testing.T) {
	var zero word.Writer
	for _, w := range []*word.Writer{&zero, {}, new(word.Writer)} {
		if len(w.Bytes()) != 0 || w.Err() != api.OK {
			t.Fatal(w.Bytes(), w.Err())
		}
		var want []byte
		for _, r := range rows() {
			for _, n := range []int64{r.low, r.high, 1} {
				w.Num(r.kind, n)
				want = append(want, bytesOf(r.size, n)...)
				w.Raw([]byte{7, byte(n), 9})
				want = append(want, 7, byte(n), 9)
				w.Raw(nil)
				if !bytes.Equal(w.Bytes(), want) || w.Err() != api.OK {
					t.Fatal(w.Bytes(), w.Err())
				}
			}
		}
		w.Raw(w.Bytes())
		if !bytes.Equal(w.Bytes(), append(want, want...)) || w.Err() != api.OK {
			t.Fatal(w.Bytes(), w.Err())
		}
	}
}

// P2.2: with the first error no more is put.
func TestWriterStops(t *testing.T) {
	for _, c := range []struct {
		kind api.Kind
		n    int64
	}{{api.U8, 256}, {api.U8, -1}, {api.Bool, 2}, {api.I32, 1 << 31}, {api.Text, 0}, {api.NoKind, 0}, {-1, 0}, {99, 5}} {
		for ahead := range 3 {
			w := &word.Writer{}
			w.Raw([]byte{1, 2, 3}[:ahead])
			want := w.Bytes()
			w.Num(c.kind, c.n)
			for range 2 {
				if !bytes.Equal(w.Bytes(), want) || w.Err() != api.ErrArg {
					t.Fatal(c, w.Bytes(), w.Err())
				}
				w.Num(api.U16, 5)
				w.Raw([]byte{8})
				w.Raw(nil)
				w.Num(c.kind, c.n)
			}
		}
	}
}

// P2.2: what was put is the writer's own, what it answers is not.
func TestWriterKeepsItsOwn(t *testing.T) {
	w, other := &word.Writer{}, &word.Writer{}
	room := []byte{1, 2, 3, 0xc7, 0xc7, 0xc7}
	b := room[:3]
	w.Raw(b)
	w.Num(api.U8, 4)
	if !bytes.Equal(room, []byte{1, 2, 3, 0xc7, 0xc7, 0xc7}) {
		t.Fatal("what was handed in is changed", room)
	}
	clear(room)
	one, two := w.Bytes(), w.Bytes()
	if !bytes.Equal(one, []byte{1, 2, 3, 4}) {
		t.Fatal("what was handed in is kept", one)
	}
	two = two[:cap(two)]
	clear(two)
	if !bytes.Equal(one, []byte{1, 2, 3, 4}) || !bytes.Equal(w.Bytes(), one) {
		t.Fatal("an answer lies in another one, or in the writer", one, w.Bytes())
	}
	for range 100 {
		spare := w.Bytes()
		w.Num(api.U8, 5)
		_ = append(spare, 6, 6, 6)
		if l := w.Bytes(); l[len(l)-1] != 5 {
			t.Fatal("the room behind an answer is the writer's", l)
		}
	}
	if !bytes.Equal(one, []byte{1, 2, 3, 4}) || len(other.Bytes()) != 0 || other.Err() != api.OK {
		t.Fatal(one, other.Bytes(), other.Err())
	}
	other.Num(api.U8, 999)
	if w.Err() != api.OK || len(w.Bytes()) != 104 {
		t.Fatal(w.Err(), w.Bytes())
	}
}

// P2.2: a nil writer has nothing, and takes nothing.
func TestNilWriter(t *testing.T) {
	var w *word.Writer
	w.Num(api.U8, 1)
	w.Num(api.Text, 1)
	w.Raw([]byte{1})
	w.Raw(nil)
	if len(w.Bytes()) != 0 || w.Err() != api.ErrNil {
		t.Fatal(w.Bytes(), w.Err())
	}
}

// P2.3, P2.4: what was written is read.
func TestReader(t *testing.T) {
	w := &word.Writer{}
	for _, r := range rows() {
		for _, n := range []int64{r.low, r.high, 0, 1} {
			w.Num(r.kind, n)
			w.Raw([]byte{byte(n), 0xff, 0})
		}
	}
	r := word.New(w.Bytes())
	left := len(w.Bytes())
	for _, k := range rows() {
		for _, n := range []int64{k.low, k.high, 0, 1} {
			if got := r.Num(k.kind); got != n || r.Err() != api.OK || r.Left() != left-k.size {
				t.Fatal(k, n, got, r.Err(), r.Left())
			}
			if b := r.Raw(0); len(b) != 0 || r.Left() != left-k.size {
				t.Fatal(b, r.Left())
			}
			if b := r.Raw(3); !bytes.Equal(b, []byte{byte(n), 0xff, 0}) || r.Err() != api.OK {
				t.Fatal(k, n, b, r.Err())
			}
			left -= k.size + 3
			if r.Left() != left {
				t.Fatal(r.Left(), left)
			}
		}
	}
	if b := r.Raw(0); left != 0 || r.Left() != 0 || len(b) != 0 || r.Err() != api.OK {
		t.Fatal(left, r.Left(), b, r.Err())
	}
}

// wrong is a step of a reader of the bytes 2, 1, 0 that fails.
type wrong struct {
	name  string
	ahead int
	step  func(r *word.Reader) (int64, []byte)
	e     api.Errno
}

func wrongs() []wrong {
	var l []wrong
	num := func(name string, ahead int, k api.Kind, e api.Errno) {
		l = append(l, wrong{name, ahead, func(r *word.Reader) (int64, []byte) { return r.Num(k), nil }, e})
	}
	raw := func(name string, ahead, n int, e api.Errno) {
		l = append(l, wrong{name, ahead, func(r *word.Reader) (int64, []byte) { return 0, r.Raw(n) }, e})
	}
	for ahead := range 4 {
		for _, k := range others() {
			num("no kind", ahead, k, api.ErrArg)
		}
		for _, n := range []int{-1, -2, math.MinInt, math.MinInt32, -1 << 32} {
			raw("below 0", ahead, n, api.ErrArg)
		}
		for _, n := range []int{4 - ahead, 5, 256, 1 << 16, math.MaxInt32, 1 << 32, math.MaxInt - 1, math.MaxInt} {
			raw("too many", ahead, n, api.ErrEnd)
		}
		for _, r := range rows() {
			if r.size > 3-ahead {
				num("too few", ahead, r.kind, api.ErrEnd)
			}
		}
	}
	num("no bool", 0, api.Bool, api.ErrForm)
	return l
}

// P2.3: with an error nothing is read, and behind it nothing any more; the first one is told.
func TestReaderStops(t *testing.T) {
	for _, c := range wrongs() {
		r := word.New([]byte{2, 1, 0})
		r.Raw(c.ahead)
		if r.Left() != 3-c.ahead || r.Err() != api.OK {
			t.Fatal(c.name, c.ahead, r.Left(), r.Err())
		}
		if n, b := c.step(r); n != 0 || len(b) != 0 || r.Err() != c.e || r.Left() != 3-c.ahead {
			t.Fatal(c.name, c.ahead, n, b, r.Err(), r.Left())
		}
		for _, k := range kinds() {
			if n := r.Num(k); n != 0 || r.Err() != c.e || r.Left() != 3-c.ahead {
				t.Fatal(c.name, c.ahead, k, n, r.Err(), r.Left())
			}
		}
		for _, n := range []int{0, 1, 2, 3, 4, -1, math.MaxInt, math.MinInt} {
			if b := r.Raw(n); len(b) != 0 || r.Err() != c.e || r.Left() != 3-c.ahead {
				t.Fatal(c.name, c.ahead, n, b, r.Err(), r.Left())
			}
		}
	}
}

// P2.3: no bytes are bytes, too.
func TestReaderOfNothing(t *testing.T) {
	for _, b := range [][]byte{nil, {}} {
		r := word.New(b)
		if r == nil || r.Left() != 0 || r.Err() != api.OK || len(r.Raw(0)) != 0 || r.Err() != api.OK {
			t.Fatal("nothing is read of nothing")
		}
		if n := r.Num(api.U8); n != 0 || r.Err() != api.ErrEnd || r.Left() != 0 {
			t.Fatal(n, r.Err(), r.Left())
		}
	}
}

// P2.3, P3: what is read is the reader's own, what it answers is not.
func TestReaderKeepsItsOwn(t *testing.T) {
	b := []byte{1, 2, 3, 4, 5, 6}
	r, same := word.New(b), word.New(b)
	first := r.Raw(2)
	if first = first[:cap(first)]; !bytes.Equal(b, []byte{1, 2, 3, 4, 5, 6}) {
		t.Fatal("what was handed in is changed", b)
	}
	clear(first)
	_ = append(first[:2], 9, 9, 9)
	clear(b)
	if l := r.Raw(2); !bytes.Equal(l, []byte{3, 4}) {
		t.Fatal("the reader has changed with an answer, or with what was handed in", l)
	}
	if n := r.Num(api.U16); n != 6*256+5 {
		t.Fatal(n)
	}
	if l := same.Raw(6); !bytes.Equal(l, []byte{1, 2, 3, 4, 5, 6}) || same.Err() != api.OK {
		t.Fatal("two readers share something", l)
	}
	r.Num(api.U8)
	if r.Err() != api.ErrEnd || same.Err() != api.OK {
		t.Fatal(r.Err(), same.Err())
	}
}

// P2.3: a nil reader has nothing; of one that no call made it is promised that it does not panic.
func TestNilReader(t *testing.T) {
	var r *word.Reader
	for _, k := range kinds() {
		if n := r.Num(k); n != 0 {
			t.Fatal(n)
		}
		new(word.Reader).Num(k)
	}
	for _, n := range []int{0, 1, -1, math.MaxInt, math.MinInt} {
		if b := r.Raw(n); len(b) != 0 {
			t.Fatal(b)
		}
		new(word.Reader).Raw(n)
	}
	if r.Left() != 0 || r.Err() != api.ErrNil {
		t.Fatal(r.Left(), r.Err())
	}
	new(word.Reader).Left()
	new(word.Reader).Err()
}

// P3: what is handed in stays as it is, and the spare room behind it, too; what is answered is new memory.
func TestHandedInStays(t *testing.T) {
	room := append([]byte{1, 0, 1, 0}, bytes.Repeat([]byte{0xc7}, 32)...)
	before := slices.Clone(room)
	for n := range 5 {
		word.Flip(room[:n])
		word.New(room[:n]).Raw(n)
		for _, k := range kinds() {
			word.Get(k, room[:n])
			word.New(room[:n]).Num(k)
		}
	}
	if !bytes.Equal(room, before) {
		t.Fatal(room)
	}
	one := word.Flip(room[:4])
	two := word.Flip(room[:4])
	clear(two[:cap(two)])
	if !bytes.Equal(room, before) || !bytes.Equal(one, []byte{0xfe, 0xff, 0xfe, 0xff}) {
		t.Fatal("flipped bytes are not new memory")
	}
	clear(room)
	if !bytes.Equal(one, []byte{0xfe, 0xff, 0xfe, 0xff}) {
		t.Fatal("flipped bytes lie in what was handed in")
	}
	a, _ := word.Put(api.U32, 7)
	b, _ := word.Put(api.U32, 7)
	clear(b[:cap(b)])
	if c, _ := word.Put(api.U32, 7); a[0] != 7 || c[0] != 7 {
		t.Fatal("put bytes are not new memory")
	}
}
