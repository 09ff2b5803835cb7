package frame_test

import (
	"bytes"
	"fmt"
	"iter"
	"math"
	"regexp"
	"slices"
	"strings"
	"testing"

	"tripwire/api"
	"tripwire/frame"
)

// The calls have just these signatures.
var (
	_ func(api.Frame) api.Errno                 = frame.Check
	_ func(int, ...byte) (api.Frame, api.Errno) = frame.New
	_ func(int, int) (api.Frame, api.Errno)     = frame.Ask
	_ func(api.Frame) []byte                    = frame.Bytes
	_ func(api.Frame) int                       = frame.Rank
	_ func(api.Frame, api.Frame) bool           = frame.Less
	_ func(api.Frame) api.Frame                 = frame.Flip
	_ func(api.Frame) (string, api.Errno)       = frame.Text
	_ func(string) (api.Frame, api.Errno)       = frame.Parse
)

// wrongIds are numbers that are no identifiers.
func wrongIds() []int {
	return []int{-1, -2, -2048, api.MaxId + 1, 4095, 1 << 16, 1 << 32, 1<<32 + 5, math.MaxInt, math.MinInt, math.MaxInt32, math.MinInt32}
}

// wrongLens are numbers that no frame has as its Len.
func wrongLens() []int {
	return []int{-1, -8, 9, 10, 15, 16, 255, 256, 257, 1 << 32, 1<<32 + 1, math.MaxInt, math.MinInt, math.MinInt32}
}

// data are some bytes, none of them 0.
func data(n int) [api.MaxLen]byte {
	var l [api.MaxLen]byte
	for i := range n {
		l[i] = byte(0x11 * (i + 1))
	}
	return l
}

// right tells frames that may be: each Id, Len and Rtr, and each byte at each place.
func right() iter.Seq[api.Frame] {
	return func(yield func(api.Frame) bool) {
		for id := range api.MaxId + 1 {
			for n := range api.MaxLen + 1 {
				for _, f := range []api.Frame{{Id: id, Len: n, Data: data(n)}, {Id: id, Len: n}, {Id: id, Rtr: true, Len: n}} {
					if !yield(f) {
						return
					}
				}
			}
		}
		for i := range 256 * api.MaxLen {
			f := api.Frame{Id: i % 7 * 300, Len: api.MaxLen}
			f.Data[i/256] = byte(i % 256)
			if !yield(f) {
				return
			}
		}
	}
}

// wrong is a frame that may not be.
type wrong struct {
	f api.Frame
	e api.Errno
}

// wrongs are such: those with several errors have the first one.
func wrongs() []wrong {
	var l []wrong
	full := [api.MaxLen]byte{1, 2, 3, 4, 5, 6, 7, 8}
	for _, rtr := range []bool{false, true} {
		for _, id := range wrongIds() {
			for _, n := range append(wrongLens(), 0, 3, 8) {
				l = append(l, wrong{api.Frame{Id: id, Rtr: rtr, Len: n}, api.ErrRange}, wrong{api.Frame{Id: id, Rtr: rtr, Len: n, Data: full}, api.ErrRange})
			}
		}
		for _, id := range []int{0, 5, api.MaxId} {
			for _, n := range wrongLens() {
				l = append(l, wrong{api.Frame{Id: id, Rtr: rtr, Len: n}, api.ErrLen}, wrong{api.Frame{Id: id, Rtr: rtr, Len: n, Data: full}, api.ErrLen})
			}
			for n := range api.MaxLen + 1 {
				for at := range api.MaxLen {
					f := api.Frame{Id: id, Rtr: rtr, Len: n}
					f.Data[at] = 0x80
					if at >= n || rtr {
						l = append(l, wrong{f, api.ErrForm})
					}
				}
			}
		}
	}
	return l
}

// P4.1: which frames may be.
func TestCheck(t *testing.T) {
	for f := range right() {
		if e := frame.Check(f); e != api.OK {
			t.Fatalf("Check(%v): %d", f, e)
		}
	}
	for _, c := range wrongs() {
		if e := frame.Check(c.f); e != c.e {
			t.Fatalf("Check(%v): %d, not %d", c.f, e, c.e)
		}
	}
	if e := frame.Check(api.Frame{}); e != api.OK {
		t.Fatal(e)
	}
}

// P4.1: a frame of bytes, noughts behind.
func TestNew(t *testing.T) {
	for f := range right() {
		if f.Rtr {
			continue
		}
		if got, e := frame.New(f.Id, f.Data[:f.Len]...); e != api.OK || got != f {
			t.Fatalf("New(%d, %v): %v, %d", f.Id, f.Data[:f.Len], got, e)
		}
	}
	if f, e := frame.New(291, 1, 171); e != api.OK || f != (api.Frame{Id: 291, Len: 2, Data: [8]byte{1, 171}}) {
		t.Fatal(f, e)
	}
	if f, e := frame.New(0); e != api.OK || f != (api.Frame{}) {
		t.Fatal(f, e)
	}
}

// P4.1: the Id's error ahead of that of too many bytes; no frame beside an error.
func TestNewErrors(t *testing.T) {
	for _, id := range wrongIds() {
		for _, n := range []int{0, 1, 8, 9, 300} {
			if f, e := frame.New(id, bytes.Repeat([]byte{7}, n)...); e != api.ErrRange || f != (api.Frame{}) {
				t.Fatalf("New(%d, %d bytes): %v, %d", id, n, f, e)
			}
		}
	}
	for _, n := range []int{9, 10, 16, 255, 256, 257, 264, 1<<16 + 1} {
		for _, x := range []byte{0, 7} {
			if f, e := frame.New(5, bytes.Repeat([]byte{x}, n)...); e != api.ErrLen || f != (api.Frame{}) {
				t.Fatalf("New of %d bytes: %v, %d", n, f, e)
			}
		}
	}
}

// P4.1: a frame that asks for bytes.
func TestAsk(t *testing.T) {
	for id := range api.MaxId + 1 {
		for n := range api.MaxLen + 1 {
			if f, e := frame.Ask(id, n); e != api.OK || f != (api.Frame{Id: id, Rtr: true, Len: n}) {
				t.Fatalf("Ask(%d, %d): %v, %d", id, n, f, e)
			}
		}
	}
	for _, n := range wrongLens() {
		if f, e := frame.Ask(5, n); e != api.ErrLen || f != (api.Frame{}) {
			t.Fatalf("Ask(5, %d): %v, %d", n, f, e)
		}
	}
	for _, id := range wrongIds() {
		for _, n := range append(wrongLens(), 0, 8) {
			if f, e := frame.Ask(id, n); e != api.ErrRange || f != (api.Frame{}) {
				t.Fatalf("Ask(%d, %d): %v, %d", id, n, f, e)
			}
		}
	}
}

// P4.1: as many bytes as it has; none, if it asks for some, or may not be.
func TestBytes(t *testing.T) {
	for f := range right() {
		want := f.Data[:f.Len]
		if f.Rtr {
			want = nil
		}
		if got := frame.Bytes(f); !bytes.Equal(got, want) {
			t.Fatalf("Bytes(%v): %v", f, got)
		}
	}
	for _, c := range wrongs() {
		if got := frame.Bytes(c.f); len(got) != 0 {
			t.Fatalf("Bytes(%v): %v", c.f, got)
		}
	}
}

// P4.2: two times the Id, and one more, if Rtr stands; -1 of what may not be.
func TestRank(t *testing.T) {
	for f := range right() {
		want := 2 * f.Id
		if f.Rtr {
			want++
		}
		if got := frame.Rank(f); got != want {
			t.Fatalf("Rank(%v): %d", f, got)
		}
	}
	for _, c := range wrongs() {
		if got := frame.Rank(c.f); got != -1 {
			t.Fatalf("Rank(%v): %d", c.f, got)
		}
	}
}

// P4.2, P4.4: the one of the lower rank is less, whatever else it has; so they stand in one order.
func TestLess(t *testing.T) {
	var l []api.Frame
	for _, id := range []int{0, 1, 2, 255, 256, 1023, 1024, api.MaxId - 1, api.MaxId} {
		l = append(l, api.Frame{Id: id}, api.Frame{Id: id, Rtr: true})
	}
	for i, a := range l {
		for j, b := range l {
			for _, n := range []int{0, 8} {
				if !a.Rtr {
					a.Len, a.Data = n, data(n)
				}
				b.Len = 8 - n
				if frame.Less(a, b) != (i < j) || frame.Less(b, a) != (j < i) {
					t.Fatalf("%v and %v", a, b)
				}
			}
		}
	}
	for _, c := range wrongs() {
		if !frame.Less(c.f, api.Frame{}) || frame.Less(api.Frame{}, c.f) || frame.Less(c.f, c.f) {
			t.Fatalf("%v: its rank is -1", c.f)
		}
	}
}

// P4.2, P4.4: its bytes are turned, all else stays; twice is as it was.
func TestFlip(t *testing.T) {
	for f := range right() {
		want := f
		for i := range f.Len {
			if !f.Rtr {
				want.Data[i] = 255 - f.Data[i]
			}
		}
		got := frame.Flip(f)
		if got != want || frame.Flip(got) != f || frame.Rank(got) != frame.Rank(f) || frame.Check(got) != api.OK {
			t.Fatalf("Flip(%v): %v", f, got)
		}
		if (got == f) != (f.Rtr || f.Len == 0) {
			t.Fatalf("Flip(%v): %v", f, got)
		}
	}
	for _, c := range wrongs() {
		if got := frame.Flip(c.f); got != c.f {
			t.Fatalf("Flip(%v): %v", c.f, got)
		}
	}
}

// text is what the document says of a frame's text.
func text(f api.Frame) string {
	if f.Rtr {
		return fmt.Sprintf("%03X#R%d", f.Id, f.Len)
	}
	return fmt.Sprintf("%03X#%X", f.Id, f.Data[:f.Len])
}

// P4.3, P4.4: a frame as text, and back.
func TestText(t *testing.T) {
	for f := range right() {
		s, e := frame.Text(f)
		if e != api.OK || s != text(f) {
			t.Fatalf("Text(%v): %q, %d", f, s, e)
		}
		if got, e := frame.Parse(s); e != api.OK || got != f {
			t.Fatalf("Parse(%q): %v, %d", s, got, e)
		}
	}
	for _, c := range wrongs() {
		if s, e := frame.Text(c.f); e != c.e || s != "" {
			t.Fatalf("Text(%v): %q, %d; not %d", c.f, s, e, c.e)
		}
	}
	for s, f := range map[string]api.Frame{
		"000#": {}, "7FF#R0": {Id: 2047, Rtr: true}, "123#01AB": {Id: 291, Len: 2, Data: [8]byte{1, 171}}, "123#R5": {Id: 291, Rtr: true, Len: 5},
		"00A#00": {Id: 10, Len: 1}, "0F0#FFFFFFFFFFFFFFFF": {Id: 240, Len: 8, Data: [8]byte{255, 255, 255, 255, 255, 255, 255, 255}},
	} {
		if got, e := frame.Text(f); got != s || e != api.OK {
			t.Fatalf("Text(%v): %q, %d", f, got, e)
		}
	}
}

// is tells of a text whether it is a frame's.
var is = regexp.MustCompile(`^[0-7][0-9A-F]{2}#(R[0-8]|([0-9A-F]{2}){0,8})\z`)

func lookAtParse(t *testing.T, s string) {
	t.Helper()
	f, e := frame.Parse(s)
	if !is.MatchString(s) {
		if e != api.ErrForm || f != (api.Frame{}) {
			t.Fatalf("Parse(%q): %v, %d", s, f, e)
		}
		return
	}
	if e != api.OK || frame.Check(f) != api.OK || text(f) != s {
		t.Fatalf("Parse(%q): %v, %d", s, f, e)
	}
	if back, e := frame.Text(f); e != api.OK || back != s {
		t.Fatalf("Text(%v): %q, %d", f, back, e)
	}
}

// P4.3, P4.4: what is parsed is printed so; all else is of another form.
func TestParse(t *testing.T) {
	for _, s := range []string{
		"", "#", "R", "0", "00", "000", "0000", "000R5", "00#", "0000#", "#00", "#R0", "000#R", "000#R9", "000#RA", "000#R00", "000#R-1", "000#R+1", "000#r5",
		"000#RR", "000#R5R5", "000#00R5", "000#R5#", "000##", "000#0", "000#000", "000#0g", "000#aB", "00a#", "00G#", "800#", "FFF#", "-01#", "+01#", " 01#", "0x1#",
		"000# 00", "000#00 ", " 000#", "000#\n", "000#00\x00", "000#0000000000000000", "000#000000000000000000", "000#00000000000000000", "000#٠٠", "00０#", "\xff\xff\xff#",
		"800#R9", "123#01AB\r\n", "123#01:AB", "123#0 1", "1_3#", "123#0_", "000#R８",
	} {
		lookAtParse(t, s)
	}
	for id := range 4096 {
		lookAtParse(t, fmt.Sprintf("%03X#", id))
		lookAtParse(t, fmt.Sprintf("%03x#R1", id))
		lookAtParse(t, fmt.Sprintf("%X#00", id))
	}
	for n := range 70 {
		lookAtParse(t, "1A2#"+strings.Repeat("5", n))
		lookAtParse(t, "1A2#"+strings.Repeat("R", n))
		lookAtParse(t, strings.Repeat("0", n)+"#")
	}
	for _, n := range []int{1 << 9, 1 << 16, 1<<16 + 3, 1 << 20} {
		for _, s := range []string{"0", "#", "R", "\x00"} {
			lookAtParse(t, strings.Repeat(s, n))
			lookAtParse(t, "000#"+strings.Repeat(s, n))
			lookAtParse(t, "000#R"+strings.Repeat(s, n))
		}
	}
}

// P4.3: texts that are nearly a frame's: a byte is another one, or one too many, or one too few.
func TestParseNearly(t *testing.T) {
	for _, s := range []string{"000#", "7FF#R8", "123#R0", "123#01AB", "5A5#00", "0F0#0123456789ABCDEF"} {
		lookAtParse(t, s)
		for at := range len(s) + 1 {
			for x := range 256 {
				one := string([]byte{byte(x)})
				lookAtParse(t, s[:at]+one+s[at:])
				if at < len(s) {
					lookAtParse(t, s[:at]+one+s[at+1:])
				}
			}
			lookAtParse(t, s[:at])
			lookAtParse(t, s[at:])
			if at < len(s) {
				lookAtParse(t, s[:at]+s[at+1:])
			}
		}
	}
}

// P3: what is handed in stays as it is, the spare room behind it, too, and is not kept; what is answered is new memory.
func TestHandedInStays(t *testing.T) {
	room := []byte{1, 2, 3, 4, 5, 6, 7, 8, 9, 10, 11, 12}
	before := slices.Clone(room)
	for n := range len(room) {
		f, _ := frame.New(5, room[:n]...)
		one, two := frame.Bytes(f), frame.Bytes(f)
		clear(two[:cap(two)])
		if !bytes.Equal(room, before) || n <= api.MaxLen && !bytes.Equal(one, before[:n]) {
			t.Fatal(room, one)
		}
		whole := f
		clear(room)
		clear(frame.Bytes(f))
		if f != whole || n <= api.MaxLen && !bytes.Equal(frame.Bytes(f), before[:n]) {
			t.Fatal("a frame hangs on what was handed in, or answered", f)
		}
		copy(room, before)
	}
}

// P6: a call answers the same again, whatever came between.
func TestAgain(t *testing.T) {
	f, _ := frame.New(5, 1, 2, 3)
	flipped := frame.Flip(f)
	for _, c := range wrongs() {
		frame.Flip(c.f)
		frame.Text(c.f)
	}
	frame.Parse("7FF#FFFFFFFFFFFFFFFF")
	if g, e := frame.New(5, 1, 2, 3); g != f || e != api.OK || frame.Flip(f) != flipped || frame.Rank(f) != 10 {
		t.Fatal(g, e)
	}
}
