package wire_test

import (
	"bytes"
	"fmt"
	"math"
	"math/rand"
	"slices"
	"strconv"
	"strings"
	"testing"

	"tripwire/api"
	"tripwire/wire"
)

// The calls have just these signatures.
var (
	_ func(api.Frame) ([]byte, api.Errno)        = wire.Encode
	_ func([]byte) []byte                        = wire.Ack
	_ func([]byte) (api.Frame, int, api.Errno)   = wire.Decode
	_ func([]byte) ([]api.Frame, int, api.Errno) = wire.Split
	_ func(api.Frame) int                        = wire.Length
	_ func(int) int                              = wire.Worst
)

// row is the bits of a text of noughts and ones.
func row(s string) []byte {
	b := []byte(s)
	for i := range b {
		b[i] -= '0'
	}
	return b
}

// crc is the check of a text of bits, by long division.
func crc(s string) string {
	b := row(s + strings.Repeat("0", 15))
	divisor := row("1100010110011001") // x^15 and 4599h
	for i := range len(s) {
		if b[i] == 1 {
			for k, x := range divisor {
				b[i+k] ^= x
			}
		}
	}
	var out strings.Builder
	for _, x := range b[len(s):] {
		fmt.Fprint(&out, x)
	}
	return out.String()
}

// stuffed puts a bit behind each five equal ones that stand in what has been put.
func stuffed(s string) string {
	out := ""
	for _, x := range s {
		out += string(x)
		for {
			fives := strings.HasSuffix(out, "00000")
			ones := strings.HasSuffix(out, "11111")
			if fives {
				out += "1"
			} else if ones {
				out += "0"
			} else {
				break
			}
		}
	}
	return out
}

// head is a frame's core without its check.
func head(f api.Frame) string {
	s := fmt.Sprintf("0%011b", f.Id)
	if f.Rtr {
		return s + fmt.Sprintf("100%04b", f.Len)
	}
	s += fmt.Sprintf("000%04b", f.Len)
	for _, x := range f.Data[:f.Len] {
		s += fmt.Sprintf("%08b", x)
	}
	return s
}

const tail = "1111111111"

// whole is all of a frame's bits.
func whole(f api.Frame) string { return stuffed(head(f)+crc(head(f))) + tail }

// frames are many that may be.
func frames() []api.Frame {
	l := []api.Frame{}
	for id := range api.MaxId + 1 {
		f := api.Frame{Id: id, Len: id % 9}
		for i := range f.Len {
			f.Data[i] = byte(id*7 + i*i*13)
		}
		l = append(l, f, api.Frame{Id: id, Rtr: true, Len: (id + id/9) % 9})
	}
	for _, x := range []byte{0, 1, 0x0f, 0x1f, 0x7e, 0x83, 0x55, 0xc3, 0xf8, 0xff} {
		for n := range api.MaxLen + 1 {
			for _, id := range []int{0, 1, 4, 0x3e0, 0x555, 0x78f, api.MaxId - 31, api.MaxId} {
				f := api.Frame{Id: id, Len: n}
				copy(f.Data[:], bytes.Repeat([]byte{x}, n))
				l = append(l, f)
			}
		}
	}
	r := rand.New(rand.NewSource(5))
	for range 3000 {
		f := api.Frame{Id: r.Intn(api.MaxId + 1), Len: r.Intn(api.MaxLen + 1)}
		for i := range f.Len {
			f.Data[i] = byte(r.Intn(256))
		}
		l = append(l, f)
	}
	return l
}

// wrong is a frame that may not be.
type wrong struct {
	f api.Frame
	e api.Errno
}

func wrongs() []wrong {
	full := [api.MaxLen]byte{1, 2, 3, 4, 5, 6, 7, 8}
	l := []wrong{
		{api.Frame{Id: 1, Data: full}, api.ErrForm}, {api.Frame{Id: 1, Len: 7, Data: full}, api.ErrForm},
		{api.Frame{Id: 1, Len: 8, Rtr: true, Data: full}, api.ErrForm}, {api.Frame{Id: -1, Len: 9, Data: full}, api.ErrRange},
	}
	for _, n := range []int{-1, 1 << 11, 1 << 31, 1 << 32, math.MaxInt, math.MinInt} {
		l = append(l, wrong{api.Frame{Id: n}, api.ErrRange}, wrong{api.Frame{Id: n, Len: n}, api.ErrRange})
		l = append(l, wrong{api.Frame{Len: n}, api.ErrLen}, wrong{api.Frame{Len: n, Data: full, Rtr: true}, api.ErrLen})
	}
	return append(l, wrong{api.Frame{Len: 9}, api.ErrLen}, wrong{api.Frame{Len: 16}, api.ErrLen})
}

// P5.1: a frame's bits, how many they are, and the example.
func TestEncode(t *testing.T) {
	for _, f := range frames() {
		want := row(whole(f))
		got, e := wire.Encode(f)
		if e != api.OK || !bytes.Equal(got, want) {
			t.Fatalf("Encode(%v): %v, %d; not %v", f, got, e, want)
		}
		if n := wire.Length(f); n != len(want) {
			t.Fatalf("Length(%v): %d, not %d", f, n, len(want))
		}
	}
	zero, e := wire.Encode(api.Frame{})
	if e != api.OK || !bytes.Equal(zero, row("0000010000010000010000010000010000010000"+tail)) || wire.Length(api.Frame{}) != 50 {
		t.Fatal(zero, e)
	}
	for _, c := range wrongs() {
		if got, e := wire.Encode(c.f); e != c.e || len(got) != 0 {
			t.Fatalf("Encode(%v): %v, %d; not %d", c.f, got, e, c.e)
		}
		if n := wire.Length(c.f); n != 0 {
			t.Fatalf("Length(%v): %d", c.f, n)
		}
	}
}

// P5.1, P5.4: no frame has more bits than Worst, and none less than those that are always there; some have just as many.
func TestWorst(t *testing.T) {
	for n, want := range []int{52, 62, 72, 82, 92, 102, 112, 122, 132} {
		if got := wire.Worst(n); got != want {
			t.Fatalf("Worst(%d): %d, not %d", n, got, want)
		}
	}
	for _, n := range []int{-1, -8, 9, 10, 255, 1 << 29, 1 << 32, 1 << 61, 1 << 62, math.MaxInt, math.MinInt} {
		if got := wire.Worst(n); got != 0 {
			t.Fatalf("Worst(%d): %d", n, got)
		}
	}
	least := math.MaxInt
	for _, f := range frames() {
		n := f.Len
		if f.Rtr {
			n = 0
		}
		b, _ := wire.Encode(f)
		if len(b) > wire.Worst(n) || len(b) < 8*n+44 {
			t.Fatalf("%v has %d bits", f, len(b))
		}
		least = min(least, len(b)-8*n-44)
	}
	if least != 0 {
		t.Fatalf("each frame has %d bits that were put between", least)
	}
}

// acks are a frame's bits, not acknowledged and acknowledged.
func acks(f api.Frame) []string {
	s := whole(f)
	return []string{s, s[:len(s)-9] + "0" + s[len(s)-8:]}
}

// P5.2, P5.4: a frame's bits are decoded to it, whatever stands behind; what is decoded has these bits.
func TestDecode(t *testing.T) {
	for i, f := range frames() {
		for _, s := range acks(f) {
			for _, behind := range []string{"", "1", "0", "000000", "1111111", "0101010111110", whole(api.Frame{Id: i % 2048})} {
				b := row(s + behind)
				if i%2 == 0 {
					for k := range b {
						b[k] |= byte(k*6) &^ 1 // of each byte the lowest bit alone counts
					}
				}
				got, n, e := wire.Decode(b)
				if e != api.OK || got != f || n != len(s) {
					t.Fatalf("Decode(%v of %v): %v, %d, %d", s+behind, f, got, n, e)
				}
				back, _ := wire.Encode(got)
				if !bytes.Equal(wire.Ack(back), wire.Ack(row(s))) {
					t.Fatalf("%v: %v", s, back)
				}
			}
		}
	}
}

// model is what the document says of bits: each longer beginning of them is looked at, till its last bit tells something.
func model(b []byte) (api.Frame, int, api.Errno) {
	core := ""  // what has been taken away is not in it
	taken := "" // all that stands in the stuffed core
	size := 19  // of the core ahead of its bytes and its check
	for i := range b {
		x := strconv.Itoa(int(b[i] & 1))
		put := strings.HasSuffix(taken, "00000") || strings.HasSuffix(taken, "11111")
		if put && strings.HasSuffix(taken, x) {
			return api.Frame{}, 0, api.ErrStuff
		}
		taken += x
		if !put {
			core += x
			k := len(core) - 1
			if (k == 0 || k == 13 || k == 14) && x != "0" {
				return api.Frame{}, 0, api.ErrForm
			}
			if k == 18 {
				n, _ := strconv.ParseInt(core[15:19], 2, 0)
				if n > 8 {
					return api.Frame{}, 0, api.ErrLen
				}
				if core[12] == '0' {
					size += 8 * int(n)
				}
			}
		}
		fives := strings.HasSuffix(taken, "00000") || strings.HasSuffix(taken, "11111")
		if len(core) > 19 && len(core) == size+15 && !fives {
			if crc(core[:size]) != core[size:] {
				return api.Frame{}, 0, api.ErrCrc
			}
			return modelTail(b, i+1, core[:size])
		}
	}
	return api.Frame{}, 0, api.ErrEnd
}

func modelTail(b []byte, at int, core string) (api.Frame, int, api.Errno) {
	for i := range 10 {
		if at+i == len(b) {
			return api.Frame{}, 0, api.ErrEnd
		}
		if i != 1 && b[at+i]&1 == 0 {
			return api.Frame{}, 0, api.ErrForm
		}
	}
	id, _ := strconv.ParseInt(core[1:12], 2, 0)
	n, _ := strconv.ParseInt(core[15:19], 2, 0)
	f := api.Frame{Id: int(id), Rtr: core[12] == '1', Len: int(n)}
	for i := 19; i < len(core); i += 8 {
		x, _ := strconv.ParseUint(core[i:i+8], 2, 8)
		f.Data[(i-19)/8] = byte(x)
	}
	return f, at + 10, api.OK
}

// lookAtDecode holds Decode, and what Ack and Split say of the same bits, against the model.
func lookAtDecode(t *testing.T, b []byte) api.Errno {
	t.Helper()
	f, n, e := wire.Decode(b)
	wantF, wantN, wantE := model(b)
	if f != wantF || n != wantN || e != wantE {
		t.Fatalf("Decode(%v): %v, %d, %d; not %v, %d, %d", b, f, n, e, wantF, wantN, wantE)
	}
	want := slices.Clone(b)
	if e == api.OK {
		want[n-9] = 0
	}
	if got := wire.Ack(b); !bytes.Equal(got, want) {
		t.Fatalf("Ack(%v): %v", b, got)
	}
	return e
}

// P5.2: each bit of a frame turned, and each end that is too early.
func TestDecodeSpoilt(t *testing.T) {
	found := map[api.Errno]int{}
	for i, f := range frames() {
		if i%23 != 0 {
			continue
		}
		b := row(acks(f)[i%2])
		for at := range b {
			b[at] ^= 1
			found[lookAtDecode(t, b)]++
			if i%16 == 0 {
				b[(at*at+i)%len(b)] ^= 1
				found[lookAtDecode(t, b)]++
				b[(at*at+i)%len(b)] ^= 1
			}
			b[at] ^= 1
			found[lookAtDecode(t, b[:at])]++
		}
	}
	for _, e := range []api.Errno{api.OK, api.ErrEnd, api.ErrStuff, api.ErrForm, api.ErrLen, api.ErrCrc} {
		if found[e] == 0 {
			t.Errorf("nothing was answered with %d", e)
		}
	}
}

// P5.2: rows of any bits, some of which begin like frames.
func TestDecodeRows(t *testing.T) {
	r := rand.New(rand.NewSource(7))
	for range 30000 {
		b := make([]byte, r.Intn(150))
		for i := range b {
			b[i] = byte(r.Intn(256))
		}
		lookAtDecode(t, b)
		if len(b) > 0 {
			b[0] = 0
			lookAtDecode(t, b)
			spare := "0" + fmt.Sprintf("%011b", r.Intn(2048)) + "0000100"
			lookAtDecode(t, append(row(stuffed(spare)), b...))
		}
	}
	for n := range 14 { // short rows, all of them
		for x := range 1 << n {
			lookAtDecode(t, row(fmt.Sprintf("%0*b", n, x))[:n])
		}
	}
	lookAtDecode(t, nil)
}

// errorAt holds an error of bits against what is wrong there, at the bit at which it is found and not ahead of it.
func errorAt(t *testing.T, s string, e api.Errno) {
	t.Helper()
	if f, n, got := wire.Decode(row(s)); got != e || f != (api.Frame{}) || n != 0 {
		t.Fatalf("Decode(%s): %v, %d, %d; not %d", s, f, n, got, e)
	}
	if _, _, got := wire.Decode(row(s[:len(s)-1])); got != api.ErrEnd {
		t.Fatalf("Decode(%s): %d", s[:len(s)-1], got)
	}
	for _, behind := range []string{"0", "1", "000000000", "111111111111", "01010101"} {
		if _, _, got := wire.Decode(row(s + behind)); got != e {
			t.Fatalf("Decode(%s): %d, not %d", s+behind, got, e)
		}
	}
}

// P5.2: an error is found at its bit, whatever would be wrong behind.
func TestDecodeFirst(t *testing.T) {
	errorAt(t, "1", api.ErrForm)
	errorAt(t, "000000", api.ErrStuff)
	errorAt(t, "0111111", api.ErrStuff)
	for id := range api.MaxId + 1 {
		for _, rtr := range []string{"0", "1"} {
			s := fmt.Sprintf("0%011b", id) + rtr
			errorAt(t, stuffed(s + "1")[:len(stuffed(s))+1], api.ErrForm)
			errorAt(t, stuffed(s + "01")[:len(stuffed(s+"0"))+1], api.ErrForm)
			for n := range 16 {
				lenOf := s + fmt.Sprintf("00%04b", n)
				if n > api.MaxLen {
					all := stuffed(lenOf[:len(lenOf)-1])
					errorAt(t, all+lenOf[len(lenOf)-1:], api.ErrLen)
				}
			}
		}
	}
	for _, s := range []string{"010101010100" + "000" + "0", "010101011000" + "00" + "0", "010101010000" + "0" + "0"} { // what is put between is wrong, not a bit behind Rtr
		errorAt(t, s, api.ErrStuff)
	}
}

// P5.2: where the check is another one, and what is put behind five equal bits at the core's end.
func TestDecodeEnd(t *testing.T) {
	ends := 0
	for i, f := range frames() {
		if i%4 != 0 {
			continue
		}
		h := head(f)
		core := h + crc(h)
		right := stuffed(core)
		for k := range 15 {
			spoilt := []byte(core)
			spoilt[len(h)+k] ^= 1
			errorAt(t, stuffed(string(spoilt)), api.ErrCrc)
		}
		for i := range 10 {
			if i != 1 {
				errorAt(t, right+tail[:i]+"0", api.ErrForm)
			}
		}
		if n := len(right); n == len(stuffed(core[:len(core)-1]))+2 {
			ends++
			errorAt(t, right[:n-1]+right[n-2:n-1], api.ErrStuff)
			if _, _, e := wire.Decode(row(right[:n-1] + tail)); e == api.OK {
				t.Fatalf("%v without what is put behind its core", f)
			}
		}
	}
	if ends == 0 {
		t.Error("no core ends with five equal bits")
	}
}

// P5.3: frames one behind the other, with any number of 1 around them.
func TestSplit(t *testing.T) {
	r := rand.New(rand.NewSource(9))
	all := frames()
	for range 1500 {
		s, want := strings.Repeat("1", r.Intn(9)*r.Intn(2)), []api.Frame{}
		for range r.Intn(6) {
			f := all[r.Intn(len(all))]
			s += acks(f)[r.Intn(2)] + strings.Repeat("1", r.Intn(12)*r.Intn(2))
			want = append(want, f)
		}
		got, at, e := wire.Split(row(s))
		if e != api.OK || at != 0 || !slices.Equal(got, want) {
			t.Fatalf("Split(%s): %v, %d, %d", s, got, at, e)
		}
		bad := acks(all[r.Intn(len(all))])[r.Intn(2)]
		cut := r.Intn(len(bad)-1) + 1
		for _, x := range []string{bad[:cut], bad[:1] + bad[1:cut] + string('0'+'1'-bad[cut]) + bad[cut+1:] + "01", "000000", "0", "0" + whole(all[0])} {
			_, _, wantE := model(row(x))
			if wantE == api.OK {
				continue
			}
			got, at, e := wire.Split(row(s + x))
			if e != wantE || at != len(s) || !slices.Equal(got, want) {
				t.Fatalf("Split(%s, %s): %v, %d, %d; not %d", s, x, got, at, e, wantE)
			}
		}
	}
	for n := range 40 {
		got, at, e := wire.Split(row(strings.Repeat("1", n)))
		if len(got) != 0 || at != 0 || e != api.OK {
			t.Fatal(n, got, at, e)
		}
		got, at, e = wire.Split(row(strings.Repeat("1", n) + "0"))
		if len(got) != 0 || at != n || e != api.ErrEnd {
			t.Fatal(n, got, at, e)
		}
	}
	for _, x := range []byte{1, 3, 255} {
		if got, at, e := wire.Split([]byte{x, x}); len(got) != 0 || at != 0 || e != api.OK {
			t.Fatal(got, at, e)
		}
	}
}

// P5.3: just one bit becomes 0, that of the first frame alone; of what begins with none nothing does.
func TestAck(t *testing.T) {
	f, g := api.Frame{Id: 291, Len: 2, Data: [8]byte{1, 171}}, api.Frame{Id: 4, Rtr: true, Len: 5}
	one, two := acks(f), acks(g)
	for _, c := range [][2]string{
		{one[0], one[1]}, {one[1], one[1]}, {one[0] + two[0], one[1] + two[0]}, {one[1] + two[1] + "0", one[1] + two[1] + "0"}, {two[0] + "111", two[1] + "111"},
		{"1" + one[0], "1" + one[0]}, {one[0][1:], one[0][1:]}, {one[0][:len(one[0])-1], one[0][:len(one[0])-1]}, {"", ""}, {"1", "1"}, {"0", "0"}, {"000000", "000000"},
	} {
		if got := wire.Ack(row(c[0])); !bytes.Equal(got, row(c[1])) {
			t.Fatalf("Ack(%s): %v, not %s", c[0], got, c[1])
		}
	}
}

// P1, the bound: long rows are gone through as well.
func TestLong(t *testing.T) {
	s := strings.Repeat(whole(api.Frame{Id: 5, Len: 1, Data: [8]byte{9}})+"1", 20000)
	if l, at, e := wire.Split(row(s)); len(l) != 20000 || at != 0 || e != api.OK {
		t.Fatal(len(l), at, e)
	}
	if l, at, e := wire.Split(row(strings.Repeat("1", 1<<22) + "0")); len(l) != 0 || at != 1<<22 || e != api.ErrEnd {
		t.Fatal(len(l), at, e)
	}
}

// P3: what is handed in stays as it is, the spare room behind it, too, and is not kept; what is answered is new memory.
func TestHandedInStays(t *testing.T) {
	f := api.Frame{Id: 291, Len: 2, Data: [8]byte{1, 171}}
	room := row(whole(f) + whole(f) + "0111111000")
	before := slices.Clone(room)
	for n := range len(room) + 1 {
		b := room[:n]
		wire.Decode(b)
		l, _, _ := wire.Split(b)
		a := wire.Ack(b)
		if !bytes.Equal(room, before) {
			t.Fatal("it was changed", room)
		}
		clear(a[:cap(a)])
		clear(l[:cap(l)])
		if !bytes.Equal(room, before) {
			t.Fatal("what is answered lies in it", room)
		}
	}
	one, _ := wire.Encode(f)
	two, _ := wire.Encode(f)
	clear(two[:cap(two)])
	if !bytes.Equal(one, row(whole(f))) {
		t.Fatal("two answers lie in one place")
	}
}

// P6: a call answers the same again, whatever came between.
func TestAgain(t *testing.T) {
	f := api.Frame{Id: 291, Len: 2, Data: [8]byte{1, 171}}
	b := row(whole(f))
	for _, s := range []string{"", "0", "000000", "01111110", whole(api.Frame{Id: 7, Rtr: true})[1:], whole(f) + "1"} {
		wire.Decode(row(s))
		wire.Split(row(s))
		if g, n, e := wire.Decode(b); g != f || n != len(b) || e != api.OK || wire.Length(f) != len(b) {
			t.Fatal(g, n, e)
		}
	}
}
