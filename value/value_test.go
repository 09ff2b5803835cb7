package value_test

import (
	"bytes"
	"math"
	"slices"
	"testing"

	"tripwire/api"
	"tripwire/value"
)

// The calls have just these signatures.
var (
	_ func(api.Spec) bool                       = value.May
	_ func(api.Spec) []byte                     = value.First
	_ func(api.Spec, []byte) api.Abort          = value.Fits
	_ func(api.Spec, []byte) (int64, bool)      = value.Num
	_ func(api.Spec, int64) ([]byte, api.Errno) = value.Bytes
	_ func(api.Access) api.Abort                = value.Reads
	_ func(api.Access) api.Abort                = value.Writes
	_ func(api.Abort) bool                      = value.Known
)

// The reasons, as the numbers that api gives them.
const (
	general = 0x08000000
	short   = 0x06070013
	long    = 0x06070012
	noValue = 0x06090030
	high    = 0x06090031
	low     = 0x06090032
)

// row is what the document says of a kind of numbers.
type row struct {
	kind      api.Kind
	size      int
	low, high int64
}

func rows() []row {
	return []row{
		{1, 1, 0, 1},
		{2, 1, 0, 255},
		{3, 2, 0, 65535},
		{4, 4, 0, 4294967295},
		{5, 1, -128, 127},
		{6, 2, -32768, 32767},
		{7, 4, -2147483648, 2147483647},
	}
}

const text = api.Kind(8)

// wrongKinds are kinds of nothing.
func wrongKinds() []api.Kind {
	return []api.Kind{0, -1, -8, 9, 10, 255, 256, 257, 1<<32 + 2, math.MaxInt, math.MinInt}
}

func accesses() []api.Access { return []api.Access{1, 2, 3, 4} }

// wrongAccesses are no kinds of access.
func wrongAccesses() []api.Access {
	return []api.Access{0, -1, -2, 5, 6, 255, 257, 1<<32 + 1, math.MaxInt, math.MinInt}
}

// bounds are numbers about a kind's edges, and others.
func bounds(r row) []int64 {
	l := []int64{math.MinInt64, math.MinInt64 + 1, math.MaxInt64 - 1, math.MaxInt64, 1<<32 + 5, -1 << 40}
	for _, n := range []int64{r.low, 0, r.high, r.high / 2, r.low / 2} {
		l = append(l, n-1, n, n+1)
	}
	slices.Sort(l)
	return slices.Compact(l)
}

// specs are all specs of numbers of a kind between its bounds that may be.
func specs(r row) []api.Spec {
	var l []api.Spec
	for _, from := range bounds(r) {
		for _, to := range bounds(r) {
			if r.low <= from && from <= to && to <= r.high {
				l = append(l, api.Spec{Kind: r.kind, Access: 3, Low: from, High: to})
			}
		}
	}
	return l
}

// wrongSpecs are specs that may not be.
func wrongSpecs() []api.Spec {
	l := []api.Spec{
		{}, {Kind: 2, High: 9}, {Access: 3, High: 9},
		{Kind: 2, Access: 3, Low: 9, High: 8}, {Kind: 2, Access: 3, Low: -1, High: 8}, {Kind: 2, Access: 3, High: 256},
		{Kind: 1, Access: 1, High: 2}, {Kind: 5, Access: 2, Low: -129, High: 1}, {Kind: 5, Access: 2, High: 128},
		{Kind: text, High: 4}, {Kind: text, Access: 4, Low: -1, High: 4}, {Kind: text, Access: 4, Low: 3, High: 2},
		{Kind: text, Access: 4, High: 65}, {Kind: text, Access: 3, Low: 65, High: 65}, {Kind: text, Access: 3, Low: math.MinInt64, High: math.MaxInt64},
		{Kind: 4, Access: 3, Low: math.MinInt64, High: math.MaxInt64}, {Kind: 3, Access: 3, Low: math.MaxInt64, High: math.MinInt64},
	}
	for _, k := range wrongKinds() {
		l = append(l, api.Spec{Kind: k, Access: 3, High: 1})
	}
	for _, a := range wrongAccesses() {
		l = append(l, api.Spec{Kind: 2, Access: a, High: 1}, api.Spec{Kind: text, Access: a, High: 1})
	}
	return l
}

// bytesOf are a number's bytes, reckoned as the document says it.
func bytesOf(size int, n int64) []byte {
	whole := int64(1) << (8 * size)
	left := ((n % whole) + whole) % whole
	l := []byte{}
	for range size {
		l = append(l, byte(left%256))
		left /= 256
	}
	return l
}

// numberOf is the number of a kind whose bytes these are, if there is one.
func numberOf(r row, b []byte) (int64, bool) {
	n := int64(0)
	for i := len(b) - 1; i >= 0; i-- {
		n = n*256 + int64(b[i])
	}
	if n > r.high {
		n -= 1 << (8 * r.size)
	}
	return n, r.low <= n && n <= r.high
}

// The document's example.
func TestExample(t *testing.T) {
	s := api.Spec{Kind: api.U16, Access: api.ReadOnly, Low: 10, High: 20}
	if b := value.First(s); !bytes.Equal(b, []byte{0x0a, 0}) {
		t.Fatal(b)
	}
	if a := value.Fits(s, []byte{0x15, 0}); a != api.AbHigh {
		t.Fatal(a)
	}
	if a := value.Fits(s, []byte{0x0f}); a != api.AbShort {
		t.Fatal(a)
	}
}

// P13.1: which specs of numbers may be.
func TestMayNumbers(t *testing.T) {
	for _, r := range rows() {
		for _, from := range bounds(r) {
			for _, to := range bounds(r) {
				want := r.low <= from && from <= to && to <= r.high
				for _, a := range accesses() {
					if s := (api.Spec{Kind: r.kind, Access: a, Low: from, High: to}); value.May(s) != want {
						t.Fatal(s, !want)
					}
				}
			}
		}
	}
}

// P13.1: which specs of texts may be.
func TestMayTexts(t *testing.T) {
	edges := []int64{math.MinInt64, -65, -1, 0, 1, 2, 40, 63, 64, 65, 66, 255, 256, 1 << 32, math.MaxInt64}
	for _, from := range edges {
		for _, to := range edges {
			want := 0 <= from && from <= to && to <= 64
			for _, a := range accesses() {
				if s := (api.Spec{Kind: text, Access: a, Low: from, High: to}); value.May(s) != want {
					t.Fatal(s, !want)
				}
			}
		}
	}
}

// P13.1, P13.2: of a spec that may not be there are no values.
func TestMayNot(t *testing.T) {
	for _, s := range wrongSpecs() {
		if value.May(s) {
			t.Fatal(s)
		}
		if b := value.First(s); len(b) != 0 {
			t.Fatal(s, b)
		}
		for size := range 6 {
			b := make([]byte, size)
			if a := value.Fits(s, b); a != general {
				t.Fatal(s, a)
			}
			if n, is := value.Num(s, b); n != 0 || is {
				t.Fatal(s, n)
			}
		}
		if a := value.Fits(s, nil); a != general {
			t.Fatal(s, a)
		}
		for _, n := range []int64{0, 1, -1, s.Low, s.High, 1000} {
			if b, e := value.Bytes(s, n); b != nil || e != api.ErrArg {
				t.Fatal(s, b, e)
			}
		}
	}
}

// P13.1: the first value is the number that is least far from 0.
func TestFirst(t *testing.T) {
	for _, r := range rows() {
		for _, s := range specs(r) {
			near := s.Low
			for _, n := range append(bounds(r), s.High) {
				if s.Low <= n && n <= s.High && max(n, -n) < max(near, -near) {
					near = n
				}
			}
			if got, want := value.First(s), bytesOf(r.size, near); !bytes.Equal(got, want) {
				t.Fatal(s, got, want)
			}
		}
	}
	for _, s := range []struct {
		spec api.Spec
		want []byte
	}{
		{api.Spec{Kind: api.I16, Access: 1, Low: -20, High: -3}, []byte{0xfd, 0xff}},
		{api.Spec{Kind: api.I16, Access: 2, Low: 3, High: 20}, []byte{3, 0}},
		{api.Spec{Kind: api.I8, Access: 3, Low: -1, High: 5}, []byte{0}},
		{api.Spec{Kind: api.U32, Access: 4, Low: 0x0102, High: 1 << 31}, []byte{2, 1, 0, 0}},
		{api.Spec{Kind: api.Bool, Access: 4, Low: 1, High: 1}, []byte{1}},
	} {
		if got := value.First(s.spec); !bytes.Equal(got, s.want) {
			t.Fatal(s.spec, got)
		}
	}
}

// P13.1: of texts it is bytes 0, as few as may be.
func TestFirstText(t *testing.T) {
	for from := range 65 {
		got := value.First(api.Spec{Kind: text, Access: 1, Low: int64(from), High: 64})
		if !bytes.Equal(got, make([]byte, from)) {
			t.Fatal(from, got)
		}
	}
}

// bytesAbout are bytes of a kind's size: all of one byte; else those of numbers about the bounds, of its own or not.
func bytesAbout(r row) [][]byte {
	var l [][]byte
	if r.size == 1 {
		for x := range 256 {
			l = append(l, []byte{byte(x)})
		}
		return l
	}
	for _, n := range bounds(r) {
		for d := int64(-2); d <= 2; d++ {
			l = append(l, bytesOf(r.size, (n%(1<<40))+d))
		}
	}
	return l
}

// P13.1, P13.2: which bytes fit, and which numbers they are.
func TestFitsNumbers(t *testing.T) {
	for _, r := range rows() {
		for _, s := range specs(r) {
			for _, b := range bytesAbout(r) {
				want := api.Abort(0)
				n, is := numberOf(r, b)
				switch {
				case !is:
					want = noValue
				case n > s.High:
					want = high
				case n < s.Low:
					want = low
				}
				if got := value.Fits(s, b); got != want {
					t.Fatalf("%v, % x: %x, not %x", s, b, got, want)
				}
				if want != 0 {
					n = 0
				}
				if got, fits := value.Num(s, b); got != n || fits != (want == 0) {
					t.Fatalf("%v, % x: %d, %v", s, b, got, fits)
				}
			}
		}
	}
}

// P13.1: bytes of another size, which is told ahead of what they are.
func TestFitsSizes(t *testing.T) {
	for _, r := range rows() {
		for _, s := range specs(r) {
			for size := range 11 {
				if size == r.size {
					continue
				}
				want := api.Abort(short)
				if size > r.size {
					want = long
				}
				for _, b := range [][]byte{make([]byte, size), bytes.Repeat([]byte{255}, size), bytes.Repeat([]byte{1}, size)} {
					if got := value.Fits(s, b); got != want {
						t.Fatalf("%v, % x: %x", s, b, got)
					}
					if n, is := value.Num(s, b); n != 0 || is {
						t.Fatal(s, b, n)
					}
				}
			}
			if a := value.Fits(s, nil); a != short {
				t.Fatal(s, a)
			}
		}
	}
}

// P13.1, P13.2: texts of how many bytes fit, whatever these are; none is a number.
func TestFitsTexts(t *testing.T) {
	for _, edge := range [][2]int{{0, 0}, {0, 1}, {1, 1}, {4, 4}, {1, 4}, {0, 40}, {0, 64}, {64, 64}, {63, 64}} {
		s := api.Spec{Kind: text, Access: 3, Low: int64(edge[0]), High: int64(edge[1])}
		for size := range 300 {
			want := api.Abort(0)
			if size < edge[0] {
				want = short
			}
			if size > edge[1] {
				want = long
			}
			for _, x := range []byte{0, 'a', 255} {
				b := bytes.Repeat([]byte{x}, size)
				if got := value.Fits(s, b); got != want {
					t.Fatalf("%v, %d bytes: %x", s, size, got)
				}
				if n, is := value.Num(s, b); n != 0 || is {
					t.Fatal(s, n)
				}
			}
		}
		for _, n := range []int64{s.Low, s.High, 5, -1, 65, math.MinInt64, math.MaxInt64} {
			if b, e := value.Bytes(s, n); b != nil || e != api.ErrArg {
				t.Fatal(n, b, e)
			}
		}
	}
	if a := value.Fits(api.Spec{Kind: text, Access: 1, High: 2}, nil); a != 0 {
		t.Fatal(a)
	}
	if a := value.Fits(api.Spec{Kind: text, Access: 1, High: 64}, make([]byte, 1<<20)); a != long {
		t.Fatal(a)
	}
}

// P13.2, P13.3: what Bytes makes are the number's bytes, it fits, and Num tells it.
func TestBytes(t *testing.T) {
	for _, r := range rows() {
		for _, s := range specs(r) {
			for _, n := range bounds(r) {
				b, e := value.Bytes(s, n)
				if n < s.Low || n > s.High {
					if b != nil || e != api.ErrFit {
						t.Fatal(s, n, b, e)
					}
					continue
				}
				if e != api.OK || !bytes.Equal(b, bytesOf(r.size, n)) {
					t.Fatal(s, n, b, e)
				}
				if a := value.Fits(s, b); a != api.Fine {
					t.Fatal(s, n, a)
				}
				if got, is := value.Num(s, b); got != n || !is {
					t.Fatal(s, n, got)
				}
			}
		}
	}
}

// P13.3: the first value fits.
func TestFirstFits(t *testing.T) {
	for _, r := range rows() {
		for _, s := range specs(r) {
			if a := value.Fits(s, value.First(s)); a != api.Fine {
				t.Fatal(s, a)
			}
		}
	}
	for from := range int64(65) {
		for to := from; to <= 64; to++ {
			s := api.Spec{Kind: text, Access: 2, Low: from, High: to}
			if a := value.Fits(s, value.First(s)); a != api.Fine {
				t.Fatal(s, a)
			}
		}
	}
}

// P13.1: what an entry's access is plays no part in what fits it.
func TestAccessPlaysNoPart(t *testing.T) {
	for _, a := range accesses() {
		s := api.Spec{Kind: api.I8, Access: a, Low: -3, High: 3}
		if value.Fits(s, []byte{4}) != high || value.Fits(s, []byte{0xfc}) != low || value.Fits(s, []byte{0xfd}) != 0 {
			t.Fatal(a)
		}
		if b, e := value.Bytes(s, -1); e != api.OK || !bytes.Equal(b, []byte{255}) {
			t.Fatal(a, b, e)
		}
		if n, is := value.Num(s, []byte{2}); n != 2 || !is {
			t.Fatal(a, n)
		}
	}
}

// P13.2: who may read and write.
func TestReadsAndWrites(t *testing.T) {
	reads := []api.Abort{0, 0x06010001, 0, 0}
	writes := []api.Abort{0x06010002, 0, 0, 0x06010002}
	for i, a := range accesses() {
		if got := value.Reads(a); got != reads[i] {
			t.Fatalf("Reads(%d): %x", a, got)
		}
		if got := value.Writes(a); got != writes[i] {
			t.Fatalf("Writes(%d): %x", a, got)
		}
	}
	for _, a := range wrongAccesses() {
		if r, w := value.Reads(a), value.Writes(a); r != 0x06010000 || w != 0x06010000 {
			t.Fatalf("%d: %x, %x", a, r, w)
		}
	}
}

// P13.2: the reasons that api names, and others about them.
func TestKnown(t *testing.T) {
	reasons := []api.Abort{
		0x05030000, 0x05040000, 0x05040001, 0x05040002, 0x05040003, 0x05040004, 0x06010000, 0x06010001, 0x06010002, 0x06020000, 0x06040041,
		0x06040042, 0x06070010, 0x06070012, 0x06070013, 0x06090011, 0x06090030, 0x06090031, 0x06090032, 0x08000000, 0x08000022,
	}
	for _, a := range reasons {
		if !value.Known(a) {
			t.Errorf("%x", a)
		}
		others := []api.Abort{-a, a + 1<<32, ^a}
		for bit := range 40 {
			others = append(others, a^1<<bit)
		}
		for d := api.Abort(1); d < 300; d++ {
			others = append(others, a+d, a-d)
		}
		for _, x := range others {
			if value.Known(x) != slices.Contains(reasons, x) {
				t.Errorf("%x", x)
			}
		}
	}
	for _, a := range []api.Abort{0, 1, -1, 2, 9, 0x05000000, 0x06000000, 0xffffffff, math.MaxInt, math.MinInt} {
		if value.Known(a) {
			t.Errorf("%x", a)
		}
	}
}

// P3: what is handed in stays as it is, spare room too; what is answered is new memory.
func TestMemory(t *testing.T) {
	b := []byte{5, 0, 77, 78}
	s := api.Spec{Kind: api.U16, Access: 3, Low: 1, High: 9}
	value.Fits(s, b[:2])
	value.Num(s, b[:2])
	value.Fits(api.Spec{Kind: text, Access: 3, High: 1}, b[:2])
	if !bytes.Equal(b, []byte{5, 0, 77, 78}) {
		t.Fatal(b)
	}
	for _, s := range []api.Spec{s, {Kind: text, Access: 3, Low: 2, High: 9}} {
		one, two := value.First(s), value.First(s)
		one[0] = 200
		if two[0] == 200 || value.First(s)[0] == 200 {
			t.Fatal(two)
		}
	}
	one, _ := value.Bytes(s, 7)
	one[0] = 200
	if two, _ := value.Bytes(s, 7); two[0] != 7 {
		t.Fatal(two)
	}
}
