package poly_test

import (
	"bytes"
	"math"
	"slices"
	"strings"
	"testing"

	"tripwire/poly"
)

// The calls have just these signatures.
var (
	_ func(poly.Poly) bool                   = poly.Poly.May
	_ func(poly.Poly, []byte) uint32         = poly.Poly.Whole
	_ func(poly.Poly, uint32, []byte) uint32 = poly.Poly.Rem
	_ func(poly.Poly, []byte) []byte         = poly.Poly.Seal
	_ func([]byte) int                       = poly.Crc15
	_ func([]byte) int                       = poly.Crc16
)

// divide is the remainder of a row by a divisor, as one divides on paper: from the highest power on, the divisor's row is taken away wherever a 1 stands.
func divide(p poly.Poly, b []byte) uint32 {
	row := lowest(b)
	for at := 0; at+p.Width < len(row); at++ {
		if row[at] == 0 {
			continue
		}
		row[at] = 0
		for k := range p.Width {
			row[at+p.Width-k] ^= byte(p.Low >> k & 1)
		}
	}
	n := uint32(0)
	for _, x := range row {
		n = n<<1 | uint32(x)
	}
	return n
}

// lowest is a row of which each byte has its lowest bit alone.
func lowest(b []byte) []byte {
	row := slices.Clone(b)
	for i := range row {
		row[i] &= 1
	}
	return row
}

// digits are so many bits of a number, the highest first.
func digits(n uint64, width int) []byte {
	row := make([]byte, width)
	for i := range row {
		row[i] = byte(n >> (width - 1 - i) & 1)
	}
	return row
}

// sum is the sum of two rows, which end at the same power.
func sum(a, b []byte) []byte {
	if len(a) < len(b) {
		a, b = b, a
	}
	row := lowest(a)
	for i, x := range b {
		row[len(a)-len(b)+i] ^= x & 1
	}
	return row
}

// rem is what the document says of Rem.
func rem(p poly.Poly, start uint32, b []byte) uint32 {
	noughts := make([]byte, p.Width)
	first := digits(uint64(start)&(1<<p.Width-1), p.Width)
	ahead := append(first, make([]byte, len(b))...)
	return divide(p, sum(slices.Concat(b, noughts), ahead))
}

// row is a row with other bits than the lowest set, too; the same one for one seed.
func row(seed, n int) []byte {
	b := make([]byte, n)
	x := uint64(seed)*2 + 1
	for i := range b {
		x = x*6364136223846793005 + 1442695040888963407
		b[i] = byte(x >> 53)
	}
	return b
}

// shortRows are all rows of at most so many bits.
func shortRows(longest int) [][]byte {
	var l [][]byte
	for width := range longest + 1 {
		for n := range 1 << width {
			l = append(l, digits(uint64(n), width))
		}
	}
	return l
}

// divisors are all of small widths, and at each width some.
func divisors() []poly.Poly {
	var l []poly.Poly
	for width := 1; width <= 4; width++ {
		for low := range uint32(1 << width) {
			l = append(l, poly.Poly{Width: width, Low: low})
		}
	}
	for width := 5; width <= 31; width++ {
		all := uint32(1)<<width - 1
		for _, low := range []uint32{0, 1, 2, 3, all, all - 1, all/2 + 1, 0x4599 & all, 0x1021 & all, 0x5a5a5a5b & all} {
			l = append(l, poly.Poly{Width: width, Low: low})
		}
	}
	return l
}

// none are no divisors.
func none() []poly.Poly {
	var l []poly.Poly
	for _, width := range []int{0, -1, -2, -15, -31, -32, 32, 33, 47, 63, 64, 65, 256 + 15, 1 << 16, 1<<32 + 15, math.MaxInt, math.MinInt, math.MaxInt32, math.MinInt32} {
		for _, low := range []uint32{0, 1, 3, 0x4599, math.MaxUint32} {
			l = append(l, poly.Poly{Width: width, Low: low})
		}
	}
	for width := 1; width <= 31; width++ {
		for _, low := range []uint32{1 << width, 1<<width | 1, 1 << 31, math.MaxUint32} {
			l = append(l, poly.Poly{Width: width, Low: low})
		}
	}
	return l
}

// starts are numbers with which a row may begin, those above a width, too.
func starts(width int) []uint32 {
	return []uint32{0, 1, 2, 5, 1 << (width - 1), 1<<width - 1, 1 << width, 1<<width + 1, 0xffff, 0xdeadbeef, 1 << 31, math.MaxUint32}
}

// P3.1: a divisor has a Width from 1 to 31, and a Low below 2 to it.
func TestMay(t *testing.T) {
	for _, p := range divisors() {
		if !p.May() {
			t.Fatal(p)
		}
	}
	for _, p := range none() {
		if p.May() {
			t.Fatal(p)
		}
	}
	if !(poly.Poly{Width: 31, Low: math.MaxInt32}).May() || (poly.Poly{Width: 31, Low: 1 << 31}).May() || (poly.Poly{}).May() {
		t.Fatal("the edges")
	}
}

// P3.1: of what is no divisor 0, or nothing, whatever the row is.
func TestNoDivisor(t *testing.T) {
	for _, p := range none() {
		for _, b := range [][]byte{nil, {}, {0}, {1}, {0xff, 0xfe}, row(1, 40)} {
			if n := p.Whole(b); n != 0 {
				t.Fatalf("%v: Whole(%v): %d", p, b, n)
			}
			for _, start := range []uint32{0, 1, 0xffff, math.MaxUint32} {
				if n := p.Rem(start, b); n != 0 {
					t.Fatalf("%v: Rem(%d, %v): %d", p, start, b, n)
				}
			}
			if l := p.Seal(b); len(l) != 0 {
				t.Fatalf("%v: Seal(%v): %v", p, b, l)
			}
		}
	}
}

// P3.1: what is left of a row; of each byte the lowest bit alone counts.
func TestWhole(t *testing.T) {
	rows := append(shortRows(7), nil, row(1, 31), row(2, 32), row(3, 33), row(4, 100), row(5, 257), bytes.Repeat([]byte{1}, 64), bytes.Repeat([]byte{0xfe}, 64))
	for _, p := range divisors() {
		for _, b := range rows {
			if got, want := p.Whole(b), divide(p, b); got != want {
				t.Fatalf("%v: Whole(%v): %x, not %x", p, b, got, want)
			}
		}
	}
}

// P3.1: noughts behind the row, and the start ahead of it, of which the lowest bits alone count.
func TestRem(t *testing.T) {
	rows := append(shortRows(4), nil, row(1, 30), row(2, 31), row(3, 65), row(4, 130))
	for _, p := range divisors() {
		for _, b := range rows {
			for _, start := range starts(p.Width) {
				if got, want := p.Rem(start, b), rem(p, start, b); got != want {
					t.Fatalf("%v: Rem(%x, %v): %x, not %x", p, start, b, got, want)
				}
			}
		}
	}
}

// P3.1: all of it in numbers that are reckoned by hand.
func TestRemByHand(t *testing.T) {
	p := poly.Poly{Width: 3, Low: 3} // x^3 + x + 1
	for _, c := range []struct {
		start uint32
		b     []byte
		want  uint32
	}{
		{0, nil, 0}, {0, []byte{1}, 3}, {0, []byte{3}, 3}, {0, []byte{2}, 0}, {0, []byte{0, 0, 1}, 3}, {0, []byte{1, 0}, 6},
		{0, []byte{1, 0, 0}, 7}, {0, []byte{1, 0, 0, 0}, 5}, {0, []byte{1, 0, 0, 0, 0}, 1}, {0, []byte{1, 1}, 5},
		{5, nil, 5}, {8, nil, 0}, {13, nil, 5}, {1, []byte{0}, 2}, {4, []byte{0}, 3}, {4, []byte{1}, 0}, {12, []byte{1}, 0},
	} {
		if got := p.Rem(c.start, c.b); got != c.want {
			t.Fatalf("Rem(%d, %v): %d, not %d", c.start, c.b, got, c.want)
		}
	}
	for i, want := range []uint32{1, 2, 4, 3, 6, 7, 5, 1, 2} {
		b := make([]byte, i+1)
		b[0] = 1
		if got := p.Whole(b); got != want {
			t.Fatalf("Whole of x to the %d: %d, not %d", i, got, want)
		}
	}
}

// P3.1: the row, and the remainder's bits behind, the highest first; each is 0 or 1.
func TestSeal(t *testing.T) {
	rows := append(shortRows(5), nil, row(1, 31), row(2, 32), row(3, 129))
	for _, p := range divisors() {
		for _, b := range rows {
			want := append(lowest(b), digits(uint64(rem(p, 0, b)), p.Width)...)
			if got := p.Seal(b); !bytes.Equal(got, want) {
				t.Fatalf("%v: Seal(%v): %v, not %v", p, b, got, want)
			}
		}
	}
	if got := (poly.Poly{Width: 3, Low: 3}).Seal([]byte{1, 0}); !bytes.Equal(got, []byte{1, 0, 1, 1, 0}) {
		t.Fatal(got)
	}
}

// bitsOf are bytes' bits, each one's highest first.
func bitsOf(b []byte) []byte {
	var row []byte
	for _, x := range b {
		row = append(row, digits(uint64(x), 8)...)
	}
	return row
}

// P3.2: the check of a row of bits.
func TestCrc15(t *testing.T) {
	p := poly.Poly{Width: 15, Low: 0x4599}
	for _, c := range []struct {
		b    []byte
		want int
	}{
		{nil, 0}, {[]byte{0}, 0}, {[]byte{1}, 0x4599}, {[]byte{0xfe}, 0}, {[]byte{0xff}, 0x4599},
		{make([]byte, 34), 0}, {bitsOf([]byte("123456789")), 0x059e},
	} {
		if got := poly.Crc15(c.b); got != c.want {
			t.Fatalf("Crc15(%v): %x, not %x", c.b, got, c.want)
		}
	}
	for n := range 200 {
		if b := row(n, n); poly.Crc15(b) != int(rem(p, 0, b)) {
			t.Fatalf("Crc15(%v): %x", b, poly.Crc15(b))
		}
	}
	for _, b := range shortRows(10) {
		if poly.Crc15(b) != int(rem(p, 0, b)) {
			t.Fatalf("Crc15(%v): %x", b, poly.Crc15(b))
		}
	}
}

// P3.2: the check of bytes: all of their bits count.
func TestCrc16(t *testing.T) {
	p := poly.Poly{Width: 16, Low: 0x1021}
	for _, c := range []struct {
		s    string
		want int
	}{
		{"", 0}, {"\x00", 0}, {strings.Repeat("\x00", 14), 0}, {"\x01", 0x1021}, {"\x80", 0x9188}, {"\xff", 0x1ef0},
		{"A", 0x58e5}, {"123456789", 0x31c3},
	} {
		if got := poly.Crc16([]byte(c.s)); got != c.want {
			t.Fatalf("Crc16(%q): %x, not %x", c.s, got, c.want)
		}
	}
	if poly.Crc16(nil) != 0 {
		t.Fatal("of nothing")
	}
	for x := range 256 {
		for _, b := range [][]byte{{byte(x)}, {byte(x), 0}, {0, byte(x)}, {byte(x), byte(x * 7), 1}} {
			if got, want := poly.Crc16(b), int(rem(p, 0, bitsOf(b))); got != want {
				t.Fatalf("Crc16(%v): %x, not %x", b, got, want)
			}
		}
	}
	for n := range 100 {
		if b := row(n, n); poly.Crc16(b) != int(rem(p, 0, bitsOf(b))) {
			t.Fatalf("Crc16(%v): %x", b, poly.Crc16(b))
		}
	}
}

// P3.3: the remainder of a sum is the sum of the remainders.
func TestSums(t *testing.T) {
	for _, p := range divisors() {
		for n := range 12 {
			a, b := row(n, 10*n), row(n+100, 100-9*n)
			if p.Whole(sum(a, b)) != p.Whole(a)^p.Whole(b) {
				t.Fatalf("%v: Whole of %v and %v", p, a, b)
			}
			c := row(n+200, len(a))
			for _, start := range starts(p.Width) {
				if p.Rem(start^77, sum(a, c)) != p.Rem(start, a)^p.Rem(77, c) {
					t.Fatalf("%v: Rem of %v and %v, from %x", p, a, c, start)
				}
			}
		}
	}
}

// P3.3: in one go, or in pieces.
func TestPieces(t *testing.T) {
	for _, p := range divisors() {
		b := row(p.Width, 70)
		for _, start := range starts(p.Width) {
			want := p.Rem(start, b)
			for at := range len(b) + 1 {
				if got := p.Rem(p.Rem(start, b[:at]), b[at:]); got != want {
					t.Fatalf("%v: %v, cut at %d: %x, not %x", p, b, at, got, want)
				}
			}
			n := start
			for i := range b {
				n = p.Rem(n, b[i:i+1])
			}
			if n != want {
				t.Fatalf("%v: %v, bit by bit: %x, not %x", p, b, n, want)
			}
		}
	}
}

// P3.3: what is sealed has the remainder 0; it has not, if bits near each other are turned.
func TestSealed(t *testing.T) {
	for _, p := range divisors() {
		for n := range 5 {
			b := p.Seal(row(n, 9*n))
			if p.Whole(b) != 0 {
				t.Fatalf("%v: %v has the remainder %x", p, b, p.Whole(b))
			}
			if p.Low%2 == 0 {
				continue
			}
			for at := range b {
				for _, turned := range burst(b[at:min(at+p.Width, len(b))]) {
					spoilt := slices.Concat(b[:at], turned, b[at+len(turned):])
					if p.Whole(spoilt) == 0 {
						t.Fatalf("%v: %v, turned to %v, has the remainder 0", p, b, spoilt)
					}
				}
			}
		}
	}
}

// burst are rows that are unlike one, in its first bit at least: all of them of a short row, some of a longer one.
func burst(b []byte) [][]byte {
	var l [][]byte
	most := min(1<<(len(b)-1), 64)
	for n := range most {
		turns := digits(uint64(n*0x9e3779b1), len(b))
		if len(b) <= 7 {
			turns = digits(uint64(n), len(b))
		}
		turns[0] = 1
		l = append(l, sum(b, turns))
	}
	return l
}

// P2, P6: nothing is kept: a call answers the same again, whatever came between.
func TestAgain(t *testing.T) {
	b := row(9, 90)
	p, q := poly.Poly{Width: 15, Low: 0x4599}, poly.Poly{Width: 7, Low: 9}
	whole, left, sealed, crc := p.Whole(b), p.Rem(5, b), p.Seal(b), poly.Crc16(b)
	q.Seal(b)
	q.Rem(99, row(8, 30))
	poly.Crc15(b)
	poly.Poly{}.Seal(b)
	if p.Whole(b) != whole || p.Rem(5, b) != left || !bytes.Equal(p.Seal(b), sealed) || poly.Crc16(b) != crc {
		t.Fatal("a call hangs on others")
	}
}

// P3: what is handed in stays as it is, the spare room behind it, too; what is answered is new memory.
func TestHandedInStays(t *testing.T) {
	p := poly.Poly{Width: 15, Low: 0x4599}
	for n := range 40 {
		room := row(n, n+64)
		before := slices.Clone(room)
		b := room[:n]
		p.Whole(b)
		p.Rem(3, b)
		poly.Crc15(b)
		poly.Crc16(b)
		one, two := p.Seal(b), p.Seal(b)
		want := slices.Clone(one)
		clear(two[:cap(two)])
		if !bytes.Equal(room, before) {
			t.Fatalf("of %v there is %v left", before, room)
		}
		clear(room)
		if !bytes.Equal(one, want) {
			t.Fatal("what is answered is not new memory")
		}
	}
}

// The bound: long rows.
func TestLong(t *testing.T) {
	b := row(5, 1<<20+3)
	half := len(b) / 2
	p := poly.Poly{Width: 31, Low: 0x5a5a5a5b}
	if p.Rem(p.Rem(7, b[:half]), b[half:]) != p.Rem(7, b) || p.Whole(p.Seal(b)) != 0 {
		t.Fatal("a long row")
	}
	q := poly.Poly{Width: 16, Low: 0x1021}
	if got, want := poly.Crc16(b), int(q.Rem(0, bitsOf(b))); got != want {
		t.Fatalf("Crc16 of many bytes: %x, not %x", got, want)
	}
	if got, want := poly.Crc15(b), int(poly.Poly{Width: 15, Low: 0x4599}.Rem(0, b)); got != want {
		t.Fatalf("Crc15 of many bits: %x, not %x", got, want)
	}
}
