// Package bits is layer 1, rows of bits and what a bus puts between them: see shared/doc/01-bits.md.
package bits

import (
	"iter"

	"tripwire/api"
)

const (
	widest = 32 // bits of the greatest number
	most   = 5  // equal bits that may stand behind each other on the bus
)

// Of is the lowest bits of a number.
func Of(n uint32, width int) []byte {
	width = min(max(width, 0), widest)
	row := make([]byte, width)
	for i := range width {
		row[i] = low(byte(n >> (width - 1 - i)))
	}
	return row
}

// Num is the number of some bits.
func Num(b []byte) (uint32, api.Errno) {
	if len(b) > widest {
		return 0, api.ErrLimit
	}
	n := uint32(0)
	for _, x := range b {
		n = n<<1 | uint32(low(x))
	}
	return n, api.OK
}

// low is the bit of a byte: the others of it may be anything.
func low(x byte) byte { return x & 1 }

// clean is a row's own copy: whoever handed the row in may change it later.
func clean(b []byte) []byte {
	row := make([]byte, len(b))
	for i, x := range b {
		row[i] = low(x)
	}
	return row
}

// tail is what stands at a row's end: a bit, and how often.
type tail struct {
	bit byte
	n   int
}

// add puts a bit behind it: must the other one follow?
func (t *tail) add(bit byte) bool {
	if bit != t.bit {
		*t = tail{bit: bit}
	}
	t.n++
	return t.n == most
}

// Stuff puts a bit behind each five equal ones.
func Stuff(b []byte) []byte {
	row := make([]byte, 0, len(b)+len(b)/(most-1))
	var end tail
	for _, x := range b {
		bit := low(x)
		row = append(row, bit)
		if end.add(bit) {
			row = append(row, 1-bit)
			end.add(1 - bit) // it may be the first of the next five
		}
	}
	return row
}

// Unstuff takes these bits away.
func Unstuff(b []byte) ([]byte, api.Errno) {
	row := make([]byte, 0, len(b))
	var end tail
	between := false
	for _, x := range b {
		bit := low(x)
		if between && bit == end.bit {
			return nil, api.ErrStuff
		}
		if !between {
			row = append(row, bit)
		}
		between = end.add(bit)
	}
	if between {
		return nil, api.ErrEnd
	}
	return row, api.OK
}

// Runs is all runs, in order.
func Runs(b []byte) iter.Seq2[byte, int] {
	row := clean(b)
	return func(yield func(byte, int) bool) {
		for at := 0; at < len(row); {
			n := run(row[at:])
			if !yield(row[at], n) {
				return
			}
			at += n
		}
	}
}

// run is how many equal bits a row begins with.
func run(row []byte) int {
	for i, x := range row {
		if x != row[0] {
			return i
		}
	}
	return len(row)
}

// Turn is a row in which some bits are turned.
func Turn(b []byte, at ...int) []byte {
	row := clean(b)
	for _, i := range at {
		if 0 <= i && i < len(row) {
			row[i] = 1 - row[i]
		}
	}
	return row
}

// Text is a row as text.
func Text(b []byte) string {
	text := make([]byte, len(b))
	for i, x := range b {
		text[i] = '0' + low(x)
	}
	return string(text)
}

// Parse is a text's row.
func Parse(s string) ([]byte, api.Errno) {
	row := make([]byte, len(s))
	for i := range len(s) {
		if s[i] != '0' && s[i] != '1' {
			return nil, api.ErrForm
		}
		row[i] = s[i] - '0'
	}
	return row, api.OK
}
