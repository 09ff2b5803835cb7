package wire

import (
	"tripwire/api"
	"tripwire/bits"
	"tripwire/poly"
)

// stop is why a reader gives up, from whatever depth: Decode catches it.
type stop struct{ e api.Errno }

// reader goes through bits with which a frame may begin.
type reader struct {
	row  []byte
	at   int    // how many of row have been read
	core []byte // the core's bits so far, without what was put between
	last byte   // the bit that was read last in the core
	same int    // and how many equal ones stand there
}

// next is the bit that comes.
func (r *reader) next() byte {
	if r.at == len(r.row) {
		panic(stop{api.ErrEnd})
	}
	x := r.row[r.at] & 1
	r.at++
	return x
}

// between takes away what was put behind five equal bits, if such stand ahead.
func (r *reader) between() {
	if r.same < equal {
		return
	}
	x := r.next()
	if x == r.last {
		panic(stop{api.ErrStuff})
	}
	r.last, r.same = x, 1
}

// bit is the core's next bit.
func (r *reader) bit() byte {
	r.between()
	x := r.next()
	if x != r.last {
		r.last, r.same = x, 0
	}
	r.same++
	r.core = append(r.core, x)
	return x
}

// num is the core's next number.
func (r *reader) num(width int) int {
	from := len(r.core)
	for range width {
		r.bit()
	}
	n, _ := bits.Num(r.core[from:])
	return int(n)
}

// always gives up, if a bit is not the one that always stands there.
func always(x, there byte) {
	if x != there {
		panic(stop{api.ErrForm})
	}
}

// frame is the whole frame.
func (r *reader) frame() api.Frame {
	f := r.head()
	if !f.Rtr {
		for i := range f.Len {
			f.Data[i] = byte(r.num(byteBits))
		}
	}
	r.check()
	r.tail()
	return f
}

// head is a frame without its bytes.
func (r *reader) head() api.Frame {
	always(r.bit(), 0)
	id := r.num(idBits)
	rtr := r.bit() == 1
	for range spare {
		always(r.bit(), 0)
	}
	n := r.num(lenBits)
	if n > api.MaxLen {
		panic(stop{api.ErrLen})
	}
	return api.Frame{Id: id, Rtr: rtr, Len: n}
}

// check holds the core's check against what stands ahead of it.
func (r *reader) check() {
	want := poly.Crc15(r.core)
	n := r.num(crcBits)
	r.between() // what is put behind the core's last five bits is its last one
	if n != want {
		panic(stop{api.ErrCrc})
	}
}

// tail is what stands behind the core.
func (r *reader) tail() {
	for i := range tailBits {
		x := r.next()
		if i != ackAt {
			always(x, 1)
		}
	}
}
