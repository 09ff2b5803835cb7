package chunk_test

import (
	"bytes"
	"math"
	"math/rand"
	"slices"
	"testing"

	"tripwire/api"
	"tripwire/chunk"
	"tripwire/poly"
	"tripwire/sdomsg"
)

// The calls have just these signatures.
var (
	_ func([]byte, int) (*chunk.Send, api.Errno)    = chunk.NewSend
	_ func(*chunk.Send) []api.Line                  = (*chunk.Send).Block
	_ func(*chunk.Send, int, int) api.Abort         = (*chunk.Send).Ack
	_ func(*chunk.Send) bool                        = (*chunk.Send).Done
	_ func(*chunk.Send) (int, int)                  = (*chunk.Send).End
	_ func(int) (*chunk.Take, api.Errno)            = chunk.NewTake
	_ func(*chunk.Take, api.Line) (bool, api.Abort) = (*chunk.Take).Put
	_ func(*chunk.Take) (int, int)                  = (*chunk.Take).Ack
	_ func(*chunk.Take) bool                        = (*chunk.Take).Whole
	_ func(*chunk.Take, int) ([]byte, api.Abort)    = (*chunk.Take).End
	_ func([]byte) int                              = chunk.Crc
)

// row are so many bytes, none of them 0.
func row(n int) []byte {
	b := make([]byte, n)
	for i := range b {
		b[i] = byte(i + 1)
	}
	return b
}

func newSend(t *testing.T, b []byte, block int) *chunk.Send {
	t.Helper()
	s, e := chunk.NewSend(b, block)
	if s == nil || e != api.OK {
		t.Fatalf("NewSend(%v, %d): %v %v", b, block, s, e)
	}
	return s
}

func newTake(t *testing.T, block int) *chunk.Take {
	t.Helper()
	x, e := chunk.NewTake(block)
	if x == nil || e != api.OK {
		t.Fatalf("NewTake(%d): %v %v", block, x, e)
	}
	return x
}

// seg is a segment's line.
func seg(t *testing.T, seq int, last bool, b ...byte) api.Line {
	t.Helper()
	l, e := sdomsg.Seg(seq, last, b)
	if e != api.OK {
		t.Fatal(e)
	}
	return l
}

// segs are the lines of the segments of some bytes, from the place first on, at most n of them.
func segs(t *testing.T, b []byte, first, n int) []api.Line {
	t.Helper()
	var pieces [][]byte
	for len(b) > 7 {
		pieces = append(pieces, b[:7])
		b = b[7:]
	}
	pieces = append(pieces, b)
	var l []api.Line
	for i := first; i < len(pieces) && i < first+n; i++ {
		l = append(l, seg(t, i-first+1, i == len(pieces)-1, pieces[i]...))
	}
	return l
}

// acks checks what Ack of a sender answers.
func acks(t *testing.T, s *chunk.Send, seq, block int, want api.Abort) {
	t.Helper()
	if a := s.Ack(seq, block); a != want {
		t.Errorf("Ack(%d, %d): %x, want %x", seq, block, a, want)
	}
}

// puts checks what Put answers.
func puts(t *testing.T, x *chunk.Take, b api.Line, ends bool, want api.Abort) {
	t.Helper()
	if is, a := x.Put(b); is != ends || a != want {
		t.Errorf("Put(% x): %v %x, want %v %x", b, is, a, ends, want)
	}
}

// told checks what Ack of a receiver answers.
func told(t *testing.T, x *chunk.Take, n, block int) {
	t.Helper()
	if a, b := x.Ack(); a != n || b != block {
		t.Errorf("Ack: %d %d, want %d %d", a, b, n, block)
	}
}

// The document's example.
func TestExample(t *testing.T) {
	b := row(10)
	s := newSend(t, b, 4)
	want := []api.Line{{1, 1, 2, 3, 4, 5, 6, 7}, {0x82, 8, 9, 10}}
	if l := s.Block(); !slices.Equal(l, want) {
		t.Errorf("Block: % x", l)
	}
	if spare, crc := s.End(); spare != 4 || crc != poly.Crc16(b) {
		t.Errorf("End: %d %x", spare, crc)
	}
}

// P18.1, P18.2: who may be made.
func TestNew(t *testing.T) {
	for _, block := range []int{0, -1, 128, 255, 256 + 1, math.MaxInt, math.MinInt} {
		if s, e := chunk.NewSend([]byte{1}, block); s != nil || e != api.ErrArg {
			t.Errorf("NewSend(%d): %v %v", block, s, e)
		}
		if x, e := chunk.NewTake(block); x != nil || e != api.ErrArg {
			t.Errorf("NewTake(%d): %v %v", block, x, e)
		}
	}
	for _, block := range []int{1, 2, 4, 126, 127} {
		newSend(t, nil, block)
		newSend(t, row(64), block)
		told(t, newTake(t, block), 0, block)
	}
	for _, n := range []int{65, 66, 70, 71, 1000} {
		if s, e := chunk.NewSend(row(n), 4); s != nil || e != api.ErrArg {
			t.Errorf("NewSend of %d bytes: %v %v", n, s, e)
		}
	}
}

// P18.1: the blocks of all rows of bytes, in blocks of all sizes.
func TestBlocks(t *testing.T) {
	for n := range 65 {
		b := row(n)
		all := max(1, (n+6)/7)
		for _, block := range []int{1, 2, 3, 4, 9, 10, 11, 127} {
			s := newSend(t, b, block)
			if spare, crc := s.End(); spare != all*7-n || crc != poly.Crc16(b) {
				t.Errorf("%d: End: %d %x", n, spare, crc)
			}
			for at := 0; at < all; at += block {
				want := segs(t, b, at, block)
				if s.Done() {
					t.Errorf("%d: Done at %d of %d", n, at, all)
				}
				for range 2 { // as often as one asks
					if l := s.Block(); !slices.Equal(l, want) {
						t.Errorf("%d in blocks of %d at %d: % x, want % x", n, block, at, l, want)
					}
				}
				acks(t, s, len(want), block, api.Fine)
			}
			if !s.Done() || len(s.Block()) != 0 {
				t.Errorf("%d: not Done", n)
			}
			if spare, crc := s.End(); spare != all*7-n || crc != poly.Crc16(b) {
				t.Errorf("%d: End: %d %x", n, spare, crc)
			}
		}
	}
}

// P18.1: what Ack confirms.
func TestSendAck(t *testing.T) {
	b := row(50) // eight segments
	s := newSend(t, b, 3)
	acks(t, s, 1, 3, api.AbSeq) // none are on their way
	s.Block()
	acks(t, s, 2, 5, api.Fine)
	acks(t, s, 1, 5, api.AbSeq) // what was not confirmed is not on its way any more
	if l := s.Block(); !slices.Equal(l, segs(t, b, 2, 5)) {
		t.Errorf("behind 2: % x", l)
	}
	acks(t, s, 0, 1, api.Fine)
	acks(t, s, 1, 1, api.AbSeq)
	if l := s.Block(); !slices.Equal(l, segs(t, b, 2, 1)) {
		t.Errorf("behind 2, one: % x", l)
	}
	acks(t, s, 1, 127, api.Fine)
	acks(t, s, 0, 127, api.Fine) // none are on their way: none more are confirmed
	if l := s.Block(); !slices.Equal(l, segs(t, b, 3, 127)) {
		t.Errorf("behind 3: % x", l)
	}
	acks(t, s, 5, 127, api.Fine)
	if !s.Done() {
		t.Error("not Done")
	}
	for _, x := range [][2]int{{0, 4}, {-1, 4}, {1, 4}, {0, 0}} {
		acks(t, s, x[0], x[1], api.AbState)
	}
}

// P18.1: why Ack refuses, and that nothing is changed by that.
func TestSendAckWrong(t *testing.T) {
	b := row(30)
	s := newSend(t, b, 3)
	s.Block()
	for _, x := range []struct {
		seq, block int
		want       api.Abort
	}{
		{-1, 3, api.AbSeq}, {4, 3, api.AbSeq}, {5, 127, api.AbSeq}, {math.MaxInt, 3, api.AbSeq}, {math.MinInt, 3, api.AbSeq},
		{4, 0, api.AbSeq}, {-1, 128, api.AbSeq},
		{3, 0, api.AbBlock}, {0, 128, api.AbBlock}, {1, -1, api.AbBlock}, {1, 256 + 4, api.AbBlock}, {1, math.MaxInt, api.AbBlock}, {1, math.MinInt, api.AbBlock},
	} {
		acks(t, s, x.seq, x.block, x.want)
	}
	if s.Done() {
		t.Error("Done")
	}
	if l := s.Block(); !slices.Equal(l, segs(t, b, 0, 3)) {
		t.Errorf("Block: % x", l)
	}
	acks(t, s, -1, 3, api.AbSeq)
	acks(t, s, 3, 0, api.AbBlock)
	acks(t, s, 3, 2, api.Fine) // they were on their way still
	if l := s.Block(); !slices.Equal(l, segs(t, b, 3, 2)) {
		t.Errorf("behind 3: % x", l)
	}
}

// P18.1: as many are on their way as the block has, however often it is asked for, and however many it might have.
func TestOnTheirWay(t *testing.T) {
	s := newSend(t, row(30), 3) // five segments
	s.Block()
	s.Block()
	acks(t, s, 4, 3, api.AbSeq)
	acks(t, s, 3, 3, api.Fine)
	s.Block()
	acks(t, s, 3, 3, api.AbSeq)
	acks(t, s, 2, 3, api.Fine)
	if !s.Done() {
		t.Error("not Done")
	}
}

// whole takes lines, and tells what they bring.
func whole(t *testing.T, x *chunk.Take, spare int) []byte {
	t.Helper()
	b, a := x.End(spare)
	if a != api.Fine {
		t.Errorf("End(%d): %x", spare, a)
	}
	return b
}

// P18.2: a receiver takes what comes in its turn, and passes over the rest.
func TestPut(t *testing.T) {
	x := newTake(t, 3)
	puts(t, x, seg(t, 2, false, 9), false, api.Fine) // not its turn
	puts(t, x, seg(t, 3, false, 9), true, api.Fine)  // nor this, but it ends the block
	told(t, x, 0, 3)
	puts(t, x, seg(t, 1, false, 1, 2, 3, 4, 5, 6, 7), false, api.Fine)
	puts(t, x, seg(t, 1, false, 9), false, api.Fine) // once more
	puts(t, x, seg(t, 3, false, 9), true, api.Fine)
	puts(t, x, seg(t, 2, false, 8, 8, 8, 8, 8, 8, 8), false, api.Fine)
	puts(t, x, seg(t, 3, false, 7, 7, 7, 7, 7, 7, 7), true, api.Fine)
	puts(t, x, seg(t, 3, false, 9), true, api.Fine)
	told(t, x, 3, 3)
	told(t, x, 0, 3)
	puts(t, x, seg(t, 2, true, 9), true, api.Fine) // the last one, but not its turn
	if x.Whole() {
		t.Error("Whole")
	}
	told(t, x, 0, 3)
	puts(t, x, seg(t, 1, true, 5), true, api.Fine)
	if !x.Whole() {
		t.Error("not Whole")
	}
	told(t, x, 1, 3)
	told(t, x, 0, 3)
	want := []byte{1, 2, 3, 4, 5, 6, 7, 8, 8, 8, 8, 8, 8, 8, 7, 7, 7, 7, 7, 7, 7, 5, 0, 0, 0, 0, 0, 0}
	for spare := range 8 {
		if b := whole(t, x, spare); !bytes.Equal(b, want[:len(want)-spare]) {
			t.Errorf("End(%d): %v", spare, b)
		}
	}
	if !x.Whole() {
		t.Error("not Whole any more")
	}
}

// P18.2: why Put refuses.
func TestPutWrong(t *testing.T) {
	x := newTake(t, 4)
	puts(t, x, seg(t, 1, false, 1), false, api.Fine)
	puts(t, x, api.Line{0}, false, api.AbSeq)
	puts(t, x, api.Line{0x80}, false, api.AbSeq)
	puts(t, x, seg(t, 5, false), false, api.AbSeq)
	puts(t, x, seg(t, 5, true), false, api.AbSeq)
	puts(t, x, api.Line{255}, false, api.AbSeq)
	if x.Whole() {
		t.Error("Whole")
	}
	told(t, x, 1, 4)
	puts(t, x, seg(t, 1, true, 2), true, api.Fine)
	puts(t, x, seg(t, 2, true, 2), false, api.AbState)
	puts(t, x, seg(t, 1, false, 2), false, api.AbState)
	puts(t, x, api.Line{}, false, api.AbState)
	told(t, x, 1, 4)
	puts(t, x, seg(t, 1, true, 2), false, api.AbState)
	told(t, x, 0, 4)
	if b := whole(t, x, 6); !bytes.Equal(b, []byte{1, 0, 0, 0, 0, 0, 0, 2}) {
		t.Errorf("End: %v", b)
	}
}

// P18.2: ten segments, and no more.
func TestPutLong(t *testing.T) {
	for _, block := range []int{1, 4, 10, 11, 127} {
		x := newTake(t, block)
		for i := range 10 {
			seq := i%block + 1
			puts(t, x, seg(t, seq, false, byte(i)), seq == block, api.Fine)
			if seq == block {
				told(t, x, block, block)
			}
		}
		next := 10%block + 1
		for range 2 {
			puts(t, x, seg(t, next, false, 10), false, api.AbLong)
			puts(t, x, seg(t, next, true, 10), false, api.AbLong)
		}
		if next < block {
			puts(t, x, seg(t, next+1, true, 10), true, api.Fine) // it is passed over
		}
		if _, a := x.End(0); x.Whole() || a != api.AbState {
			t.Errorf("%d: Whole", block)
		}
		told(t, x, next-1, block)
	}
	x := newTake(t, 127)
	for i := range 10 {
		puts(t, x, seg(t, i+1, i == 9, byte(i)), i == 9, api.Fine)
	}
	if b := whole(t, x, 0); len(b) != 70 || b[63] != 9 || !x.Whole() {
		t.Errorf("End: %v", b)
	}
}

// P18.2: why End refuses, and what it leaves away.
func TestEnd(t *testing.T) {
	x := newTake(t, 2)
	for _, spare := range []int{0, 7, -1, 8} {
		if b, a := x.End(spare); len(b) != 0 || a != api.AbState {
			t.Errorf("End(%d): %v %x", spare, b, a)
		}
	}
	puts(t, x, seg(t, 1, true, 1, 2, 3), true, api.Fine)
	for _, spare := range []int{-1, 8, 9, math.MaxInt, math.MinInt} {
		if b, a := x.End(spare); len(b) != 0 || a != api.AbLength {
			t.Errorf("End(%d): %v %x", spare, b, a)
		}
	}
	if b := whole(t, x, 7); len(b) != 0 {
		t.Errorf("End(7): %v", b)
	}
	if b := whole(t, x, 4); !bytes.Equal(b, []byte{1, 2, 3}) {
		t.Errorf("End(4): %v", b)
	}
}

// P18.2: the check is that of poly.
func TestCrc(t *testing.T) {
	if n := chunk.Crc([]byte("123456789")); n != 0x31c3 {
		t.Errorf("Crc: %x", n)
	}
	for n := range 100 {
		if b := row(n); chunk.Crc(b) != poly.Crc16(b) {
			t.Errorf("Crc of %d bytes: %x", n, chunk.Crc(b))
		}
	}
}

// P18.3: of nil.
func TestNil(t *testing.T) {
	var s *chunk.Send
	if spare, crc := s.End(); len(s.Block()) != 0 || !s.Done() || spare != 0 || crc != 0 {
		t.Errorf("nil sender: %d %d", spare, crc)
	}
	acks(t, s, 0, 1, api.AbState)
	acks(t, s, -1, 0, api.AbState)
	var x *chunk.Take
	puts(t, x, seg(t, 1, true, 1), false, api.AbState)
	puts(t, x, api.Line{}, false, api.AbState)
	told(t, x, 0, 0)
	if b, a := x.End(0); len(b) != 0 || a != api.AbState || x.Whole() {
		t.Errorf("nil receiver: %v %x", b, a)
	}
	if _, a := x.End(-1); a != api.AbState {
		t.Errorf("nil receiver: %x", a)
	}
}

// P1: of such as no call made nothing is said but that they do not panic.
func TestNotMade(t *testing.T) {
	s := &chunk.Send{}
	s.Block()
	s.Ack(0, 1)
	s.Done()
	s.End()
	x := &chunk.Take{}
	for head := range 256 {
		x.Put(api.Line{byte(head)})
		x.Ack()
	}
	x.End(7)
	x.Whole()
}

// P18.4: whatever gets lost, the bytes come as they were sent.
func TestLossyWay(t *testing.T) {
	r := rand.New(rand.NewSource(18))
	for range 3000 {
		b := make([]byte, r.Intn(65))
		r.Read(b)
		sizes := func() int { return 1 + r.Intn([]int{1, 4, 12, 127}[r.Intn(4)]) }
		block := sizes()
		s, x := newSend(t, b, block), newTake(t, block)
		loss := r.Intn(90)
		rounds := 0
		for ; !s.Done() && rounds < 2000; rounds++ {
			for _, l := range s.Block() {
				if r.Intn(100) < loss {
					continue
				}
				if _, a := x.Put(l); a != api.Fine {
					t.Fatalf("Put: %x", a)
				}
			}
			n, size := x.Ack()
			acks(t, s, n, size, api.Fine)
			if s.Done() != x.Whole() {
				t.Fatalf("Done %v, Whole %v", s.Done(), x.Whole())
			}
		}
		spare, crc := s.End()
		got := whole(t, x, spare)
		if !bytes.Equal(got, b) || chunk.Crc(got) != crc {
			t.Fatalf("%v came as %v", b, got)
		}
	}
}

// P3: nothing that was handed in is kept, and nothing is answered that is kept.
func TestMemory(t *testing.T) {
	room := row(20)
	s := newSend(t, room[:10], 4)
	if !bytes.Equal(room, row(20)) {
		t.Errorf("NewSend: %v", room)
	}
	clear(room)
	want := segs(t, row(10), 0, 4)
	l := s.Block()
	if !slices.Equal(l, want) {
		t.Errorf("what was handed in is kept: % x", l)
	}
	clear(l)
	if l := s.Block(); !slices.Equal(l, want) {
		t.Errorf("what was answered is kept: % x", l)
	}
	x := newTake(t, 4)
	puts(t, x, seg(t, 1, true, 1, 2), true, api.Fine)
	clear(whole(t, x, 0))
	b, _ := x.End(5)
	if c := append(b, 9, 9, 9); len(c) == 0 || !bytes.Equal(b, []byte{1, 2}) {
		t.Errorf("End: %v", b)
	}
	if b := whole(t, x, 4); !bytes.Equal(b, []byte{1, 2, 0}) {
		t.Errorf("behind End's list: %v", b)
	}
	in := row(9)
	if chunk.Crc(in); !bytes.Equal(in, row(9)) {
		t.Errorf("Crc: %v", in)
	}
}

// P4: two senders, and two receivers, know nothing of each other; a copy stands alone.
func TestAlone(t *testing.T) {
	s, other := newSend(t, row(64), 4), newSend(t, row(64), 4)
	s.Block()
	acks(t, s, 4, 2, api.Fine)
	if l := other.Block(); !slices.Equal(l, segs(t, row(64), 0, 4)) {
		t.Errorf("another sender: % x", l)
	}
	x := newTake(t, 4)
	puts(t, x, seg(t, 1, false, 1), false, api.Fine)
	copied := *x
	puts(t, &copied, seg(t, 2, true, 2), true, api.Fine)
	puts(t, x, seg(t, 2, true, 3), true, api.Fine)
	if b, c := whole(t, x, 6), whole(t, &copied, 6); b[7] != 3 || c[7] != 2 {
		t.Errorf("%v %v", b, c)
	}
}
