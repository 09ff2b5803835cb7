package serve_test

import (
	"bytes"
	"math/rand"
	"slices"
	"testing"

	"tripwire/api"
	"tripwire/area"
	"tripwire/chunk"
	"tripwire/dict"
	"tripwire/sdomsg"
	"tripwire/serve"
	"tripwire/value"
)

// The calls have just these signatures.
var (
	_ func() *serve.Server                                 = serve.New
	_ func(*serve.Server, *dict.Dict, api.Line) []api.Line = (*serve.Server).Handle
	_ func(*serve.Server) bool                             = (*serve.Server).Busy
	_ func(*serve.Server)                                  = (*serve.Server).Reset
	_ func(*serve.Server) *serve.Server                    = (*serve.Server).Fork
)

// Names of the entries.
var (
	small    = api.Key{Index: 0x2000, Sub: 1} // U8, 0 to 9, holds 5
	word     = api.Key{Index: 0x2000, Sub: 2} // U32
	noSub    = api.Key{Index: 0x2000, Sub: 3}
	noObject = api.Key{Index: 0x1fff, Sub: 1}
	text     = api.Key{Index: 0x2001, Sub: 0} // 0 to 64 bytes
	readOnly = api.Key{Index: 0x2002, Sub: 0} // U16, holds 258
	constant = api.Key{Index: 0x2002, Sub: 1} // U8, holds 7
	secret   = api.Key{Index: 0x2003, Sub: 0} // WriteOnly, 0 to 64 bytes
	mid      = api.Key{Index: 0x2004, Sub: 0} // 5 to 20 bytes
	safePar  = api.Key{Index: 0x1301, Sub: 2} // U16, from 1 on: a safety parameter
)

// entries is a dictionary with all of these, and the safety section.
func entries(t *testing.T) *dict.Dict {
	t.Helper()
	d := dict.New()
	add := func(k api.Key, kind api.Kind, a api.Access, low, high int64, first ...byte) {
		if e := d.Add(k, api.Spec{Kind: kind, Access: a, Low: low, High: high}, first); e != api.OK {
			t.Fatal(k, e)
		}
	}
	add(small, api.U8, api.ReadWrite, 0, 9, 5)
	add(word, api.U32, api.ReadWrite, 0, 1<<32-1)
	add(text, api.Text, api.ReadWrite, 0, api.MaxText)
	add(readOnly, api.U16, api.ReadOnly, 0, 65535, 2, 1)
	add(constant, api.U8, api.Constant, 0, 9, 7)
	add(secret, api.Text, api.WriteOnly, 0, api.MaxText)
	add(mid, api.Text, api.ReadWrite, 5, 20)
	if e := area.Lay(d); e != api.OK {
		t.Fatal(e)
	}
	if e := area.SetFlag(d, true); e != api.OK {
		t.Fatal(e)
	}
	return d
}

// row are so many bytes, none of them 0.
func row(n int) []byte {
	b := make([]byte, n)
	for i := range b {
		b[i] = byte(i + 1)
	}
	return b
}

// raw is what an entry holds.
func raw(t *testing.T, d *dict.Dict, k api.Key) []byte {
	t.Helper()
	b, there := d.Raw(k)
	if !there {
		t.Fatal("no entry", k)
	}
	return b
}

// put lets an entry hold bytes, from within.
func put(t *testing.T, d *dict.Dict, k api.Key, b []byte) {
	t.Helper()
	if e := d.Put(k, b); e != api.OK {
		t.Fatal(k, e)
	}
}

// line is a message's line.
func line(t *testing.T, m api.Msg) api.Line {
	t.Helper()
	l, e := sdomsg.Encode(m)
	if e != api.OK {
		t.Fatalf("%+v: %v", m, e)
	}
	return l
}

// lines are those of messages.
func lines(t *testing.T, m ...api.Msg) []api.Line {
	t.Helper()
	var l []api.Line
	for _, x := range m {
		l = append(l, line(t, x))
	}
	return l
}

// desk is a server with a dictionary.
type desk struct {
	*testing.T
	s *serve.Server
	d *dict.Dict
}

func newDesk(t *testing.T) desk { return desk{t, serve.New(), entries(t)} }

// gets checks the lines that answer a line.
func (x desk) gets(b api.Line, want ...api.Line) {
	x.Helper()
	if l := x.s.Handle(x.d, b); !slices.Equal(l, want) {
		x.Errorf("% x: % x, want % x", b, l, want)
	}
}

// says checks the messages that answer a message.
func (x desk) says(m api.Msg, want ...api.Msg) {
	x.Helper()
	x.gets(line(x.T, m), lines(x.T, want...)...)
}

// refuses checks that a line is answered with a reason, and that it is idle then.
func (x desk) refuses(b api.Line, k api.Key, why api.Abort) {
	x.Helper()
	x.gets(b, sdomsg.Abort(k, why))
	x.busy(false)
}

// refusesMsg is the same of a message.
func (x desk) refusesMsg(m api.Msg, k api.Key, why api.Abort) {
	x.Helper()
	x.refuses(line(x.T, m), k, why)
}

func (x desk) busy(want bool) {
	x.Helper()
	if x.s.Busy() != want {
		x.Errorf("Busy: %v", !want)
	}
}

func (x desk) holds(k api.Key, want []byte) {
	x.Helper()
	if b := raw(x.T, x.d, k); !bytes.Equal(b, want) {
		x.Errorf("%x holds % x, want % x", k, b, want)
	}
}

func data(b ...byte) [api.Segment]byte {
	d := [api.Segment]byte{}
	copy(d[:], b)
	return d
}

func fast(k api.Key, b ...byte) api.Msg {
	return api.Msg{Cmd: api.Down, Key: k, Fast: true, N: len(b), Data: data(b...)}
}

func down(k api.Key, size int) api.Msg { return api.Msg{Cmd: api.Down, Key: k, Size: size} }

func downed(k api.Key) api.Msg { return api.Msg{Cmd: api.Downed, Key: k} }

func downSeg(toggle, last bool, b ...byte) api.Msg {
	return api.Msg{Cmd: api.DownSeg, Toggle: toggle, Last: last, N: len(b), Data: data(b...)}
}

func downedSeg(toggle bool) api.Msg { return api.Msg{Cmd: api.DownedSeg, Toggle: toggle} }

func up(k api.Key) api.Msg { return api.Msg{Cmd: api.Up, Key: k} }

func upSeg(toggle bool) api.Msg { return api.Msg{Cmd: api.UpSeg, Toggle: toggle} }

func uppedSeg(toggle, last bool, b ...byte) api.Msg {
	return api.Msg{Cmd: api.UppedSeg, Toggle: toggle, Last: last, N: len(b), Data: data(b...)}
}

func blockDown(k api.Key, sum bool, size int) api.Msg {
	return api.Msg{Cmd: api.BlockDown, Key: k, Sum: sum, Size: size}
}

func blockDowned(k api.Key) api.Msg {
	return api.Msg{Cmd: api.BlockDowned, Key: k, Sum: true, Block: api.MaxBlock}
}

func blockUp(k api.Key, sum bool, block int) api.Msg {
	return api.Msg{Cmd: api.BlockUp, Key: k, Sum: sum, Block: block}
}

func blockUpped(k api.Key, size int) api.Msg {
	return api.Msg{Cmd: api.BlockUpped, Key: k, Sum: true, Size: size}
}

func ack(seq, block int) api.Msg { return api.Msg{Cmd: api.Ack, Seq: seq, Block: block} }

func end(spare, crc int) api.Msg { return api.Msg{Cmd: api.End, Spare: spare, Crc: crc} }

func start() api.Msg { return api.Msg{Cmd: api.Start} }

func done() api.Msg { return api.Msg{Cmd: api.Done} }

func quit(k api.Key, why api.Abort) api.Msg { return api.Msg{Cmd: api.Quit, Key: k, Code: why} }

// seg is a segment's line.
func seg(t *testing.T, seq int, last bool, b ...byte) api.Line {
	t.Helper()
	l, e := sdomsg.Seg(seq, last, b)
	if e != api.OK {
		t.Fatal(e)
	}
	return l
}

// pieces are the bytes of each segment.
func pieces(b []byte) [][]byte {
	var l [][]byte
	for len(b) > api.Segment {
		l = append(l, b[:api.Segment])
		b = b[api.Segment:]
	}
	return append(l, b)
}

// segs are the lines of some of the segments of bytes, numbered from 1 on.
func segs(t *testing.T, b []byte, first, n int) []api.Line {
	t.Helper()
	all := pieces(b)
	var l []api.Line
	for i := first; i < len(all) && i < first+n; i++ {
		l = append(l, seg(t, i-first+1, i == len(all)-1, all[i]...))
	}
	return l
}

// spare is how many bytes the last segment has less than 7.
func spare(b []byte) int { return len(pieces(b))*api.Segment - len(b) }

// The document's example, and others byte by byte.
func TestExamples(t *testing.T) {
	x := newDesk(t)
	x.gets(api.Line{0x40, 0, 0x20, 1}, api.Line{0x4f, 0, 0x20, 1, 5})
	x.gets(api.Line{0x2f, 0, 0x20, 1, 9}, api.Line{0x60, 0, 0x20, 1})
	x.gets(api.Line{0x2f, 0, 0x20, 1, 10}, api.Line{0x80, 0, 0x20, 1, 0x31, 0, 9, 6})
	x.gets(api.Line{0x21, 1, 0x20, 0, 8}, api.Line{0x60, 1, 0x20, 0})
	x.gets(api.Line{0x00, 1, 2, 3, 4, 5, 6, 7}, api.Line{0x20})
	x.gets(api.Line{0x1d, 8}, api.Line{0x30})
	x.gets(api.Line{0x40, 1, 0x20, 0}, api.Line{0x41, 1, 0x20, 0, 8})
	x.gets(api.Line{0x60}, api.Line{0x00, 1, 2, 3, 4, 5, 6, 7})
	x.gets(api.Line{0x70}, api.Line{0x1d, 8})
	x.gets(api.Line{0xa0, 1, 0x20, 0, 1}, api.Line{0xc6, 1, 0x20, 0, 8})
	x.gets(api.Line{0xa3}, api.Line{1, 1, 2, 3, 4, 5, 6, 7})
	x.gets(api.Line{0xa2, 1, 1}, api.Line{0x81, 8})
	x.gets(api.Line{0xa2, 1, 1}, api.Line{0xd9})
	x.gets(api.Line{0xa1})
	x.gets(api.Line{0xc0, 1, 0x20, 0}, api.Line{0xa4, 1, 0x20, 0, 4})
	x.gets(api.Line{0x81, 9}, api.Line{0xa2, 1, 4})
	x.gets(api.Line{0xd9}, api.Line{0xa1})
	x.holds(text, []byte{9})
	x.busy(false)
}

// P19.1: Down with its bytes.
func TestDownFast(t *testing.T) {
	for _, c := range []struct {
		k   api.Key
		b   []byte
		why api.Abort
	}{
		{small, []byte{0}, api.Fine}, {small, []byte{9}, api.Fine},
		{small, []byte{10}, api.AbHigh}, {small, []byte{1, 0}, api.AbLong},
		{word, []byte{1, 2, 3, 4}, api.Fine}, {word, []byte{1, 2, 3}, api.AbShort},
		{text, []byte{1}, api.Fine}, {text, []byte{1, 0, 0, 4}, api.Fine},
		{mid, []byte{1, 2, 3, 4}, api.AbShort},
		{readOnly, []byte{2, 1}, api.AbReadOnly}, {readOnly, []byte{2}, api.AbReadOnly}, {constant, []byte{7}, api.AbReadOnly},
		{secret, []byte{1, 2, 3}, api.Fine},
		{noSub, []byte{1}, api.AbNoSub}, {noObject, []byte{1}, api.AbNoObject}, {api.Key{}, []byte{1}, api.AbNoObject},
	} {
		x := newDesk(t)
		before, there := x.d.Raw(c.k)
		if c.why == api.Fine {
			x.says(fast(c.k, c.b...), downed(c.k))
			x.busy(false)
			x.holds(c.k, c.b)
			continue
		}
		x.refusesMsg(fast(c.k, c.b...), c.k, c.why)
		if there {
			x.holds(c.k, before)
		}
	}
}

// P19.1: Down of what is written in segments, of all lengths, with and without their number.
func TestDownSegments(t *testing.T) {
	for n := range api.MaxText + 1 {
		for _, size := range []int{-1, n} {
			x := newDesk(t)
			put(t, x.d, text, []byte("what stood there"))
			x.says(down(text, size), downed(text))
			x.busy(true)
			all := pieces(row(n))
			for i, p := range all {
				x.holds(text, []byte("what stood there"))
				x.says(downSeg(i%2 == 1, i == len(all)-1, p...), downedSeg(i%2 == 1))
				x.busy(i < len(all)-1)
			}
			x.holds(text, row(n))
		}
	}
}

// P19.1: segments may be of any length.
func TestDownUneven(t *testing.T) {
	x := newDesk(t)
	x.says(down(text, 5), downed(text))
	x.says(downSeg(false, false, 1, 2), downedSeg(false))
	x.says(downSeg(true, false), downedSeg(true))
	x.says(downSeg(false, false, 3, 0, 5), downedSeg(false))
	x.says(downSeg(true, true), downedSeg(true))
	x.holds(text, []byte{1, 2, 3, 0, 5})
	x.busy(false)
}

// beginnings are the two ways to begin to write many bytes.
func beginnings(k api.Key, size int) []api.Msg {
	return []api.Msg{down(k, size), blockDown(k, false, size), blockDown(k, true, size)}
}

// P19.1: what may not be written to, or is told to be too long, is refused at once.
func TestBeginRefused(t *testing.T) {
	for _, c := range []struct {
		k    api.Key
		size int
		why  api.Abort
	}{
		{readOnly, 2, api.AbReadOnly}, {readOnly, 65, api.AbReadOnly}, {constant, -1, api.AbReadOnly},
		{noSub, 1, api.AbNoSub}, {noSub, 65, api.AbNoSub}, {noObject, 1, api.AbNoObject}, {noObject, 1 << 31, api.AbNoObject},
		{text, 65, api.AbLong}, {small, 65, api.AbLong}, {secret, 1<<32 - 1, api.AbLong},
	} {
		for _, m := range beginnings(c.k, c.size) {
			x := newDesk(t)
			changes := x.d.Changes()
			x.refusesMsg(m, c.k, c.why)
			if x.d.Changes() != changes {
				t.Errorf("%+v changed something", m)
			}
			x.refusesMsg(downSeg(false, true, 1), api.Key{}, api.AbCommand)
		}
	}
	for _, m := range beginnings(secret, 64) {
		x := newDesk(t)
		if m.Cmd == api.Down {
			x.says(m, downed(secret))
		} else {
			x.says(m, blockDowned(secret))
		}
		x.busy(true)
	}
}

// P19.1: why DownSeg refuses; the first reason is told.
func TestDownSegRefused(t *testing.T) {
	seven := row(7)
	for _, c := range []struct {
		name  string
		k     api.Key
		size  int
		right []api.Msg
		wrong api.Msg
		why   api.Abort
	}{
		{"Toggle at first", text, -1, nil, downSeg(true, true, 1), api.AbToggle},
		{"Toggle again", text, 2, []api.Msg{downSeg(false, false, 1)}, downSeg(false, true, 2), api.AbToggle},
		{"Toggle later", text, -1, []api.Msg{downSeg(false, false, 1), downSeg(true, false, 1)}, downSeg(true, false, 2), api.AbToggle},
		{"Toggle ahead of AbLength", text, 9, nil, downSeg(true, true, 1), api.AbToggle},
		{"one short", text, 9, nil, downSeg(false, true, 1, 2, 3, 4, 5, 6, 7), api.AbLength},
		{"one too many", text, 6, nil, downSeg(false, true, 1, 2, 3, 4, 5, 6, 7), api.AbLength},
		{"none told", text, 0, nil, downSeg(false, true, 1), api.AbLength},
		{"none came", text, 1, nil, downSeg(false, true), api.AbLength},
		{"AbLength ahead of the entry's", small, 2, nil, downSeg(false, true, 10), api.AbLength},
		{"too great", small, 1, nil, downSeg(false, true, 10), api.AbHigh},
		{"too great, not told", small, -1, nil, downSeg(false, true, 10), api.AbHigh},
		{"none", small, 0, nil, downSeg(false, true), api.AbShort},
		{"too long for the entry", small, -1, []api.Msg{downSeg(false, false, 1)}, downSeg(true, true, 0), api.AbLong},
		{"too short", mid, 4, nil, downSeg(false, true, 1, 2, 3, 4), api.AbShort},
		{"too long", mid, 21, []api.Msg{downSeg(false, false, seven...), downSeg(true, false, seven...)}, downSeg(false, true, seven...), api.AbLong},
	} {
		x := newDesk(t)
		before := raw(t, x.d, c.k)
		x.says(down(c.k, c.size), downed(c.k))
		for _, m := range c.right {
			x.says(m, downedSeg(m.Toggle))
		}
		x.refusesMsg(c.wrong, c.k, c.why)
		x.holds(c.k, before)
		if t.Failed() {
			t.Fatal(c.name)
		}
	}
}

// P19.1: more bytes than a text may have are refused as soon as they come, Last or not, ahead of AbLength.
func TestDownSegLong(t *testing.T) {
	for _, size := range []int{-1, 64} {
		for _, m := range []api.Msg{downSeg(true, false, 65), downSeg(true, true, 65), downSeg(true, false, row(7)...)} {
			x := newDesk(t)
			x.says(down(text, size), downed(text))
			for i, p := range pieces(row(64)) {
				x.says(downSeg(i%2 == 1, false, p...), downedSeg(i%2 == 1))
			}
			x.says(downSeg(false, false), downedSeg(false)) // no more bytes than there may be
			x.refusesMsg(m, text, api.AbLong)
			x.holds(text, nil)
		}
	}
}

// P19.1: Up, of entries of all lengths.
func TestUp(t *testing.T) {
	for n := range api.MaxText + 1 {
		x := newDesk(t)
		b := row(n)
		put(t, x.d, text, b)
		if 1 <= n && n <= 4 {
			x.says(up(text), api.Msg{Cmd: api.Upped, Key: text, Fast: true, N: n, Data: data(b...)})
			x.busy(false)
			continue
		}
		x.says(up(text), api.Msg{Cmd: api.Upped, Key: text, Size: n})
		all := pieces(b)
		for i, p := range all {
			x.busy(true)
			x.says(upSeg(i%2 == 1), uppedSeg(i%2 == 1, i == len(all)-1, p...))
		}
		x.busy(false)
		x.holds(text, b)
		x.refusesMsg(upSeg(len(all)%2 == 1), api.Key{}, api.AbCommand)
	}
}

// P19.1: numbers are read at once, whoever may not write to them, too.
func TestUpNumbers(t *testing.T) {
	x := newDesk(t)
	put(t, x.d, word, []byte{0, 0, 0, 1})
	x.says(up(small), api.Msg{Cmd: api.Upped, Key: small, Fast: true, N: 1, Data: data(5)})
	x.says(up(readOnly), api.Msg{Cmd: api.Upped, Key: readOnly, Fast: true, N: 2, Data: data(2, 1)})
	x.says(up(constant), api.Msg{Cmd: api.Upped, Key: constant, Fast: true, N: 1, Data: data(7)})
	x.says(up(word), api.Msg{Cmd: api.Upped, Key: word, Fast: true, N: 4, Data: data(0, 0, 0, 1)})
	x.busy(false)
}

// P19.1: behind the end of a transfer it is idle: what is wrong then is refused without its Key.
func TestIdleAgain(t *testing.T) {
	wrong := line(t, upSeg(false))
	x := newDesk(t)
	x.says(up(small), api.Msg{Cmd: api.Upped, Key: small, Fast: true, N: 1, Data: data(5)})
	x.refuses(wrong, api.Key{}, api.AbCommand)
	x.says(fast(small, 5), downed(small))
	x.refuses(wrong, api.Key{}, api.AbCommand)
	x.refusesMsg(fast(small, 10), small, api.AbHigh)
	x.refuses(wrong, api.Key{}, api.AbCommand)
	x.says(down(text, -1), downed(text))
	x.says(downSeg(false, true, 1), downedSeg(false))
	x.refuses(wrong, api.Key{}, api.AbCommand)
	x = ended(t, blockDown(text, true, 5), row(5))
	x.says(end(2, chunk.Crc(row(5))), done())
	x.refuses(wrong, api.Key{}, api.AbCommand)
	x.says(blockUp(text, true, 1), blockUpped(text, 5))
	x.gets(line(t, start()), segs(t, row(5), 0, 1)...)
	x.says(ack(1, 1), end(2, chunk.Crc(row(5))))
	x.says(done())
	x.refuses(wrong, api.Key{}, api.AbCommand)
}

// P19.1: what may not be read is refused, in blocks, too.
func TestReadRefused(t *testing.T) {
	for k, why := range map[api.Key]api.Abort{secret: api.AbWriteOnly, noSub: api.AbNoSub, noObject: api.AbNoObject, {Index: 65535, Sub: 255}: api.AbNoObject} {
		for _, m := range []api.Msg{up(k), blockUp(k, true, 4), blockUp(k, false, 127)} {
			x := newDesk(t)
			x.refusesMsg(m, k, why)
		}
	}
}

// P19.1: UpSeg with another Toggle.
func TestUpSegToggle(t *testing.T) {
	for n := range 3 { // how many segments have been read ahead of it
		x := newDesk(t)
		put(t, x.d, text, row(64))
		x.says(up(text), api.Msg{Cmd: api.Upped, Key: text, Size: 64})
		for i := range n {
			x.says(upSeg(i%2 == 1), uppedSeg(i%2 == 1, false, pieces(row(64))[i]...))
		}
		x.refusesMsg(upSeg(n%2 == 0), text, api.AbToggle)
	}
}

// P19.1: what is read is what stood there when the reading began.
func TestReadMeanwhile(t *testing.T) {
	x := newDesk(t)
	put(t, x.d, text, row(10))
	x.says(up(text), api.Msg{Cmd: api.Upped, Key: text, Size: 10})
	put(t, x.d, text, []byte("meanwhile"))
	x.says(upSeg(false), uppedSeg(false, false, 1, 2, 3, 4, 5, 6, 7))
	put(t, x.d, text, nil)
	x.says(upSeg(true), uppedSeg(true, true, 8, 9, 10))
	put(t, x.d, text, row(10))
	x.says(blockUp(text, true, 1), blockUpped(text, 10))
	put(t, x.d, text, []byte("meanwhile"))
	x.gets(line(t, start()), segs(t, row(10), 0, 1)...)
	x.gets(line(t, ack(1, 1)), segs(t, row(10), 1, 1)...)
	x.says(ack(1, 1), end(4, chunk.Crc(row(10))))
}

// P19.1: BlockDown, of all lengths, with and without Sum and Size.
func TestBlockDown(t *testing.T) {
	for n := range api.MaxText + 1 {
		b := row(n)
		for _, m := range []api.Msg{blockDown(text, true, n), blockDown(text, true, -1), blockDown(text, false, n), blockDown(text, false, -1)} {
			x := newDesk(t)
			put(t, x.d, text, []byte("what stood there"))
			x.says(m, blockDowned(text))
			for at := 0; at < len(pieces(b)); at += api.MaxBlock {
				block := segs(t, b, at, api.MaxBlock)
				for _, l := range block[:len(block)-1] {
					x.gets(l)
				}
				x.gets(block[len(block)-1], line(t, ack(len(block), api.MaxBlock)))
			}
			x.busy(true)
			x.holds(text, []byte("what stood there"))
			crc := chunk.Crc(b)
			if !m.Sum {
				crc = 0
			}
			x.says(end(spare(b), crc), done())
			x.busy(false)
			x.holds(text, b)
		}
	}
}

// P19.1: segments that get lost, or come twice, are asked for again.
func TestBlockDownLost(t *testing.T) {
	x := newDesk(t)
	b := row(48) // seven segments
	l := segs(t, b, 0, 4)
	x.says(blockDown(text, true, 48), blockDowned(text))
	x.gets(l[0])
	x.gets(l[0])
	x.gets(l[2])
	x.gets(l[3], line(t, ack(1, 4)))
	l = segs(t, b, 1, 4)
	x.gets(l[3], line(t, ack(0, 4)))
	x.gets(l[0])
	x.gets(l[1])
	x.gets(l[2])
	x.gets(l[3], line(t, ack(4, 4)))
	l = segs(t, b, 5, 4)
	x.gets(l[1], line(t, ack(0, 4))) // marked as the last one, but the one ahead of it has not come
	x.gets(l[0])
	x.gets(l[1], line(t, ack(2, 4)))
	x.says(end(1, chunk.Crc(b)), done())
	x.holds(text, b)
}

// P19.1: why segments of blocks are refused.
func TestSegmentsRefused(t *testing.T) {
	for _, wrong := range []api.Line{{0}, {5, 1}, {0x85, 1}, {127}, {0xff}, {0x7f}, {0x40, 0, 0x20, 1}, {0xa1}, {0xa3}, {0xc1}, {0x2f, 0, 0x20, 1, 5}} {
		x := newDesk(t)
		x.says(blockDown(text, true, 20), blockDowned(text))
		x.gets(segs(t, row(20), 0, 4)[0])
		x.refuses(wrong, text, api.AbSeq)
		x.holds(text, nil)
		x.holds(small, []byte{5})
	}
	x := newDesk(t)
	x.says(blockDown(text, true, 64), blockDowned(text))
	for i := range 10 {
		if i%4 == 3 {
			x.gets(seg(t, 4, false, row(7)...), line(t, ack(4, 4)))
		} else {
			x.gets(seg(t, i%4+1, false, row(7)...))
		}
	}
	x.refuses(seg(t, 3, true, row(7)...), text, api.AbLong)
}

// ended is a server that has taken all blocks of some bytes.
func ended(t *testing.T, m api.Msg, b []byte) desk {
	t.Helper()
	x := newDesk(t)
	x.says(m, blockDowned(m.Key))
	all := pieces(b)
	for i := range all {
		x.s.Handle(x.d, seg(t, i%api.MaxBlock+1, i == len(all)-1, all[i]...))
	}
	x.busy(true)
	return x
}

// P19.1: why End refuses; the first reason is told.
func TestEndRefused(t *testing.T) {
	crc := func(n int) int { return chunk.Crc(row(n)) }
	for _, c := range []struct {
		name string
		m    api.Msg
		n    int // bytes that come
		end  api.Msg
		why  api.Abort
	}{
		{"check", blockDown(text, true, 10), 10, end(4, crc(10)^1), api.AbCrc},
		{"check 0", blockDown(text, true, 10), 10, end(4, 0), api.AbCrc},
		{"spare", blockDown(text, true, 10), 10, end(3, crc(10)), api.AbCrc},
		{"check ahead of AbLong", blockDown(text, true, -1), 65, end(5, 1), api.AbCrc},
		{"long", blockDown(text, true, -1), 65, end(5, crc(65)), api.AbLong},
		{"long, no check", blockDown(text, false, -1), 70, end(0, 0), api.AbLong},
		{"long ahead of AbLength", blockDown(text, true, 64), 65, end(5, crc(65)), api.AbLong},
		{"long by spare", blockDown(text, false, 64), 64, end(5, 0), api.AbLong},
		{"length", blockDown(text, true, 11), 10, end(4, crc(10)), api.AbLength},
		{"length by spare", blockDown(text, false, 10), 10, end(5, 7), api.AbLength},
		{"length ahead of the entry's", blockDown(small, true, 1), 2, end(5, crc(2)), api.AbLength},
		{"the entry's", blockDown(small, true, 2), 2, end(5, crc(2)), api.AbLong},
		{"the entry's, not told", blockDown(mid, false, -1), 4, end(3, 0), api.AbShort},
	} {
		x := ended(t, c.m, row(c.n))
		before := raw(t, x.d, c.m.Key)
		x.refusesMsg(c.end, c.m.Key, c.why)
		x.holds(c.m.Key, before)
		if t.Failed() {
			t.Fatal(c.name)
		}
	}
	x := ended(t, blockDown(text, false, -1), row(10))
	x.says(end(4, 12345), done()) // without Sum the check is not looked at
	x.holds(text, row(10))
	x = ended(t, blockDown(text, true, -1), row(64))
	x.says(end(6, chunk.Crc(row(64))), done())
	x.holds(text, row(64))
	x = ended(t, blockDown(text, false, -1), row(65))
	x.says(end(6, 0), done()) // it is the spare ones that tell how many there are
	x.holds(text, row(64))
}

// P19.1: BlockUp, of all lengths, in blocks of all sizes.
func TestBlockUp(t *testing.T) {
	for n := range api.MaxText + 1 {
		b := row(n)
		for _, block := range []int{1, 2, 3, 4, 9, 10, 11, 127} {
			for _, sum := range []bool{false, true} {
				x := newDesk(t)
				put(t, x.d, text, b)
				x.says(blockUp(text, sum, block), blockUpped(text, n))
				x.busy(true)
				ask := start()
				for at := 0; at < len(pieces(b)); at += block {
					l := segs(t, b, at, block)
					x.gets(line(t, ask), l...)
					ask = ack(len(l), block)
				}
				crc := chunk.Crc(b)
				if !sum {
					crc = 0
				}
				x.says(ask, end(spare(b), crc))
				x.busy(true)
				x.says(done())
				x.busy(false)
				x.holds(text, b)
			}
		}
	}
}

// P19.1: numbers go in blocks, too; and what is not confirmed goes again.
func TestBlockUpAcks(t *testing.T) {
	x := newDesk(t)
	x.says(blockUp(constant, true, 4), blockUpped(constant, 1))
	x.gets(line(t, start()), api.Line{0x81, 7})
	x.says(ack(1, 4), end(6, chunk.Crc([]byte{7})))
	b := row(50) // eight segments
	put(t, x.d, text, b)
	x.says(blockUp(text, true, 3), blockUpped(text, 50)) // whatever was under way is dropped
	x.gets(line(t, start()), segs(t, b, 0, 3)...)
	x.gets(line(t, ack(0, 3)), segs(t, b, 0, 3)...)
	x.gets(line(t, ack(2, 1)), segs(t, b, 2, 1)...)
	x.gets(line(t, ack(1, 127)), segs(t, b, 3, 127)...)
	x.gets(line(t, ack(4, 127)), segs(t, b, 7, 127)...)
	x.says(ack(1, 1), end(6, chunk.Crc(b)))
}

// P19.1: why Ack refuses.
func TestAckRefused(t *testing.T) {
	x := newDesk(t)
	b := row(50)
	put(t, x.d, text, b)
	for seq := range 128 {
		x.says(blockUp(text, true, 3), blockUpped(text, 50))
		x.gets(line(t, start()), segs(t, b, 0, 3)...)
		if seq > 3 {
			x.refusesMsg(ack(seq, 3), text, api.AbSeq)
		} else {
			x.gets(line(t, ack(seq, 3)), segs(t, b, seq, 3)...)
		}
	}
	for _, block := range []byte{0, 128, 255} { // such a line is no message
		x.says(blockUp(text, true, 3), blockUpped(text, 50))
		x.gets(line(t, start()), segs(t, b, 0, 3)...)
		x.refuses(api.Line{0xa2, 1, block}, text, api.AbCommand)
	}
}

// states are servers in each state, by the name of it, with the Key of what is under way.
func states(t *testing.T) map[string]desk {
	t.Helper()
	in := func(b []byte, m ...api.Msg) desk {
		x := newDesk(t)
		put(t, x.d, text, b)
		for _, y := range m {
			x.s.Handle(x.d, line(t, y))
		}
		return x
	}
	return map[string]desk{
		"idle":     in(row(20)),
		"writing":  in(row(20), down(text, 5)),
		"reading":  in(row(20), up(text)),
		"taking":   in(row(20), blockDown(text, true, 5)),
		"ending":   ended(t, blockDown(text, true, 5), row(5)),
		"offering": in(row(20), blockUp(text, true, 2)),
		"sending":  in(row(20), blockUp(text, true, 2), start()),
		"closing":  in(row(5), blockUp(text, true, 2), start(), ack(1, 2)),
	}
}

// P19.1: which messages are taken in which state; in another one they are refused, with the Key of what was under way.
func TestStates(t *testing.T) {
	taken := map[string]api.Msg{
		"writing":  downSeg(false, true, row(5)...),
		"reading":  upSeg(false),
		"ending":   end(2, chunk.Crc(row(5))),
		"offering": start(),
		"sending":  ack(2, 2),
		"closing":  done(),
	}
	for name := range states(t) {
		for want, m := range taken {
			if name == "taking" {
				continue // all that comes is a segment
			}
			x, k := states(t)[name], text
			x.busy(name != "idle")
			if name == "idle" {
				k = api.Key{}
			}
			if name != want {
				x.refusesMsg(m, k, api.AbCommand)
				continue
			}
			l := x.s.Handle(x.d, line(t, m))
			if slices.Equal(l, []api.Line{sdomsg.Abort(k, api.AbCommand)}) {
				t.Errorf("%s: %+v is refused", name, m)
			}
		}
	}
}

// P19.1: what begins, begins in every state but while blocks come; and it has its own Key, Toggle and lengths.
func TestBeginAnew(t *testing.T) {
	for name := range states(t) {
		if name == "taking" {
			continue
		}
		x := states(t)[name]
		x.says(fast(small, 3), downed(small))
		x.busy(false)
		x.holds(small, []byte{3})

		x = states(t)[name]
		x.refusesMsg(fast(small, 10), small, api.AbHigh)

		x = states(t)[name]
		x.says(down(mid, -1), downed(mid))
		x.says(downSeg(false, true, 1, 2, 3, 4, 5, 6), downedSeg(false))
		x.holds(mid, row(6))

		x = states(t)[name]
		x.refusesMsg(down(readOnly, 2), readOnly, api.AbReadOnly)

		x = states(t)[name]
		x.says(up(mid), api.Msg{Cmd: api.Upped, Key: mid, Size: 5})
		x.says(upSeg(false), uppedSeg(false, true, 0, 0, 0, 0, 0))

		x = states(t)[name]
		x.refusesMsg(up(secret), secret, api.AbWriteOnly)

		x = states(t)[name]
		x.says(blockDown(mid, false, -1), blockDowned(mid))
		x.gets(seg(t, 1, true, row(7)...), line(t, ack(1, 4)))
		x.says(end(0, 1), done())
		x.holds(mid, row(7))

		x = states(t)[name]
		x.says(blockUp(small, false, 1), blockUpped(small, 1))
		x.gets(line(t, start()), api.Line{0x81, 5})
		x.says(ack(1, 1), end(6, 0))
	}
}

// P19.1: Toggle begins anew with each transfer.
func TestToggleAnew(t *testing.T) {
	x := newDesk(t)
	put(t, x.d, text, row(20))
	x.says(up(text), api.Msg{Cmd: api.Upped, Key: text, Size: 20})
	x.says(upSeg(false), uppedSeg(false, false, row(7)...))
	x.says(up(text), api.Msg{Cmd: api.Upped, Key: text, Size: 20})
	x.says(upSeg(false), uppedSeg(false, false, row(7)...))
	x.says(down(text, -1), downed(text))
	x.says(downSeg(false, false, 1), downedSeg(false))
	x.says(down(text, -1), downed(text))
	x.says(downSeg(false, true, 2), downedSeg(false))
	x.holds(text, []byte{2})
}

// P19.1: Quit, in every state, with any Key and Code.
func TestQuit(t *testing.T) {
	for name := range states(t) {
		for _, m := range []api.Msg{quit(text, api.AbTime), quit(small, api.Fine), quit(api.Key{}, 5), quit(noObject, 1<<32-1)} {
			x := states(t)[name]
			x.says(m)
			x.busy(false)
			x.refusesMsg(upSeg(false), api.Key{}, api.AbCommand)
		}
	}
}

// P19.1: what is no message that is asked is refused with the Key of what was under way.
func TestNoMessage(t *testing.T) {
	for name := range states(t) {
		for _, b := range []api.Line{{0xe0}, {0xff}, {0x41}, {0x22}, {0x61}, {0xa3, 1}, {0x2f, 0, 0x20, 1, 1, 1}, {0x60, 1}, {0x40, 0, 0x20, 1, 1}, {0xa0, 1, 0x20, 0, 0}, {0xa0, 1, 0x20, 0, 128}, {0xc8}, {0x4f, 0, 0x20, 1, 5}, {0x1f, 1}} {
			x, k, why := states(t)[name], text, api.AbCommand
			switch name {
			case "idle":
				k = api.Key{}
			case "taking":
				why = api.AbSeq
			}
			x.refuses(b, k, why)
		}
	}
}

// P19.1: writing goes by area: a safety parameter's makes the flag fall, by each way, and no other one's.
func TestFlag(t *testing.T) {
	b := []byte{9, 0}
	for _, k := range []api.Key{safePar, {Index: 0x1381, Sub: 0}, word, small, text} {
		b := slices.Clone(b)
		switch k {
		case word:
			b = append(b, 0, 0)
		case small:
			b = b[:1]
		case (api.Key{Index: 0x1381, Sub: 0}):
			b = []byte{8}
		}
		for way, m := range [][]api.Msg{
			{fast(k, b...)},
			{down(k, -1), downSeg(false, true, b...)},
			{blockDown(k, false, len(b))},
		} {
			x := newDesk(t)
			for _, y := range m {
				if !area.Flag(x.d) {
					t.Errorf("%x: the flag fell too early", k)
				}
				x.s.Handle(x.d, line(t, y))
			}
			if way == 2 {
				x.gets(seg(t, 1, true, b...), line(t, ack(1, 4)))
				x.says(end(spare(b), 0), done())
			}
			x.holds(k, b)
			if area.Flag(x.d) == area.Safe(k) {
				t.Errorf("%x: the flag is %v", k, area.Flag(x.d))
			}
		}
	}
	x := newDesk(t)
	x.refusesMsg(fast(safePar, 0, 0), safePar, api.AbLow)
	if !area.Flag(x.d) {
		t.Error("the flag fell with what was refused")
	}
}

// P19.2: Busy and Reset.
func TestReset(t *testing.T) {
	for name := range states(t) {
		x := states(t)[name]
		x.busy(name != "idle")
		x.s.Reset()
		x.busy(false)
		x.refuses(api.Line{0xff}, api.Key{}, api.AbCommand)
		x.says(down(text, -1), downed(text))
		x.says(downSeg(false, true, 1), downedSeg(false))
	}
}

// P19.2, P4: a Fork stands alike, and alone.
func TestFork(t *testing.T) {
	next := map[string][]api.Line{
		"idle":     lines(t, fast(small, 1)),
		"writing":  lines(t, downSeg(false, false, 1, 2), downSeg(true, true, 3, 4, 5)),
		"reading":  lines(t, upSeg(false), upSeg(true), upSeg(false)),
		"taking":   {seg(t, 1, true, row(5)...), line(t, end(2, chunk.Crc(row(5))))},
		"ending":   lines(t, end(2, chunk.Crc(row(5)))),
		"offering": lines(t, start(), ack(1, 2), ack(2, 2), done()),
		"sending":  lines(t, ack(1, 3), ack(2, 2), done()),
		"closing":  lines(t, done()),
	}
	for name := range states(t) {
		x, other := states(t)[name], states(t)[name]
		fork := desk{t, x.s.Fork(), x.d.Fork()}
		fork.busy(name != "idle")
		var told [][]api.Line
		for _, b := range next[name] {
			told = append(told, fork.s.Handle(fork.d, b))
		}
		fork.busy(false)
		x.busy(name != "idle") // the one knows nothing of the other one
		for i, b := range next[name] {
			x.gets(b, told[i]...)
			other.gets(b, told[i]...)
		}
		x.holds(text, raw(t, other.d, text))
		fork.holds(text, raw(t, other.d, text))
	}
	x := states(t)["taking"]
	x.gets(seg(t, 1, false, row(7)...))
	fork := desk{t, x.s.Fork(), x.d.Fork()}
	x.gets(seg(t, 2, true, 1), line(t, ack(2, 4)))
	fork.gets(seg(t, 2, true, 2), line(t, ack(2, 4)))
	x.s.Reset()
	fork.busy(true)
}

// P1, P19.2: of nil, and of such as no call made.
func TestNil(t *testing.T) {
	var s *serve.Server
	for head := range 256 {
		if l := s.Handle(entries(t), api.Line{byte(head)}); len(l) != 0 {
			t.Errorf("nil: % x", l)
		}
	}
	s.Reset()
	if s.Busy() || s.Fork() != nil {
		t.Error("nil: Busy, or a Fork")
	}
	if serve.New() == nil || serve.New().Busy() {
		t.Error("New")
	}
	for _, d := range []*dict.Dict{nil, {}} {
		z := &serve.Server{}
		for head := range 256 {
			for range 2 {
				z.Handle(d, api.Line{byte(head), 1, 2, 3, 4})
			}
		}
		z.Fork()
		z.Reset()
	}
}

// P1: a nil dictionary has no objects, whenever it comes.
func TestNilDict(t *testing.T) {
	x := desk{t, serve.New(), nil}
	for _, m := range []api.Msg{fast(small, 1), down(small, 1), down(small, 65), up(small), blockDown(small, true, 1), blockUp(small, true, 1)} {
		x.refusesMsg(m, small, api.AbNoObject)
	}
	x = newDesk(t)
	x.says(down(text, 1), downed(text))
	x.d = nil
	x.refusesMsg(downSeg(false, true, 1), text, api.AbNoObject)
	x = ended(t, blockDown(text, true, 5), row(5))
	x.d = nil
	x.refusesMsg(end(2, chunk.Crc(row(5))), text, api.AbNoObject)
}

// P3: what was answered is no part of the server.
func TestMemory(t *testing.T) {
	x := newDesk(t)
	put(t, x.d, text, row(20))
	x.says(blockUp(text, true, 4), blockUpped(text, 20))
	clear(x.s.Handle(x.d, line(t, start())))
	x.gets(line(t, ack(0, 4)), segs(t, row(20), 0, 4)...)
	x.says(up(text), api.Msg{Cmd: api.Upped, Key: text, Size: 20})
	clear(x.s.Handle(x.d, line(t, upSeg(false))))
	x.says(upSeg(true), uppedSeg(true, false, 8, 9, 10, 11, 12, 13, 14))
	x.holds(text, row(20))
}

// P6: two servers know nothing of each other.
func TestTwo(t *testing.T) {
	x := newDesk(t)
	other := desk{t, serve.New(), x.d}
	x.says(down(text, -1), downed(text))
	other.busy(false)
	other.says(down(mid, -1), downed(mid))
	x.says(downSeg(false, true, 1), downedSeg(false))
	other.says(downSeg(false, true, row(5)...), downedSeg(false))
	x.holds(text, []byte{1})
	x.holds(mid, row(5))
}

// someLine is a line of any kind, most often one that may have a meaning.
func someLine(t *testing.T, r *rand.Rand) api.Line {
	t.Helper()
	keys := []api.Key{small, word, noSub, noObject, text, text, text, readOnly, constant, secret, mid, safePar}
	k := keys[r.Intn(len(keys))]
	b := make([]byte, r.Intn(8))
	r.Read(b)
	yes := func() bool { return r.Intn(2) == 0 }
	sizes := []int{-1, len(b), 0, 5, 64, 65}
	switch r.Intn(16) {
	case 0:
		return line(t, fast(k, append(b, 1)[:1+r.Intn(min(4, len(b)+1))]...))
	case 1:
		return line(t, down(k, sizes[r.Intn(len(sizes))]))
	case 2, 3, 4:
		return line(t, downSeg(yes(), yes(), b...))
	case 5:
		return line(t, up(k))
	case 6, 7:
		return line(t, upSeg(yes()))
	case 8:
		return line(t, blockDown(k, yes(), sizes[r.Intn(len(sizes))]))
	case 9, 10:
		return seg(t, 1+r.Intn(5), yes(), b...)
	case 11:
		return line(t, end(r.Intn(8), chunk.Crc(b)))
	case 12:
		return line(t, blockUp(k, yes(), 1+r.Intn(5)))
	case 13:
		return line(t, []api.Msg{start(), done(), quit(k, api.AbTime)}[r.Intn(3)])
	case 14:
		return line(t, ack(r.Intn(5), 1+r.Intn(5)))
	}
	l := api.Line{}
	r.Read(l[:])
	return l
}

// same: do two dictionaries hold the same?
func same(d, other *dict.Dict) bool {
	for k := range d.Keys() {
		b, _ := d.Raw(k)
		c, _ := other.Raw(k)
		if !bytes.Equal(b, c) {
			return false
		}
	}
	return true
}

// P19.3: whatever lines come, what is written fits its entry; a line that is refused changes no entry.
func TestAnyLines(t *testing.T) {
	r := rand.New(rand.NewSource(19))
	changes, refused := 0, 0
	for range 60 {
		x := newDesk(t)
		for range 400 {
			b := someLine(t, r)
			before := x.d.Fork()
			l := x.s.Handle(x.d, b)
			if len(l) == 1 && l[0][0] == 0x80 {
				refused++
				if !same(x.d, before) || x.s.Busy() {
					t.Fatalf("% x is refused, and changes something", b)
				}
			}
			if !same(x.d, before) {
				changes++
			}
		}
		for k := range x.d.Keys() {
			spec, _ := x.d.Spec(k)
			if b := raw(t, x.d, k); value.Fits(spec, b) != api.Fine {
				t.Fatalf("%x holds % x", k, b)
			}
		}
		x.holds(readOnly, []byte{2, 1})
		x.holds(constant, []byte{7})
	}
	if changes < 20 || refused < 1000 {
		t.Errorf("%d changes, %d refused: these lines show nothing", changes, refused)
	}
}

// writes writes an entry by one of the three ways, and tells the last answer.
func (x desk) writes(way int, k api.Key, b []byte) []api.Line {
	x.Helper()
	all := pieces(b)
	switch {
	case way == 0 && len(b) >= 1 && len(b) <= 4:
		return x.s.Handle(x.d, line(x.T, fast(k, b...)))
	case way <= 1:
		x.says(down(k, len(b)), downed(k))
		for i, p := range all[:len(all)-1] {
			x.says(downSeg(i%2 == 1, false, p...), downedSeg(i%2 == 1))
		}
		return x.s.Handle(x.d, line(x.T, downSeg(len(all)%2 == 0, true, all[len(all)-1]...)))
	}
	x.says(blockDown(k, true, len(b)), blockDowned(k))
	for i, p := range all {
		x.s.Handle(x.d, seg(x.T, i%api.MaxBlock+1, i == len(all)-1, p...))
	}
	return x.s.Handle(x.d, line(x.T, end(spare(b), chunk.Crc(b))))
}

// reads reads an entry in blocks, or not.
func (x desk) reads(k api.Key, block int) []byte {
	x.Helper()
	var b []byte
	decode := func(l []api.Line) api.Msg {
		m, e := sdomsg.Decode(l[len(l)-1], true)
		if e != api.OK {
			x.Fatalf("% x", l)
		}
		return m
	}
	if block == 0 {
		m := decode(x.s.Handle(x.d, line(x.T, up(k))))
		b = append(b, m.Data[:m.N]...)
		for toggle := false; !m.Fast && !m.Last; toggle = !toggle {
			m = decode(x.s.Handle(x.d, line(x.T, upSeg(toggle))))
			b = append(b, m.Data[:m.N]...)
		}
		return b
	}
	x.s.Handle(x.d, line(x.T, blockUp(k, true, block)))
	l := x.s.Handle(x.d, line(x.T, start()))
	for range 100 {
		n := 0
		for _, s := range l {
			b, n = append(b, s[1:]...), n+1
		}
		last := l[len(l)-1][0] >= 0x80
		l = x.s.Handle(x.d, line(x.T, ack(n, block)))
		if last {
			break
		}
	}
	m := decode(l)
	x.says(done())
	return b[:len(b)-m.Spare]
}

// P19.4: what a whole transfer writes, by whichever way, is what a reader gets.
func TestWholeTransfers(t *testing.T) {
	x := newDesk(t)
	for n := range api.MaxText + 1 {
		for way := range 3 {
			b := row(n)
			for i := range b {
				b[i] += byte(50 * way)
			}
			if l := x.writes(way, text, b); l[0][0] == 0x80 {
				t.Fatalf("%d bytes by the way %d: % x", n, way, l)
			}
			for _, block := range []int{0, 1, 4, 127} {
				if got := x.reads(text, block); !bytes.Equal(got, b) {
					t.Fatalf("%v by the way %d, in blocks of %d: %v", b, way, block, got)
				}
			}
		}
	}
}
