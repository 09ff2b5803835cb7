package client_test

import (
	"math"
	"math/rand"
	"slices"
	"strings"
	"testing"

	"tripwire/api"
	"tripwire/area"
	"tripwire/chunk"
	"tripwire/client"
	"tripwire/dict"
	"tripwire/sdomsg"
	"tripwire/serve"
)

// The calls have just these signatures.
var (
	_ func() *client.Client                                 = client.New
	_ func(*client.Client, api.Ask) ([]api.Line, api.Errno) = (*client.Client).Ask
	_ func(*client.Client, api.Line) []api.Line             = (*client.Client).Handle
	_ func(*client.Client) []api.Line                       = (*client.Client).Tick
	_ func(*client.Client) (api.Result, bool)               = (*client.Client).Result
	_ func(*client.Client) bool                             = (*client.Client).Busy
	_ func(*client.Client)                                  = (*client.Client).Reset
	_ func(*client.Client) *client.Client                   = (*client.Client).Fork
)

// key is what is asked for, other another one.
var (
	key   = api.Key{Index: 0x2000, Sub: 1}
	other = api.Key{Index: 0x2000, Sub: 2}
)

// text are so many bytes, none of them 0.
func text(n int) string {
	b := make([]byte, n)
	for i := range b {
		b[i] = byte(i + 1)
	}
	return string(b)
}

func line(t *testing.T, m api.Msg) api.Line {
	t.Helper()
	l, e := sdomsg.Encode(m)
	if e != api.OK {
		t.Fatalf("%+v: %v", m, e)
	}
	return l
}

func lines(t *testing.T, m ...api.Msg) []api.Line {
	t.Helper()
	var l []api.Line
	for _, x := range m {
		l = append(l, line(t, x))
	}
	return l
}

func data(s string) [api.Segment]byte {
	d := [api.Segment]byte{}
	copy(d[:], s)
	return d
}

// pieces are the bytes of each segment.
func pieces(s string) []string {
	var l []string
	for len(s) > api.Segment {
		l = append(l, s[:api.Segment])
		s = s[api.Segment:]
	}
	return append(l, s)
}

// seg is a segment's line.
func seg(t *testing.T, seq int, last bool, s string) api.Line {
	t.Helper()
	l, e := sdomsg.Seg(seq, last, []byte(s))
	if e != api.OK {
		t.Fatal(e)
	}
	return l
}

// segs are the lines of some of the segments of a text, numbered from 1 on.
func segs(t *testing.T, s string, first, n int) []api.Line {
	t.Helper()
	all := pieces(s)
	var l []api.Line
	for i := first; i < len(all) && i < first+n; i++ {
		l = append(l, seg(t, i-first+1, i == len(all)-1, all[i]))
	}
	return l
}

// spare is how many bytes the last segment has less than 7.
func spare(s string) int { return len(pieces(s))*api.Segment - len(s) }

func crc(s string) int { return chunk.Crc([]byte(s)) }

// reader and writer are what is asked.
func reader(block bool) api.Ask { return api.Ask{Key: key, Block: block} }

func writer(block bool, s string) api.Ask {
	return api.Ask{Key: key, Write: true, Block: block, Data: s}
}

// Messages that come, or go.

func downed(k api.Key) api.Msg { return api.Msg{Cmd: api.Downed, Key: k} }

func downedSeg(toggle bool) api.Msg { return api.Msg{Cmd: api.DownedSeg, Toggle: toggle} }

func downSeg(toggle, last bool, s string) api.Msg {
	return api.Msg{Cmd: api.DownSeg, Toggle: toggle, Last: last, N: len(s), Data: data(s)}
}

func upped(k api.Key, size int) api.Msg { return api.Msg{Cmd: api.Upped, Key: k, Size: size} }

func uppedFast(k api.Key, s string) api.Msg {
	return api.Msg{Cmd: api.Upped, Key: k, Fast: true, N: len(s), Data: data(s)}
}

func upSeg(toggle bool) api.Msg { return api.Msg{Cmd: api.UpSeg, Toggle: toggle} }

func uppedSeg(toggle, last bool, s string) api.Msg {
	return api.Msg{Cmd: api.UppedSeg, Toggle: toggle, Last: last, N: len(s), Data: data(s)}
}

func blockDowned(k api.Key, sum bool, block int) api.Msg {
	return api.Msg{Cmd: api.BlockDowned, Key: k, Sum: sum, Block: block}
}

func blockUpped(k api.Key, sum bool, size int) api.Msg {
	return api.Msg{Cmd: api.BlockUpped, Key: k, Sum: sum, Size: size}
}

func ack(seq, block int) api.Msg { return api.Msg{Cmd: api.Ack, Seq: seq, Block: block} }

func end(spare, crc int) api.Msg { return api.Msg{Cmd: api.End, Spare: spare, Crc: crc} }

func start() api.Msg { return api.Msg{Cmd: api.Start} }

func done() api.Msg { return api.Msg{Cmd: api.Done} }

func quit(k api.Key, why api.Abort) api.Msg { return api.Msg{Cmd: api.Quit, Key: k, Code: why} }

// desk is a client.
type desk struct {
	*testing.T
	c *client.Client
}

// asks begins a transfer, and checks the line that goes.
func asks(t *testing.T, a api.Ask, want api.Msg) desk {
	t.Helper()
	x := desk{t, client.New()}
	l, e := x.c.Ask(a)
	if e != api.OK || !slices.Equal(l, lines(t, want)) {
		t.Errorf("Ask(%+v): % x %v, want %+v", a, l, e, want)
	}
	x.busy(true)
	x.none()
	return x
}

func (x desk) busy(want bool) {
	x.Helper()
	if x.c.Busy() != want {
		x.Errorf("Busy: %v", !want)
	}
}

// none checks that there is no result.
func (x desk) none() {
	x.Helper()
	if r, is := x.c.Result(); is || r != (api.Result{}) {
		x.Errorf("a result: %+v", r)
	}
}

// hears checks the lines that go behind a line.
func (x desk) hears(b api.Line, want ...api.Line) {
	x.Helper()
	if l := x.c.Handle(b); !slices.Equal(l, want) {
		x.Errorf("% x: % x, want % x", b, l, want)
	}
}

// gets is the same, of messages, behind which it goes on.
func (x desk) gets(m api.Msg, want ...api.Msg) {
	x.Helper()
	x.hears(line(x.T, m), lines(x.T, want...)...)
	x.busy(true)
	x.none()
}

// is checks that it is at its end, and the result, which is taken.
func (x desk) is(want api.Result) {
	x.Helper()
	x.busy(false)
	if r, there := x.c.Result(); r != want || !there {
		x.Errorf("Result: %+v %v, want %+v", r, there, want)
	}
	x.none()
}

// ends checks that a message is the last one: what goes behind it, and what came of all.
func (x desk) ends(m api.Msg, want api.Result, next ...api.Msg) {
	x.Helper()
	x.hears(line(x.T, m), lines(x.T, next...)...)
	x.is(want)
}

// fails checks that behind a line it ends with a reason, and tells it.
func (x desk) fails(b api.Line, a api.Ask, why api.Abort) {
	x.Helper()
	x.hears(b, sdomsg.Abort(a.Key, why))
	x.is(api.Result{Ask: a, Code: why})
}

// The document's example, and others byte by byte.
func TestExamples(t *testing.T) {
	c := client.New()
	go1 := func(a api.Ask, want ...api.Line) {
		t.Helper()
		if l, e := c.Ask(a); e != api.OK || !slices.Equal(l, want) {
			t.Errorf("%+v: % x %v", a, l, e)
		}
	}
	x := desk{t, c}
	go1(reader(false), api.Line{0x40, 0, 0x20, 1})
	x.hears(api.Line{0x4f, 0, 0x20, 1, 5})
	x.is(api.Result{Ask: reader(false), Data: "\x05"})
	go1(writer(false, "\x05"), api.Line{0x2f, 0, 0x20, 1, 5})
	x.hears(api.Line{0x60, 0, 0x20, 1})
	x.is(api.Result{Ask: writer(false, "\x05")})
	go1(writer(false, text(8)), api.Line{0x21, 0, 0x20, 1, 8})
	x.hears(api.Line{0x60, 0, 0x20, 1}, api.Line{0, 1, 2, 3, 4, 5, 6, 7})
	x.hears(api.Line{0x20}, api.Line{0x1d, 8})
	x.hears(api.Line{0x30})
	x.is(api.Result{Ask: writer(false, text(8))})
	go1(reader(false), api.Line{0x40, 0, 0x20, 1})
	x.hears(api.Line{0x41, 0, 0x20, 1, 8}, api.Line{0x60})
	x.hears(api.Line{0, 1, 2, 3, 4, 5, 6, 7}, api.Line{0x70})
	x.hears(api.Line{0x1d, 8})
	x.is(api.Result{Ask: reader(false), Data: text(8)})
	go1(writer(true, text(8)), api.Line{0xc6, 0, 0x20, 1, 8})
	x.hears(api.Line{0xa0, 0, 0x20, 1, 1}, api.Line{1, 1, 2, 3, 4, 5, 6, 7})
	x.hears(api.Line{0xa2, 1, 4}, api.Line{0x81, 8})
	x.hears(api.Line{0xa2, 1, 4}, api.Line{0xd9})
	x.hears(api.Line{0xa1})
	x.is(api.Result{Ask: writer(true, text(8))})
	go1(reader(true), api.Line{0xa4, 0, 0x20, 1, 4})
	x.hears(api.Line{0xc0, 0, 0x20, 1}, api.Line{0xa3})
	x.hears(api.Line{1, 1, 2, 3, 4, 5, 6, 7})
	x.hears(api.Line{0x82, 8}, api.Line{0xa2, 2, 4})
	x.hears(api.Line{0xd9}, api.Line{0xa1})
	x.is(api.Result{Ask: reader(true), Data: text(8)})
}

// P20.1: what may not be asked, and when nothing may.
func TestAskRefused(t *testing.T) {
	refused := func(c *client.Client, a api.Ask, want api.Errno) {
		t.Helper()
		if l, e := c.Ask(a); len(l) != 0 || e != want {
			t.Errorf("Ask(%+v): % x %v, want %v", a, l, e, want)
		}
	}
	wrong := []api.Ask{
		{Key: key, Data: "1"},
		{Key: key, Block: true, Data: text(10)},
		{Key: key, Data: text(65)},
		{Key: key, Write: true, Data: text(65)},
		{Key: key, Write: true, Block: true, Data: strings.Repeat("x", 1000)},
	}
	for _, k := range []api.Key{{Index: -1}, {Index: 65536}, {Sub: -1}, {Sub: 256}, {Index: math.MaxInt}, {Index: math.MinInt}, {Sub: math.MaxInt}, {Sub: math.MinInt}} {
		for _, block := range []bool{false, true} {
			wrong = append(wrong, api.Ask{Key: k, Block: block}, api.Ask{Key: k, Block: block, Write: true, Data: "1"})
		}
	}
	for _, a := range wrong {
		c := client.New()
		refused(c, a, api.ErrArg)
		desk{t, c}.busy(false)
		desk{t, c}.none()
		if _, e := c.Ask(reader(false)); e != api.OK {
			t.Errorf("behind %+v: %v", a, e)
		}
		refused(c, a, api.ErrArg) // ahead of ErrState
		refused(c, reader(false), api.ErrState)
		refused(nil, a, api.ErrNil)
	}
	x := asks(t, reader(false), api.Msg{Cmd: api.Up, Key: key})
	for _, a := range []api.Ask{reader(true), writer(false, "1"), writer(true, text(9))} {
		refused(x.c, a, api.ErrState)
	}
	x.hears(line(t, uppedFast(key, "123"))) // what was under way goes on
	for _, a := range []api.Ask{reader(false), writer(true, "")} {
		refused(x.c, a, api.ErrState) // the result has not been taken
	}
	x.is(api.Result{Ask: reader(false), Data: "123"})
	if _, e := x.c.Ask(reader(true)); e != api.OK {
		t.Errorf("behind the result: %v", e)
	}
}

// P20.1: keys at their edges, which go in all lines.
func TestAskKeys(t *testing.T) {
	for _, k := range []api.Key{{}, {Index: 65535, Sub: 255}, {Index: 0x1234}, {Sub: 255}} {
		x := asks(t, api.Ask{Key: k}, api.Msg{Cmd: api.Up, Key: k})
		x.ends(uppedFast(k, "1"), api.Result{Ask: api.Ask{Key: k}, Data: "1"})
		a := api.Ask{Key: k, Write: true, Data: "12"}
		x = asks(t, a, api.Msg{Cmd: api.Down, Key: k, Fast: true, N: 2, Data: data("12")})
		x.fails(api.Line{0xff}, a, api.AbCommand)
	}
}

// P20.2: to write, not in blocks, all lengths.
func TestWrite(t *testing.T) {
	for n := range api.MaxText + 1 {
		s := text(n)
		a := writer(false, s)
		if 1 <= n && n <= 4 {
			x := asks(t, a, api.Msg{Cmd: api.Down, Key: key, Fast: true, N: n, Data: data(s)})
			x.ends(downed(key), api.Result{Ask: a})
			continue
		}
		x := asks(t, a, api.Msg{Cmd: api.Down, Key: key, Size: n})
		came := downed(key)
		all := pieces(s)
		for i, p := range all {
			x.gets(came, downSeg(i%2 == 1, i == len(all)-1, p))
			came = downedSeg(i%2 == 1)
		}
		x.ends(came, api.Result{Ask: a})
	}
}

// P20.2: to write in blocks, all lengths, of blocks of all sizes.
func TestWriteBlocks(t *testing.T) {
	for n := range api.MaxText + 1 {
		s := text(n)
		a := writer(true, s)
		for _, block := range []int{1, 2, 4, 9, 10, 11, 127} {
			for _, sum := range []bool{false, true} {
				x := asks(t, a, api.Msg{Cmd: api.BlockDown, Key: key, Sum: true, Size: n})
				came := blockDowned(key, sum, block)
				for at := 0; at < len(pieces(s)); at += block {
					l := segs(t, s, at, block)
					x.hears(line(t, came), l...)
					x.busy(true)
					came = ack(len(l), block)
				}
				if sum {
					x.gets(came, end(spare(s), crc(s)))
				} else {
					x.gets(came, end(spare(s), 0))
				}
				x.ends(done(), api.Result{Ask: a})
			}
		}
	}
}

// P20.2: what is not confirmed goes again, in blocks of the size that was told last.
func TestWriteAcks(t *testing.T) {
	s := text(50) // eight segments
	x := asks(t, writer(true, s), api.Msg{Cmd: api.BlockDown, Key: key, Sum: true, Size: 50})
	x.hears(line(t, blockDowned(key, true, 3)), segs(t, s, 0, 3)...)
	x.hears(line(t, ack(0, 3)), segs(t, s, 0, 3)...)
	x.hears(line(t, ack(2, 1)), segs(t, s, 2, 1)...)
	x.hears(line(t, ack(1, 127)), segs(t, s, 3, 127)...)
	x.hears(line(t, ack(4, 127)), segs(t, s, 7, 127)...)
	x.gets(ack(1, 1), end(6, crc(s)))
	x.ends(done(), api.Result{Ask: writer(true, s)})
}

// P20.2: the reason of Ack; a Block that may not be makes the line none.
func TestAckRefused(t *testing.T) {
	s := text(50)
	a := writer(true, s)
	for seq := range 128 {
		x := asks(t, a, api.Msg{Cmd: api.BlockDown, Key: key, Sum: true, Size: 50})
		x.hears(line(t, blockDowned(key, true, 3)), segs(t, s, 0, 3)...)
		if seq > 3 {
			x.fails(line(t, ack(seq, 3)), a, api.AbSeq)
		} else {
			x.hears(line(t, ack(seq, 3)), segs(t, s, seq, 3)...)
		}
	}
	for _, block := range []byte{0, 128, 255} {
		x := asks(t, a, api.Msg{Cmd: api.BlockDown, Key: key, Sum: true, Size: 50})
		x.hears(line(t, blockDowned(key, true, 3)), segs(t, s, 0, 3)...)
		x.fails(api.Line{0xa2, 1, block}, a, api.AbCommand)
	}
}

// P20.2: to read, not in blocks, all lengths, with and without their number.
func TestRead(t *testing.T) {
	a := reader(false)
	for n := range 4 {
		x := asks(t, a, api.Msg{Cmd: api.Up, Key: key})
		x.ends(uppedFast(key, text(n+1)), api.Result{Ask: a, Data: text(n + 1)})
	}
	for n := range api.MaxText + 1 {
		s := text(n)
		for _, size := range []int{-1, n} {
			x := asks(t, a, api.Msg{Cmd: api.Up, Key: key})
			x.gets(upped(key, size), upSeg(false))
			all := pieces(s)
			for i, p := range all[:len(all)-1] {
				x.gets(uppedSeg(i%2 == 1, false, p), upSeg(i%2 == 0))
			}
			x.ends(uppedSeg(len(all)%2 == 0, true, all[len(all)-1]), api.Result{Ask: a, Data: s})
		}
	}
	x := asks(t, a, api.Msg{Cmd: api.Up, Key: key}) // pieces may be of any length
	x.gets(upped(key, 3), upSeg(false))
	x.gets(uppedSeg(false, false, ""), upSeg(true))
	x.gets(uppedSeg(true, false, "\x00b"), upSeg(false))
	x.gets(uppedSeg(false, false, "c"), upSeg(true))
	x.ends(uppedSeg(true, true, ""), api.Result{Ask: a, Data: "\x00bc"})
}

// P20.2: why UppedSeg is refused; the first reason is told.
func TestUppedSegRefused(t *testing.T) {
	a := reader(false)
	full := pieces(text(63))
	for _, c := range []struct {
		name  string
		size  int
		right []string
		wrong api.Msg
		why   api.Abort
	}{
		{"Toggle at first", -1, nil, uppedSeg(true, true, "1"), api.AbToggle},
		{"Toggle again", 2, []string{"1"}, uppedSeg(false, true, "2"), api.AbToggle},
		{"Toggle ahead of AbLong", -1, full, uppedSeg(false, true, "22"), api.AbToggle},
		{"Toggle ahead of AbLength", 9, nil, uppedSeg(true, true, "1"), api.AbToggle},
		{"long", -1, full, uppedSeg(true, false, "22"), api.AbLong},
		{"long, and Last", -1, full, uppedSeg(true, true, "22"), api.AbLong},
		{"long ahead of AbLength", 64, full, uppedSeg(true, true, "22"), api.AbLong},
		{"long, as it was told", 70, full, uppedSeg(true, true, "7777777"), api.AbLong},
		{"one short", 3, nil, uppedSeg(false, true, "12"), api.AbLength},
		{"one too many", 3, nil, uppedSeg(false, true, "1234"), api.AbLength},
		{"none told", 0, nil, uppedSeg(false, true, "1"), api.AbLength},
		{"none came", 1, nil, uppedSeg(false, true, ""), api.AbLength},
		{"far too many told", 1<<32 - 1, full, uppedSeg(true, true, "4"), api.AbLength},
	} {
		x := asks(t, a, api.Msg{Cmd: api.Up, Key: key})
		x.gets(upped(key, c.size), upSeg(false))
		for i, p := range c.right {
			x.gets(uppedSeg(i%2 == 1, false, p), upSeg(i%2 == 0))
		}
		x.fails(line(t, c.wrong), a, c.why)
		if t.Failed() {
			t.Fatal(c.name)
		}
	}
	x := asks(t, a, api.Msg{Cmd: api.Up, Key: key}) // more than were told are refused at the end alone
	x.gets(upped(key, 1), upSeg(false))
	x.gets(uppedSeg(false, false, "123"), upSeg(true))
	x.fails(line(t, uppedSeg(true, true, "")), a, api.AbLength)
}

// P20.2: DownedSeg with another Toggle.
func TestDownedSegToggle(t *testing.T) {
	a := writer(false, text(20)) // three segments
	for n := range 3 {
		x := asks(t, a, api.Msg{Cmd: api.Down, Key: key, Size: 20})
		came := downed(key)
		for i, p := range pieces(text(20))[:n+1] {
			x.gets(came, downSeg(i%2 == 1, i == 2, p))
			came = downedSeg(i%2 == 1)
		}
		x.fails(line(t, downedSeg(!came.Toggle)), a, api.AbToggle)
	}
}

// P20.2: to read in blocks, all lengths.
func TestReadBlocks(t *testing.T) {
	a := reader(true)
	for n := range api.MaxText + 1 {
		s := text(n)
		for _, m := range []api.Msg{blockUpped(key, true, n), blockUpped(key, true, -1), blockUpped(key, false, n), blockUpped(key, false, -1)} {
			x := asks(t, a, api.Msg{Cmd: api.BlockUp, Key: key, Sum: true, Block: api.MaxBlock})
			x.gets(m, start())
			for at := 0; at < len(pieces(s)); at += api.MaxBlock {
				l := segs(t, s, at, api.MaxBlock)
				for _, b := range l[:len(l)-1] {
					x.hears(b)
				}
				x.hears(l[len(l)-1], line(t, ack(len(l), api.MaxBlock)))
				x.busy(true)
			}
			check := crc(s)
			if !m.Sum {
				check ^= 1 // it is not looked at
			}
			x.ends(end(spare(s), check), api.Result{Ask: a, Data: s}, done())
		}
	}
}

// calls begins to read in blocks.
func calls(t *testing.T, sum bool, size int) desk {
	t.Helper()
	x := asks(t, reader(true), api.Msg{Cmd: api.BlockUp, Key: key, Sum: true, Block: api.MaxBlock})
	x.gets(blockUpped(key, sum, size), start())
	return x
}

// P20.2: segments that get lost, or come twice, are asked for again.
func TestReadBlocksLost(t *testing.T) {
	s := text(48) // seven segments
	x := calls(t, true, 48)
	l := segs(t, s, 0, 4)
	x.hears(l[0])
	x.hears(l[0])
	x.hears(l[2])
	x.hears(l[3], line(t, ack(1, 4)))
	l = segs(t, s, 1, 4)
	x.hears(l[3], line(t, ack(0, 4)))
	x.hears(l[0])
	x.hears(l[1])
	x.hears(l[2])
	x.hears(l[3], line(t, ack(4, 4)))
	l = segs(t, s, 5, 4)
	x.hears(l[1], line(t, ack(0, 4))) // marked as the last one, but the one ahead of it has not come
	x.hears(l[0])
	x.hears(l[1], line(t, ack(2, 4)))
	x.ends(end(1, crc(s)), api.Result{Ask: reader(true), Data: s}, done())
}

// P20.2: why a segment of a block is refused.
func TestSegmentsRefused(t *testing.T) {
	a := reader(true)
	for _, wrong := range []api.Line{{0}, {5}, {0x85, 1}, {127}, {0xff}, {0x60, 0, 0x20, 1}, {0xa1}, {0xc1}, {0xa2, 1, 4}} {
		x := calls(t, true, 20)
		x.hears(segs(t, text(20), 0, 4)[0])
		x.fails(wrong, a, api.AbSeq)
	}
	x := calls(t, true, 64)
	for i := range 10 {
		if i%4 == 3 {
			x.hears(seg(t, 4, false, text(7)), line(t, ack(4, 4)))
		} else {
			x.hears(seg(t, i%4+1, false, text(7)))
		}
	}
	x.fails(seg(t, 3, true, text(7)), a, api.AbLong)
	x = calls(t, true, 20)
	x.fails(line(t, quit(key, api.Fine)), a, api.AbCommand)
	x = calls(t, true, 20)
	x.ends(quit(key, api.AbState), api.Result{Ask: a, Code: api.AbState})
}

// P20.2: why End is refused; the first reason is told.
func TestEndRefused(t *testing.T) {
	a := reader(true)
	for _, c := range []struct {
		name string
		sum  bool
		size int
		n    int // bytes that come
		end  api.Msg
		why  api.Abort
	}{
		{"check", true, 10, 10, end(4, crc(text(10))^1), api.AbCrc},
		{"check 0", true, 10, 10, end(4, 0), api.AbCrc},
		{"spare", true, 10, 10, end(3, crc(text(10))), api.AbCrc},
		{"check ahead of AbLong", true, -1, 65, end(5, 1), api.AbCrc},
		{"check ahead of AbLength", true, 9, 10, end(4, 1), api.AbCrc},
		{"long", true, -1, 65, end(5, crc(text(65))), api.AbLong},
		{"long, no check", false, -1, 70, end(0, 0), api.AbLong},
		{"long ahead of AbLength", true, 64, 65, end(5, crc(text(65))), api.AbLong},
		{"long, as it was told", true, 65, 65, end(5, crc(text(65))), api.AbLong},
		{"length", true, 11, 10, end(4, crc(text(10))), api.AbLength},
		{"length by spare", false, 10, 10, end(5, 7), api.AbLength},
		{"none told", false, 0, 1, end(6, 7), api.AbLength},
		{"far too many told", false, 1<<32 - 1, 1, end(6, 7), api.AbLength},
	} {
		x := calls(t, c.sum, c.size)
		all := pieces(text(c.n))
		for i, p := range all {
			x.c.Handle(seg(t, i%api.MaxBlock+1, i == len(all)-1, p))
		}
		x.busy(true)
		x.fails(line(t, c.end), a, c.why)
		if t.Failed() {
			t.Fatal(c.name)
		}
	}
}

// waiting is a client that waits for something, the message that is to come, and what it does not end with by itself.
type waiting struct {
	ask  api.Ask
	came []api.Msg // ahead of it
	seg  bool      // a segment that is the last one, too
	want api.Msg
}

// all are clients in each state, but the one in which a block's segments are awaited.
func all() map[string]waiting {
	long := text(20)
	return map[string]waiting{
		"fast":     {writer(false, "1"), nil, false, downed(key)},
		"opening":  {writer(false, long), nil, false, downed(key)},
		"none":     {writer(false, ""), nil, false, downed(key)},
		"writing":  {writer(false, long), []api.Msg{downed(key)}, false, downedSeg(false)},
		"again":    {writer(false, long), []api.Msg{downed(key), downedSeg(false)}, false, downedSeg(true)},
		"offering": {writer(true, long), nil, false, blockDowned(key, true, 2)},
		"sending":  {writer(true, long), []api.Msg{blockDowned(key, true, 2)}, false, ack(2, 2)},
		"closing":  {writer(true, "1"), []api.Msg{blockDowned(key, true, 2), ack(1, 2)}, false, done()},
		"asking":   {reader(false), nil, false, uppedFast(key, "123")},
		"reading":  {reader(false), []api.Msg{upped(key, 9)}, false, uppedSeg(false, false, "1")},
		"calling":  {reader(true), nil, false, blockUpped(key, true, 5)},
		"ending":   {reader(true), []api.Msg{blockUpped(key, false, 1)}, true, end(6, 0)},
	}
}

// now is such a client.
func (w waiting) now(t *testing.T) desk {
	t.Helper()
	x := desk{t, client.New()}
	if _, e := x.c.Ask(w.ask); e != api.OK {
		t.Fatal(w.ask, e)
	}
	for _, m := range w.came {
		x.c.Handle(line(t, m))
	}
	if w.seg {
		x.c.Handle(seg(t, 1, true, "1"))
	}
	x.busy(true)
	return x
}

// P20.2: what it waits for is taken, with its Key alone; whatever else is answered is refused.
func TestWaits(t *testing.T) {
	answers := []api.Msg{
		downed(key), downedSeg(false), downedSeg(true), upped(key, 5), upped(key, -1), uppedFast(key, "12"),
		uppedSeg(false, false, "1"), uppedSeg(true, true, ""), blockDowned(key, false, 1), blockDowned(key, true, 127),
		blockUpped(key, false, -1), blockUpped(key, true, 5), ack(0, 1), ack(1, 127), end(6, 0), end(0, 65535), done(), quit(key, api.Fine), quit(other, api.Fine),
	}
	for name, w := range all() {
		x := w.now(t)
		if l := x.c.Handle(line(t, w.want)); len(l) > 0 && l[0] == sdomsg.Abort(key, api.AbCommand) {
			t.Errorf("%s: %+v is refused", name, w.want)
		}
		for _, m := range answers {
			if m.Cmd != w.want.Cmd {
				w.now(t).fails(line(t, m), w.ask, api.AbCommand)
			}
		}
		if w.want.Key == key {
			for _, k := range []api.Key{other, {Index: 0x2001, Sub: 1}, {}} {
				m := w.want
				m.Key = k
				w.now(t).fails(line(t, m), w.ask, api.AbCommand)
			}
		}
		if t.Failed() {
			t.Fatal(name)
		}
	}
}

// P20.2: Quit ends, without a line, whatever its Key and Code are, but of the Code 0.
func TestQuit(t *testing.T) {
	for _, w := range all() {
		for _, m := range []api.Msg{quit(key, api.AbReadOnly), quit(other, api.AbState), quit(api.Key{}, api.AbCommand), quit(key, 1), quit(key, 1<<32-1)} {
			w.now(t).ends(m, api.Result{Ask: w.ask, Code: m.Code})
		}
		w.now(t).fails(api.Line{0x80, 0, 0x20, 1}, w.ask, api.AbCommand)
	}
}

// P20.2: what is no message that is answered.
func TestNoMessage(t *testing.T) {
	for _, w := range all() {
		for _, b := range []api.Line{{0xe0}, {0xff}, {0x61}, {0x22}, {0x21}, {0xa3}, {0x2f, 0, 0x20, 1, 5}, {0x60, 0, 0x20, 1, 1}, {0x4f, 0, 0x20, 1, 5, 6}, {0x20, 1}, {0xa2, 1, 0}, {0xa1, 1}, {0xc8}, {0xc1, 0, 0, 1}} {
			w.now(t).fails(b, w.ask, api.AbCommand)
		}
	}
}

// P20.2: without a transfer nothing is heard, and nothing changes.
func TestIdle(t *testing.T) {
	x := desk{t, client.New()}
	deaf := func() {
		t.Helper()
		for head := range 256 {
			x.hears(api.Line{byte(head), 0, 0x20, 1, 1})
			if l := x.c.Tick(); len(l) != 0 {
				t.Errorf("Tick: % x", l)
			}
		}
		x.busy(false)
	}
	deaf()
	x.none()
	if _, e := x.c.Ask(reader(false)); e != api.OK {
		t.Error(e)
	}
	x.hears(line(t, uppedFast(key, "12")))
	deaf() // there is a result
	x.is(api.Result{Ask: reader(false), Data: "12"})
	deaf()
	x.none()
}

// P20.3: whoever waits too long ends, in each state, and tells it.
func TestTick(t *testing.T) {
	late := func(x desk, w waiting) {
		t.Helper()
		for i := range api.Patience - 1 {
			if l := x.c.Tick(); len(l) != 0 || !x.c.Busy() {
				t.Fatalf("%+v: % x at the tick %d", w, l, i+1)
			}
			x.none()
		}
		if l := x.c.Tick(); !slices.Equal(l, []api.Line{sdomsg.Abort(key, api.AbTime)}) {
			t.Errorf("%+v: % x", w, l)
		}
		x.is(api.Result{Ask: w.ask, Code: api.AbTime})
		if l := x.c.Tick(); len(l) != 0 {
			t.Errorf("%+v: % x behind its end", w, l)
		}
	}
	for _, w := range all() {
		late(w.now(t), w)
		x := w.now(t)
		for range api.Patience - 1 {
			x.c.Tick()
		}
		x.c.Handle(line(t, w.want))
		if x.c.Busy() { // it waits for what is next anew
			late(x, w)
		}
	}
	x := calls(t, true, 20)
	for range 3 { // what is passed over is a line, too
		for range api.Patience - 1 {
			x.c.Tick()
		}
		x.hears(seg(t, 2, false, "1"))
	}
	late(x, waiting{ask: reader(true)})
	x = asks(t, reader(false), api.Msg{Cmd: api.Up, Key: key})
	for range api.Patience - 1 {
		x.c.Tick()
	}
	x.ends(uppedFast(key, "1"), api.Result{Ask: reader(false), Data: "1"})
	if _, e := x.c.Ask(reader(false)); e != api.OK { // the ticks are counted from Ask on
		t.Error(e)
	}
	late(x, waiting{ask: reader(false)})
}

// P20.3: what has passed without a transfer is not counted.
func TestTickAhead(t *testing.T) {
	x := desk{t, client.New()}
	for range 100 {
		x.c.Tick()
	}
	x.c.Ask(reader(false))
	if _, e := x.c.Ask(writer(false, "1")); e != api.ErrState {
		t.Error(e)
	}
	for range api.Patience - 1 {
		x.c.Tick()
	}
	x.c.Ask(writer(false, "1")) // nor does what is refused begin anything
	x.busy(true)
	x.c.Tick()
	x.is(api.Result{Ask: reader(false), Code: api.AbTime})
}

// P20.3: Reset drops what is under way, and the result.
func TestReset(t *testing.T) {
	for _, w := range all() {
		x := w.now(t)
		x.c.Tick()
		x.c.Reset()
		x.busy(false)
		x.none()
		x.hears(line(t, w.want))
		if l, e := x.c.Ask(w.ask); len(l) != 1 || e != api.OK {
			t.Errorf("behind Reset: % x %v", l, e)
		}
		for range api.Patience - 1 {
			x.c.Tick()
		}
		x.busy(true)
	}
	x := desk{t, client.New()}
	x.c.Ask(reader(false))
	x.hears(line(t, uppedFast(key, "1")))
	x.c.Reset()
	x.none()
	if _, e := x.c.Ask(reader(true)); e != api.OK {
		t.Error(e)
	}
}

// P20.3, P4: a Fork stands alike, and alone.
func TestFork(t *testing.T) {
	for name, w := range all() {
		x, same := w.now(t), w.now(t)
		x.c.Tick()
		fork := desk{t, x.c.Fork()}
		fork.busy(true)
		told := fork.c.Handle(line(t, w.want))
		x.busy(true) // the one knows nothing of the other one
		x.none()
		x.hears(line(t, w.want), told...)
		same.hears(line(t, w.want), told...)
		r, is := fork.c.Result()
		if s, there := x.c.Result(); r != s || is != there {
			t.Errorf("%s: %+v %+v", name, r, s)
		}
		x = w.now(t)
		for range api.Patience - 1 {
			x.c.Tick()
		}
		fork = desk{t, x.c.Fork()}
		x.c.Handle(api.Line{0xff})
		fork.busy(true)
		fork.c.Tick()
		fork.is(api.Result{Ask: w.ask, Code: api.AbTime})
		x.is(api.Result{Ask: w.ask, Code: api.AbCommand})
	}
	x := calls(t, false, -1)
	x.hears(seg(t, 1, false, text(7)))
	fork := desk{t, x.c.Fork()}
	x.hears(seg(t, 2, true, "1"), line(t, ack(2, 4)))
	fork.hears(seg(t, 2, true, "2"), line(t, ack(2, 4)))
	x.ends(end(6, 0), api.Result{Ask: reader(true), Data: text(7) + "1"}, done())
	fork.hears(line(t, end(6, 0)), line(t, done()))
	again := desk{t, fork.c.Fork()} // of a result
	fork.is(api.Result{Ask: reader(true), Data: text(7) + "2"})
	again.is(api.Result{Ask: reader(true), Data: text(7) + "2"})
}

// P1, P20.3: of nil, and of such as no call made.
func TestNil(t *testing.T) {
	x := desk{t, nil}
	if l, e := x.c.Ask(reader(false)); len(l) != 0 || e != api.ErrNil {
		t.Errorf("Ask: % x %v", l, e)
	}
	for head := range 256 {
		x.hears(api.Line{byte(head)})
	}
	if l := x.c.Tick(); len(l) != 0 || x.c.Fork() != nil {
		t.Errorf("Tick: % x, or a Fork", l)
	}
	x.c.Reset()
	x.busy(false)
	x.none()
	if client.New() == nil {
		t.Error("New")
	}
	z := &client.Client{}
	for head := range 256 {
		z.Handle(api.Line{byte(head)})
		z.Tick()
		z.Ask(reader(head%2 == 0))
	}
	z.Fork()
	z.Result()
	z.Reset()
}

// P3: what was answered is no part of the client.
func TestMemory(t *testing.T) {
	s := text(20)
	x := asks(t, writer(true, s), api.Msg{Cmd: api.BlockDown, Key: key, Sum: true, Size: 20})
	clear(x.c.Handle(line(t, blockDowned(key, true, 4))))
	x.hears(line(t, ack(0, 4)), segs(t, s, 0, 4)...)
	x = asks(t, writer(false, s), api.Msg{Cmd: api.Down, Key: key, Size: 20})
	clear(x.c.Handle(line(t, downed(key))))
	x.gets(downedSeg(false), downSeg(true, false, s[7:14]))
}

// entries is a dictionary, with one entry of each kind of access, under 2000h, and the safety section.
func entries(t *testing.T) *dict.Dict {
	t.Helper()
	d := dict.New()
	sub := 0
	for _, a := range []api.Access{api.ReadOnly, api.WriteOnly, api.ReadWrite, api.Constant} {
		for _, s := range []api.Spec{{Kind: api.U8, High: 9}, {Kind: api.I32, Low: -5, High: 5}, {Kind: api.Text, High: api.MaxText}, {Kind: api.Text, Low: 5, High: 20}} {
			s.Access = a
			if e := d.Add(api.Key{Index: 0x2000, Sub: sub}, s, nil); e != api.OK {
				t.Fatal(e)
			}
			sub++
		}
	}
	if e := area.Lay(d); e != api.OK {
		t.Fatal(e)
	}
	return d
}

// run carries lines to and fro till none is left; false, if that takes too long.
func run(c *client.Client, s *serve.Server, d *dict.Dict, l []api.Line) bool {
	for range 200 {
		if len(l) == 0 {
			return true
		}
		var back []api.Line
		for _, b := range l {
			back = append(back, s.Handle(d, b)...)
		}
		l = nil
		for _, b := range back {
			l = append(l, c.Handle(b)...)
		}
	}
	return false
}

// P20.4, P19.4: of a client and a server, whose lines all come.
func TestWithServer(t *testing.T) {
	r := rand.New(rand.NewSource(20))
	c, s, d := client.New(), serve.New(), entries(t)
	ends := map[api.Abort]int{}
	transfer := func(a api.Ask) api.Result {
		t.Helper()
		l, e := c.Ask(a)
		if e != api.OK || !run(c, s, d, l) {
			t.Fatalf("%+v: %v", a, e)
		}
		got, is := c.Result()
		if !is || got.Ask != a || s.Busy() {
			t.Fatalf("%+v: %+v %v", a, got, is)
		}
		ends[got.Code]++
		return got
	}
	for range 20000 {
		k := api.Key{Index: 0x2000 + r.Intn(20)/19, Sub: r.Intn(18)}
		if r.Intn(8) == 0 {
			k = api.Key{Index: 0x1301, Sub: r.Intn(8)}
		}
		b := make([]byte, []int{1, 4, r.Intn(9), r.Intn(api.MaxText + 1)}[r.Intn(4)])
		r.Read(b)
		if r.Intn(2) == 0 && len(b) > 0 {
			clear(b[1:])
			b[0] %= 12
		}
		a := api.Ask{Key: k, Write: r.Intn(2) == 0, Block: r.Intn(2) == 0}
		if a.Write {
			a.Data = string(b)
			alone := d.Fork()
			why := alone.Write(k, b)
			if got := transfer(a); got.Code != why || got.Data != "" {
				t.Fatalf("%+v: %+v, but %x", a, got, why)
			}
			held, _ := d.Raw(k)
			if should, _ := alone.Raw(k); string(held) != string(should) {
				t.Fatalf("%+v: % x stands there", a, held)
			}
			continue
		}
		held, why := d.Read(k)
		if got := transfer(a); got.Code != why || got.Data != string(held) {
			t.Fatalf("%+v: %+v, but % x %x", a, got, held, why)
		}
	}
	for _, why := range []api.Abort{api.Fine, api.AbNoObject, api.AbNoSub, api.AbReadOnly, api.AbWriteOnly, api.AbShort, api.AbLong, api.AbHigh, api.AbLow} {
		if ends[why] == 0 {
			t.Errorf("none ended with %x", why)
		}
	}
}

// P20.5: whatever comes, or does not, a transfer that has waited too long is at its end; and one that gets nothing right ends, too.
func TestAnything(t *testing.T) {
	r := rand.New(rand.NewSource(5))
	ends := map[api.Abort]int{}
	for range 3000 {
		c, s, d := client.New(), serve.New(), entries(t)
		k := api.Key{Index: 0x2000, Sub: r.Intn(16)}
		a := api.Ask{Key: k, Write: r.Intn(2) == 0, Block: r.Intn(2) == 0}
		if a.Write {
			a.Data = text(r.Intn(api.MaxText + 1))
		}
		l, _ := c.Ask(a)
		loss, spoil := r.Intn(4), r.Intn(40)
		silent := 0
		for i := 0; c.Busy(); i++ {
			var back []api.Line
			for _, b := range l {
				if r.Intn(10) >= loss {
					back = append(back, s.Handle(d, b)...)
				}
			}
			l, silent = nil, silent+1
			for _, b := range back {
				if r.Intn(40) < spoil/10 {
					r.Read(b[:1+r.Intn(8)])
				}
				if r.Intn(10) < loss {
					continue
				}
				l, silent = append(l, c.Handle(b)...), 0
			}
			l = append(l, c.Tick()...)
			if silent > api.Patience || i > 5000 {
				t.Fatalf("%+v does not end", a)
			}
		}
		got, is := c.Result()
		if !is || got.Ask != a || got.Code != api.Fine && got.Data != "" {
			t.Fatalf("%+v: %+v %v", a, got, is)
		}
		ends[got.Code]++
	}
	for _, why := range []api.Abort{api.Fine, api.AbTime, api.AbCommand} {
		if ends[why] == 0 {
			t.Errorf("none ended with %x", why)
		}
	}
}
