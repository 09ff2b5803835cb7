package sdomsg_test

import (
	"bytes"
	"math"
	"math/rand"
	"slices"
	"testing"

	"tripwire/api"
	"tripwire/sdomsg"
)

// The calls have just these signatures.
var (
	_ func(api.Msg) (api.Line, api.Errno)           = sdomsg.Encode
	_ func(api.Line, bool) (api.Msg, api.Errno)     = sdomsg.Decode
	_ func(api.Key, api.Abort) api.Line             = sdomsg.Abort
	_ func(int, bool, []byte) (api.Line, api.Errno) = sdomsg.Seg
	_ func(api.Line) (int, bool, []byte)            = sdomsg.Unseg
)

// key is a name, and where it stands in a line.
var key = api.Key{Index: 0x1234, Sub: 0x56}

// data are bytes of a message.
func data(b ...byte) [api.Segment]byte {
	d := [api.Segment]byte{}
	copy(d[:], b)
	return d
}

// sample is a message, and its line.
type sample struct {
	m api.Msg
	l api.Line
}

// keyed is a line of a message with the key.
func keyed(head byte, rest ...byte) api.Line {
	l := api.Line{head, 0x34, 0x12, 0x56}
	copy(l[4:], rest)
	return l
}

// samples are messages of each Cmd, with each of their bits, written out by the document's table.
func samples() []sample {
	l := []sample{
		{api.Msg{Cmd: api.Up, Key: key}, keyed(0x40)},
		{api.Msg{Cmd: api.UpSeg}, api.Line{0x60}},
		{api.Msg{Cmd: api.UpSeg, Toggle: true}, api.Line{0x70}},
		{api.Msg{Cmd: api.BlockUp, Key: key, Block: 1}, keyed(0xa0, 1)},
		{api.Msg{Cmd: api.BlockUp, Key: key, Block: 127, Sum: true}, keyed(0xa4, 127)},
		{api.Msg{Cmd: api.Start}, api.Line{0xa3}},
		{api.Msg{Cmd: api.Downed, Key: key}, keyed(0x60)},
		{api.Msg{Cmd: api.DownedSeg}, api.Line{0x20}},
		{api.Msg{Cmd: api.DownedSeg, Toggle: true}, api.Line{0x30}},
		{api.Msg{Cmd: api.BlockDowned, Key: key, Block: 127}, keyed(0xa0, 127)},
		{api.Msg{Cmd: api.BlockDowned, Key: key, Block: 1, Sum: true}, keyed(0xa4, 1)},
		{api.Msg{Cmd: api.Quit, Key: key}, keyed(0x80)},
		{api.Msg{Cmd: api.Quit, Key: key, Code: 0x01020304}, keyed(0x80, 4, 3, 2, 1)},
		{api.Msg{Cmd: api.Quit, Key: key, Code: 1<<32 - 1}, keyed(0x80, 255, 255, 255, 255)},
		{api.Msg{Cmd: api.Ack, Seq: 0, Block: 1}, api.Line{0xa2, 0, 1}},
		{api.Msg{Cmd: api.Ack, Seq: 127, Block: 127}, api.Line{0xa2, 127, 127}},
		{api.Msg{Cmd: api.End}, api.Line{0xc1}},
		{api.Msg{Cmd: api.End, Spare: 4, Crc: 0x0102}, api.Line{0xd1, 2, 1}},
		{api.Msg{Cmd: api.End, Spare: 7, Crc: 65535}, api.Line{0xdd, 255, 255}},
		{api.Msg{Cmd: api.Done}, api.Line{0xa1}},
	}
	for i, fast := range []byte{0x2f, 0x2b, 0x27, 0x23} {
		b := []byte{0xa5, 0, 0xff, 1}[:i+1]
		l = append(l,
			sample{api.Msg{Cmd: api.Down, Key: key, Fast: true, N: i + 1, Data: data(b...)}, keyed(fast, b...)},
			sample{api.Msg{Cmd: api.Upped, Key: key, Fast: true, N: i + 1, Data: data(b...)}, keyed(fast+0x20, b...)})
	}
	for c, heads := range map[api.Cmd][2]byte{api.Down: {0x20, 0x21}, api.Upped: {0x40, 0x41}, api.BlockDown: {0xc0, 0xc2}, api.BlockUpped: {0xc0, 0xc2}} {
		l = append(l,
			sample{api.Msg{Cmd: c, Key: key, Size: -1}, keyed(heads[0])},
			sample{api.Msg{Cmd: c, Key: key, Size: 0}, keyed(heads[1])},
			sample{api.Msg{Cmd: c, Key: key, Size: 0x01020304}, keyed(heads[1], 4, 3, 2, 1)},
			sample{api.Msg{Cmd: c, Key: key, Size: 1<<32 - 1}, keyed(heads[1], 255, 255, 255, 255)})
		if c == api.BlockDown || c == api.BlockUpped {
			l = append(l,
				sample{api.Msg{Cmd: c, Key: key, Sum: true, Size: -1}, keyed(0xc4)},
				sample{api.Msg{Cmd: c, Key: key, Sum: true, Size: 5}, keyed(0xc6, 5)})
		}
	}
	for _, c := range []api.Cmd{api.DownSeg, api.UppedSeg} {
		for n, head := range []byte{0x0e, 0x0c, 0x0a, 0x08, 0x06, 0x04, 0x02, 0x00} {
			b := []byte{9, 8, 7, 6, 5, 4, 0xff}[:n]
			x := api.Msg{Cmd: c, N: n, Data: data(b...)}
			seg := api.Line{head}
			copy(seg[1:], b)
			for bits := range byte(4) {
				x.Toggle, x.Last = bits&1 != 0, bits&2 != 0
				seg[0] = head + 0x10*(bits&1) + bits>>1
				l = append(l, sample{x, seg})
			}
		}
	}
	return l
}

// sides: may a Cmd be asked, and may it be answered?
func sides(c api.Cmd) (asked, answered bool) { return c <= api.Start || c >= api.Quit, c >= api.Downed }

// P17.1, P17.2, P17.4: the document's table, both ways.
func TestLines(t *testing.T) {
	seen := map[api.Cmd]bool{}
	for _, s := range samples() {
		seen[s.m.Cmd] = true
		if l, e := sdomsg.Encode(s.m); l != s.l || e != api.OK {
			t.Errorf("Encode(%+v): % x %v, want % x", s.m, l, e, s.l)
		}
		asked, answered := sides(s.m.Cmd)
		for _, side := range []struct{ answer, is bool }{{false, asked}, {true, answered}} {
			m, e := sdomsg.Decode(s.l, side.answer)
			if side.is && (m != s.m || e != api.OK) {
				t.Errorf("Decode(% x, %v): %+v %v, want %+v", s.l, side.answer, m, e, s.m)
			}
			if !side.is && m.Cmd == s.m.Cmd {
				t.Errorf("Decode(% x, %v): %+v, which is none of these", s.l, side.answer, m)
			}
		}
	}
	if len(seen) != 17 {
		t.Errorf("%d Cmds of 17", len(seen))
	}
}

// The document's examples.
func TestExamples(t *testing.T) {
	k := api.Key{Index: 0x2000, Sub: 1}
	l, e := sdomsg.Encode(api.Msg{Cmd: api.Down, Key: k, Fast: true, N: 1, Data: data(5)})
	if l != (api.Line{0x2f, 0, 0x20, 1, 5}) || e != api.OK {
		t.Errorf("Down: % x %v", l, e)
	}
	if l := sdomsg.Abort(k, api.AbToggle); l != (api.Line{0x80, 0, 0x20, 1, 0, 0, 3, 5}) {
		t.Errorf("Quit: % x", l)
	}
}

// field is a field of a message: a right number of it, wrong ones, and how it is set; and the Cmds that use it.
type field struct {
	name  string
	edges []int
	wrong []int
	set   func(*api.Msg, int)
	of    []api.Cmd
}

func fields() []field {
	keys := []api.Cmd{api.Down, api.Up, api.BlockDown, api.BlockUp, api.Downed, api.Upped, api.BlockDowned, api.BlockUpped, api.Quit}
	sized := []api.Cmd{api.Down, api.BlockDown, api.Upped, api.BlockUpped}
	long, far := math.MaxInt, math.MinInt
	return []field{
		{"Index", []int{0, 1, 65535}, []int{-1, 65536, long, far}, func(m *api.Msg, n int) { m.Key.Index = n }, keys},
		{"Sub", []int{0, 1, 255}, []int{-1, 256, long, far}, func(m *api.Msg, n int) { m.Key.Sub = n }, keys},
		{"Size", []int{-1, 0, 1<<32 - 1}, []int{-2, 1 << 32, long, far}, func(m *api.Msg, n int) { m.Size = n }, sized},
		{"Code", []int{0, 5, 1<<32 - 1}, []int{-1, 1 << 32, long, far}, func(m *api.Msg, n int) { m.Code = api.Abort(n) }, []api.Cmd{api.Quit}},
		{"Seq", []int{0, 1, 127}, []int{-1, 128, 256, 257, long, far}, func(m *api.Msg, n int) { m.Seq = n }, []api.Cmd{api.Ack}},
		{"Block", []int{1, 127}, []int{-1, 0, 128, 256, 257, long, far}, func(m *api.Msg, n int) { m.Block = n }, []api.Cmd{api.BlockUp, api.BlockDowned, api.Ack}},
		{"Spare", []int{0, 1, 7}, []int{-1, 8, 64, long, far}, func(m *api.Msg, n int) { m.Spare = n }, []api.Cmd{api.End}},
		{"Crc", []int{0, 1, 65535}, []int{-1, 65536, long, far}, func(m *api.Msg, n int) { m.Crc = n }, []api.Cmd{api.End}},
		{"N", []int{0, 7}, []int{-1, 8, long, far}, func(m *api.Msg, n int) { m.N = n }, []api.Cmd{api.DownSeg, api.UppedSeg}},
		{"Toggle", []int{1}, nil, func(m *api.Msg, n int) { m.Toggle = n != 0 }, []api.Cmd{api.DownSeg, api.UpSeg, api.DownedSeg, api.UppedSeg}},
		{"Last", []int{1}, nil, func(m *api.Msg, n int) { m.Last = n != 0 }, []api.Cmd{api.DownSeg, api.UppedSeg}},
		{"Sum", []int{1}, nil, func(m *api.Msg, n int) { m.Sum = n != 0 }, []api.Cmd{api.BlockDown, api.BlockUp, api.BlockDowned, api.BlockUpped}},
	}
}

// plain is a right message of a Cmd, not Fast.
func plain(c api.Cmd) api.Msg {
	m := api.Msg{Cmd: c}
	switch c {
	case api.BlockUp, api.BlockDowned, api.Ack:
		m.Block = 1
	}
	return m
}

// errs checks that a message has an error, and no line.
func errs(t *testing.T, m api.Msg, want api.Errno) {
	t.Helper()
	if l, e := sdomsg.Encode(m); l != (api.Line{}) || e != want {
		t.Errorf("Encode(%+v): % x %v, want %v", m, l, e, want)
	}
}

// P17.1: which numbers can stand where, and what must be zero.
func TestEncodeFields(t *testing.T) {
	for c := api.Down; c <= api.Done; c++ {
		if _, e := sdomsg.Encode(plain(c)); e != api.OK {
			t.Fatalf("Encode(%+v): %v", plain(c), e)
		}
		for _, f := range fields() {
			m := plain(c)
			if !slices.Contains(f.of, c) {
				for _, n := range append(slices.Clone(f.edges), f.wrong...) {
					m := m
					if f.set(&m, n); m != plain(c) {
						errs(t, m, api.ErrForm)
					}
				}
				continue
			}
			for _, n := range f.edges {
				f.set(&m, n)
				if l, e := sdomsg.Encode(m); e != api.OK || l == (api.Line{}) && c != api.DownSeg && c != api.UppedSeg {
					t.Errorf("%s %d: Encode(%+v): % x %v", f.name, n, m, l, e)
				}
			}
			for _, n := range f.wrong {
				f.set(&m, n)
				errs(t, m, api.ErrRange)
			}
		}
	}
}

// P17.1: Fast has no Size, and what is not Fast has no N; no byte stands from N on.
func TestEncodeFast(t *testing.T) {
	for c := api.Down; c <= api.Done; c++ {
		begins := c == api.Down || c == api.Upped
		m := plain(c)
		if m.Fast = true; begins {
			m.N = 1
		}
		if _, e := sdomsg.Encode(m); begins != (e == api.OK) {
			t.Errorf("Encode(%+v): %v", m, e)
		}
		if !begins {
			errs(t, m, api.ErrForm)
			continue
		}
		for _, n := range []int{-1, 0, 5, 7, 8, math.MaxInt, math.MinInt} {
			m.N = n
			errs(t, m, api.ErrRange)
		}
		for n := 1; n <= 4; n++ {
			m.N = n
			for _, size := range []int{-2, -1, 1, n, math.MaxInt, math.MinInt} {
				m.Size = size
				errs(t, m, api.ErrForm)
			}
			m.Size = 0
			for at := range api.Segment {
				m.Data = [api.Segment]byte{}
				m.Data[at] = 1
				if _, e := sdomsg.Encode(m); (e == api.OK) != (at < n) || e != api.OK && e != api.ErrForm {
					t.Errorf("Encode(%+v): %v", m, e)
				}
			}
		}
	}
}

// P17.1: no byte of Data stands from N on in any message.
func TestEncodeData(t *testing.T) {
	for c := api.Down; c <= api.Done; c++ {
		for n := range api.Segment + 1 {
			for at := range api.Segment {
				m := plain(c)
				m.N = n
				m.Data[at] = 0x80
				if (c == api.DownSeg || c == api.UppedSeg) && at < n {
					if _, e := sdomsg.Encode(m); e != api.OK {
						t.Errorf("Encode(%+v): %v", m, e)
					}
					continue
				}
				errs(t, m, api.ErrForm)
			}
		}
	}
}

// P17.1, P2: no such Cmd goes ahead of a number, and that ahead of what is not zero.
func TestEncodeOrder(t *testing.T) {
	for _, c := range []api.Cmd{0, -1, 18, 256 + 1, math.MaxInt, math.MinInt} {
		errs(t, api.Msg{Cmd: c}, api.ErrArg)
		errs(t, api.Msg{Cmd: c, Key: api.Key{Index: -1}, N: 9, Size: -7, Fast: true}, api.ErrArg)
	}
	for c := api.Down; c <= api.Done; c++ {
		for _, f := range fields() {
			if !slices.Contains(f.of, c) || len(f.wrong) == 0 {
				continue
			}
			m := plain(c)
			f.set(&m, f.wrong[0])
			m.Data[6] = 1
			errs(t, m, api.ErrRange)
		}
	}
	errs(t, api.Msg{Cmd: api.Down, Fast: true, Size: 1}, api.ErrRange)
	errs(t, api.Msg{Cmd: api.Upped, Fast: true, N: 5, Seq: 1}, api.ErrRange)
	errs(t, api.Msg{Cmd: api.Down, Fast: true, N: 1, Size: -2, Key: api.Key{Sub: -1}}, api.ErrRange)
	errs(t, api.Msg{Cmd: api.DownSeg, N: 8, Fast: true}, api.ErrRange)
}

// forms are the lines that may be, by byte 0: k stands for any byte, s for one of 0 to 127, b for one of 1 to 127, and a nought for a nought.
func forms(answer bool) map[byte]string {
	l := map[byte]string{0x80: "kkkkkkk", 0xa2: "sb00000", 0xa1: "0000000"}
	for spare := range byte(8) {
		l[0xc1+4*spare] = "kk00000"
	}
	for head := range byte(32) {
		n := 7 - head>>1&7
		l[head] = "kkkkkkk"[:n] + "0000000"[n:]
	}
	begins := byte(0x20)
	if answer {
		begins = 0x40
		l[0x60], l[0x20], l[0x30] = "kkk0000", "0000000", "0000000"
	} else {
		l[0x40], l[0x60], l[0x70], l[0xa3] = "kkk0000", "0000000", "0000000", "0000000"
	}
	l[begins], l[begins+1] = "kkk0000", "kkkkkkk"
	l[begins+3], l[begins+7], l[begins+0xb], l[begins+0xf] = "kkkkkkk", "kkkkkk0", "kkkkk00", "kkkk000"
	l[0xa0], l[0xa4] = "kkkb000", "kkkb000"
	l[0xc0], l[0xc4], l[0xc2], l[0xc6] = "kkk0000", "kkk0000", "kkkkkkk", "kkkkkkk"
	return l
}

// may: may a line be, by its form?
func may(form string, b api.Line) bool {
	if form == "" {
		return false
	}
	for i, sign := range form {
		x := b[i+1]
		if sign == '0' && x != 0 || sign != 'k' && x > 127 || sign == 'b' && x == 0 {
			return false
		}
	}
	return true
}

// decodes checks what Decode answers of a line.
func decodes(t *testing.T, form string, b api.Line, answer bool) {
	t.Helper()
	m, e := sdomsg.Decode(b, answer)
	if !may(form, b) {
		if m != (api.Msg{}) || e != api.ErrForm {
			t.Errorf("Decode(% x, %v): %+v %v, want ErrForm", b, answer, m, e)
		}
		return
	}
	asked, answered := sides(m.Cmd)
	if e != api.OK || answer && !answered || !answer && !asked {
		t.Errorf("Decode(% x, %v): %+v %v", b, answer, m, e)
	}
	if l, e := sdomsg.Encode(m); l != b || e != api.OK {
		t.Errorf("% x is decoded as %+v, and that has % x %v", b, m, l, e)
	}
}

// P17.2, P17.4: which lines have a message; that has just that line.
func TestDecode(t *testing.T) {
	r := rand.New(rand.NewSource(17))
	for _, answer := range []bool{false, true} {
		all := forms(answer)
		for head := range 256 {
			form := all[byte(head)]
			b := api.Line{byte(head)}
			decodes(t, form, b, answer)
			for at := 1; at < 8; at++ {
				for _, x := range []byte{1, 127, 128, 255} {
					b := b
					b[at] = x
					decodes(t, form, b, answer)
					b[1+r.Intn(7)] = byte(1 + r.Intn(127))
					decodes(t, form, b, answer)
				}
			}
			for range 50 {
				r.Read(b[1:])
				if form != "" && r.Intn(4) > 0 {
					for i, sign := range form {
						if sign == '0' {
							b[i+1] = 0
						} else if sign != 'k' {
							b[i+1] &= 127
						}
					}
				}
				decodes(t, form, b, answer)
			}
		}
	}
}

// message is some message, right or wrong.
func message(r *rand.Rand) api.Msg {
	m := plain(api.Cmd(1 + r.Intn(17)))
	some := func(n int) int {
		if r.Intn(3) == 0 {
			return 0
		}
		return r.Intn(n)
	}
	for range 1 + r.Intn(3) {
		switch r.Intn(11) {
		case 0:
			m.Key = api.Key{Index: some(65536), Sub: some(256)}
		case 1:
			m.Toggle = !m.Toggle
		case 2:
			m.Last = !m.Last
		case 3:
			m.Fast = true
			m.N = 1 + r.Intn(4)
			r.Read(m.Data[:m.N])
		case 4:
			m.Sum = !m.Sum
		case 5:
			m.Size = some(1<<32) - 1
		case 6:
			m.N = some(8)
			r.Read(m.Data[:m.N])
		case 7:
			m.Code = api.Abort(some(1 << 32))
		case 8:
			m.Seq, m.Block = some(128), some(128)
		case 9:
			m.Spare = some(8)
		case 10:
			m.Crc = some(65536)
		}
	}
	return m
}

// P17.4: what was encoded is decoded as it was, and unlike messages of one side have unlike lines.
func TestThereAndBack(t *testing.T) {
	r := rand.New(rand.NewSource(4))
	lines := map[bool]map[api.Line]api.Msg{false: {}, true: {}}
	n := 0
	for range 60000 {
		m := message(r)
		l, e := sdomsg.Encode(m)
		if e != api.OK {
			continue
		}
		n++
		asked, answered := sides(m.Cmd)
		for answer, is := range map[bool]bool{false: asked, true: answered} {
			if !is {
				continue
			}
			if got, e := sdomsg.Decode(l, answer); got != m || e != api.OK {
				t.Errorf("%+v: % x: %+v %v", m, l, got, e)
			}
			if other, there := lines[answer][l]; there && other != m {
				t.Errorf("% x of %+v and %+v", l, m, other)
			}
			lines[answer][l] = m
		}
	}
	if n < 5000 {
		t.Errorf("only %d of them had lines", n)
	}
}

// P17.2: the line of Quit, with zeros for what cannot stand there.
func TestAbort(t *testing.T) {
	good, why := api.Key{Index: 0xabcd, Sub: 0xef}, api.AbCrc
	for _, x := range []struct {
		k    api.Key
		a    api.Abort
		want api.Line
	}{
		{good, why, api.Line{0x80, 0xcd, 0xab, 0xef, 4, 0, 4, 5}},
		{good, 0, api.Line{0x80, 0xcd, 0xab, 0xef}},
		{api.Key{}, 1<<32 - 1, api.Line{0x80, 0, 0, 0, 255, 255, 255, 255}},
		{api.Key{Index: 65535, Sub: 255}, why, api.Line{0x80, 255, 255, 255, 4, 0, 4, 5}},
		{api.Key{Index: 65536, Sub: 1}, why, api.Line{0x80, 0, 0, 0, 4, 0, 4, 5}},
		{api.Key{Index: -1, Sub: 1}, why, api.Line{0x80, 0, 0, 0, 4, 0, 4, 5}},
		{api.Key{Index: 1, Sub: 256}, why, api.Line{0x80, 0, 0, 0, 4, 0, 4, 5}},
		{api.Key{Index: 1, Sub: -1}, why, api.Line{0x80, 0, 0, 0, 4, 0, 4, 5}},
		{api.Key{Index: math.MaxInt, Sub: math.MinInt}, why, api.Line{0x80, 0, 0, 0, 4, 0, 4, 5}},
		{good, 1 << 32, api.Line{0x80, 0xcd, 0xab, 0xef}},
		{good, -1, api.Line{0x80, 0xcd, 0xab, 0xef}},
		{good, math.MinInt, api.Line{0x80, 0xcd, 0xab, 0xef}},
		{api.Key{Index: -1}, -1, api.Line{0x80}},
	} {
		if l := sdomsg.Abort(x.k, x.a); l != x.want {
			t.Errorf("Abort(%v, %x): % x, want % x", x.k, x.a, l, x.want)
		}
	}
}

// P17.3: segments of a block.
func TestSeg(t *testing.T) {
	all := []byte{1, 2, 3, 4, 5, 6, 255}
	for n := range 8 {
		for _, seq := range []int{1, 2, 64, 126, 127} {
			for _, last := range []bool{false, true} {
				want := api.Line{byte(seq)}
				if last {
					want[0] += 0x80
				}
				copy(want[1:], all[:n])
				l, e := sdomsg.Seg(seq, last, all[:n])
				if l != want || e != api.OK {
					t.Errorf("Seg(%d, %v, %v): % x %v", seq, last, all[:n], l, e)
				}
				back, is, b := sdomsg.Unseg(l)
				if back != seq || is != last || !bytes.Equal(b, want[1:]) {
					t.Errorf("Unseg(% x): %d %v % x", l, back, is, b)
				}
			}
		}
	}
	for _, seq := range []int{0, -1, 128, 129, 255, 256, 257, math.MaxInt, math.MinInt} {
		if l, e := sdomsg.Seg(seq, true, all); l != (api.Line{}) || e != api.ErrRange {
			t.Errorf("Seg(%d): % x %v", seq, l, e)
		}
	}
	if l, e := sdomsg.Seg(1, false, make([]byte, 8)); l != (api.Line{}) || e != api.ErrRange {
		t.Errorf("eight bytes: % x %v", l, e)
	}
	if l, e := sdomsg.Seg(1, false, nil); l != (api.Line{1}) || e != api.OK {
		t.Errorf("no bytes: % x %v", l, e)
	}
}

// P17.3: of any byte 0.
func TestUnseg(t *testing.T) {
	for head := range 256 {
		b := api.Line{byte(head), 7, 6, 5, 4, 3, 2, 1}
		seq, last, l := sdomsg.Unseg(b)
		if seq != head%128 || last != (head >= 128) || !bytes.Equal(l, []byte{7, 6, 5, 4, 3, 2, 1}) {
			t.Errorf("Unseg(% x): %d %v %v", b, seq, last, l)
		}
	}
}

// P3: what is handed in stays, and what is answered is new.
func TestMemory(t *testing.T) {
	room := []byte{1, 2, 3, 4, 5, 6, 7, 8}
	if _, e := sdomsg.Seg(1, true, room[:3]); e != api.OK || !bytes.Equal(room, []byte{1, 2, 3, 4, 5, 6, 7, 8}) {
		t.Errorf("Seg: %v %v", room, e)
	}
	b := api.Line{1, 2, 3}
	_, _, x := sdomsg.Unseg(b)
	_, _, y := sdomsg.Unseg(b)
	clear(x)
	if y[0] != 2 || b[1] != 2 {
		t.Errorf("Unseg: %v %v", y, b)
	}
}
