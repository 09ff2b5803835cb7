package emcy_test

import (
	"math"
	"math/rand"
	"slices"
	"testing"

	"tripwire/api"
	"tripwire/emcy"
	"tripwire/frame"
)

// The calls have just these signatures.
var (
	_ func(api.Emcy) (api.Frame, api.Errno)                = emcy.Encode
	_ func(api.Frame) (api.Emcy, api.Errno)                = emcy.Decode
	_ func(int) (*emcy.Log, api.Errno)                     = emcy.New
	_ func(*emcy.Log, int, int, ...byte) (api.Frame, bool) = (*emcy.Log).Raise
	_ func(*emcy.Log, int) (api.Frame, bool)               = (*emcy.Log).Clear
	_ func(*emcy.Log, int) bool                            = (*emcy.Log).Has
	_ func(*emcy.Log) byte                                 = (*emcy.Log).Register
	_ func(*emcy.Log) []int                                = (*emcy.Log).History
	_ func(*emcy.Log)                                      = (*emcy.Log).Erase
	_ func(*emcy.Log) int                                  = (*emcy.Log).Told
	_ func(*emcy.Log) *emcy.Log                            = (*emcy.Log).Fork
)

// numbers are small ones, and such as are like them in their low bits.
func numbers() []int {
	var l []int
	for i := -3; i <= 260; i++ {
		l = append(l, i)
	}
	return append(l, 0x8110, 0x8250, 65534, 65535, 65536, 65537, 1<<16+5, 1<<16+128, 1<<31, 1<<32, 1<<32+1, 1<<32+5, 1<<32+128, -256, -251, -128, -127, -65535, math.MinInt32, math.MaxInt32, math.MinInt, math.MinInt+1, math.MinInt+5, math.MaxInt)
}

func isNode(n int) bool { return n >= 1 && n <= 127 }

func isCode(n int) bool { return n >= 0 && n <= 65535 }

// plainFrame is an emergency's frame, made without the package.
func plainFrame(x api.Emcy) api.Frame {
	i := x.Info
	return api.Frame{Id: 0x80 + x.Node, Len: 8, Data: [8]byte{byte(x.Code % 256), byte(x.Code / 256), x.Reg, i[0], i[1], i[2], i[3], i[4]}}
}

// node is a node's log.
func node(t *testing.T, n int) *emcy.Log {
	t.Helper()
	l, e := emcy.New(n)
	if e != api.OK || l == nil {
		t.Fatal(n, e)
	}
	return l
}

// raise raises a fault: its emergency has that register.
func raise(t *testing.T, l *emcy.Log, n, code, bit int, reg byte) {
	t.Helper()
	f, is := l.Raise(code, bit)
	if want := plainFrame(api.Emcy{Node: n, Code: code, Reg: reg}); !is || f != want {
		t.Fatalf("raised %d, bit %d: %v, %v, not %v", code, bit, f, is, want)
	}
	if !l.Has(code) || l.Register() != reg {
		t.Fatalf("raised %d, bit %d: the register %d, not %d", code, bit, l.Register(), reg)
	}
}

// cut clears a fault: its emergency has that register.
func cut(t *testing.T, l *emcy.Log, n, code int, reg byte) {
	t.Helper()
	f, is := l.Clear(code)
	if want := plainFrame(api.Emcy{Node: n, Reg: reg}); !is || f != want {
		t.Fatalf("cleared %d: %v, %v, not %v", code, f, is, want)
	}
	if l.Has(code) || l.Register() != reg {
		t.Fatalf("cleared %d: the register %d, not %d", code, l.Register(), reg)
	}
}

// stands: the register, the history and how many were told.
func stands(t *testing.T, l *emcy.Log, reg byte, told int, history ...int) {
	t.Helper()
	if l.Register() != reg || l.Told() != told || !slices.Equal(l.History(), history) {
		t.Fatalf("the register %d, not %d; %d told, not %d; %v, not %v", l.Register(), reg, l.Told(), told, l.History(), history)
	}
}

// The document's example.
func TestExample(t *testing.T) {
	f, is := node(t, 5).Raise(0x8250, 4)
	if s, e := frame.Text(f); !is || e != api.OK || s != "085#5082110000000000" {
		t.Fatal(s, is)
	}
}

// P24.1: the frame of each node, and of codes; ErrRange of others.
func TestEncode(t *testing.T) {
	for _, n := range numbers() {
		for _, code := range numbers() {
			x := api.Emcy{Node: n, Code: code, Reg: 0x93, Info: [5]byte{1, 2, 3, 4, 255}}
			f, e := emcy.Encode(x)
			if !isNode(n) || !isCode(code) {
				if e != api.ErrRange || f != (api.Frame{}) {
					t.Fatalf("%+v: %v, %v", x, f, e)
				}
				continue
			}
			if e != api.OK || f != plainFrame(x) {
				t.Fatalf("%+v: %v, %v", x, f, e)
			}
			if got, e := emcy.Decode(f); e != api.OK || got != x {
				t.Fatalf("%v: %+v, %v", f, got, e)
			}
		}
	}
}

// P24.1: each register, and each byte at each place.
func TestEncodeBytes(t *testing.T) {
	for b := range 256 {
		l := []api.Emcy{{Node: 9, Code: 0x1234, Reg: byte(b)}}
		for at := range 5 {
			x := api.Emcy{Node: 127, Code: 65535}
			x.Info[at] = byte(b)
			l = append(l, x)
		}
		for _, x := range l {
			f, e := emcy.Encode(x)
			if e != api.OK || f != plainFrame(x) {
				t.Fatalf("%+v: %v, %v", x, f, e)
			}
			if got, e := emcy.Decode(f); e != api.OK || got != x {
				t.Fatalf("%v: %+v, %v", f, got, e)
			}
		}
	}
}

// P24.1: of frames of eight bytes just those of a node's Id are emergencies.
func TestDecode(t *testing.T) {
	for id := range api.MaxId + 1 {
		f := api.Frame{Id: id, Len: 8, Data: [8]byte{0x50, 0x82, 0x11, 1, 2, 3, 4, 5}}
		x, e := emcy.Decode(f)
		if id > 0x80 && id <= 0xff {
			if want := (api.Emcy{Node: id - 0x80, Code: 0x8250, Reg: 0x11, Info: [5]byte{1, 2, 3, 4, 5}}); e != api.OK || x != want {
				t.Fatalf("%v: %+v, %v", f, x, e)
			}
		} else if e != api.ErrForm || x != (api.Emcy{}) {
			t.Fatalf("%v: %+v, %v", f, x, e)
		}
	}
}

// P24.1: each eight bytes are an emergency's, from which they come again.
func TestDecodeRandom(t *testing.T) {
	r := rand.New(rand.NewSource(24))
	for range 20000 {
		f := api.Frame{Id: 0x81 + r.Intn(127), Len: 8}
		for i := range f.Data {
			f.Data[i] = byte(r.Intn(256))
		}
		x, e := emcy.Decode(f)
		if e != api.OK || plainFrame(x) != f {
			t.Fatalf("%v: %+v, %v", f, x, e)
		}
	}
}

// P24.1: what is another frame in anything is no emergency.
func TestDecodeWrong(t *testing.T) {
	var l []api.Frame
	for _, f := range []api.Frame{{Id: 0x85, Len: 8}, {Id: 0x85, Len: 8, Data: [8]byte{0x50, 0x82, 0x11, 1, 2, 3, 4, 5}}} {
		for _, id := range []int{0, 5, 0x80, 0x100, 0x105, 0x185, 0x785, api.MaxId, 0x885, -1, -0x7b, -0x85, 0x85 + 1<<16, 0x85 + 1<<32, math.MinInt, math.MinInt + 5, math.MinInt + 0x85, math.MaxInt} {
			g := f
			g.Id = id
			l = append(l, g)
		}
		for _, n := range []int{0, 1, 7, 9, 264, -1, 1<<32 + 8, math.MinInt, math.MinInt + 8, math.MaxInt} {
			g := f
			g.Len = n
			l = append(l, g)
		}
		g := f
		g.Rtr = true
		l = append(l, g)
	}
	for n := range 8 {
		l = append(l, api.Frame{Id: 0x85, Len: n}, api.Frame{Id: 0x85, Rtr: true, Len: n})
	}
	for _, f := range append(l, api.Frame{}, api.Frame{Len: 8}) {
		if x, e := emcy.Decode(f); e != api.ErrForm || x != (api.Emcy{}) {
			t.Fatalf("%+v: %+v, %v", f, x, e)
		}
	}
}

// P24.2: a node's number is from 1 to 127; at first it has neither faults nor history, and each is one of its own.
func TestNew(t *testing.T) {
	for _, n := range numbers() {
		l, e := emcy.New(n)
		if !isNode(n) {
			if l != nil || e != api.ErrRange {
				t.Fatalf("New(%d): %v, %v", n, l, e)
			}
			continue
		}
		if l == nil || e != api.OK {
			t.Fatalf("New(%d): %v, %v", n, l, e)
		}
		stands(t, l, 0, 0)
		for _, code := range numbers() {
			if l.Has(code) {
				t.Fatal(code)
			}
		}
		other := node(t, n)
		raise(t, other, n, 7, 3, 9)
		stands(t, l, 0, 0)
		raise(t, l, n, 65535, 7, 0x81)
	}
}

// P24.2: each code from 1 to 65535 may be a fault, with each bit from 0 to 7; the register has the bit 0, too.
func TestRaise(t *testing.T) {
	for _, code := range numbers() {
		for _, bit := range numbers() {
			l := node(t, 5)
			if !isCode(code) || code == 0 || bit < 0 || bit > 7 {
				f, is := l.Raise(code, bit, 1, 2, 3)
				if is || f != (api.Frame{}) || l.Has(code) {
					t.Fatalf("raised %d, bit %d: %v, %v", code, bit, f, is)
				}
				stands(t, l, 0, 0)
				continue
			}
			raise(t, l, 5, code, bit, 1<<bit|1)
			stands(t, l, 1<<bit|1, 1, code)
		}
	}
}

// P24.2: as many of the bytes as there is room for; 0 behind.
func TestRaiseInfo(t *testing.T) {
	info := []byte{9, 8, 7, 6, 5, 4, 3, 2, 1}
	for n := range len(info) + 1 {
		f, is := node(t, 64).Raise(0x1234, 7, info[:n]...)
		want := api.Emcy{Node: 64, Code: 0x1234, Reg: 0x81}
		for i := range min(n, 5) {
			want.Info[i] = info[i]
		}
		if !is || f != plainFrame(want) {
			t.Fatal(n, f, is)
		}
	}
	if f, is := node(t, 64).Raise(1, 0, make([]byte, 100000)...); !is || f != plainFrame(api.Emcy{Node: 64, Code: 1, Reg: 1}) {
		t.Fatal(f, is)
	}
}

// P3: the bytes that are handed in stay as they are, and are not kept.
func TestRaiseMemory(t *testing.T) {
	room := []byte{1, 2, 3, 77, 77, 77, 77, 77}
	l := node(t, 1)
	if _, is := l.Raise(5, 1, room[:3]...); !is || !slices.Equal(room, []byte{1, 2, 3, 77, 77, 77, 77, 77}) {
		t.Fatal(room)
	}
	clear(room)
	cut(t, l, 1, 5, 0)
}

// P24.2: what is a fault is not raised again, with another bit neither.
func TestRaiseTwice(t *testing.T) {
	l := node(t, 3)
	raise(t, l, 3, 0x8110, 4, 0x11)
	for bit := -1; bit <= 8; bit++ {
		if f, is := l.Raise(0x8110, bit, 1); is || f != (api.Frame{}) {
			t.Fatal(bit, f)
		}
		stands(t, l, 0x11, 1, 0x8110)
	}
	cut(t, l, 3, 0x8110, 0)
	raise(t, l, 3, 0x8110, 2, 5)
	stands(t, l, 5, 3, 0x8110, 0x8110)
}

// P24.2: what is no fault is not cleared.
func TestClearWrong(t *testing.T) {
	l := node(t, 3)
	none := func(code int) {
		t.Helper()
		if f, is := l.Clear(code); is || f != (api.Frame{}) {
			t.Fatal(code, f)
		}
	}
	for _, code := range numbers() {
		none(code)
	}
	stands(t, l, 0, 0)
	raise(t, l, 3, 5, 4, 0x11)
	for _, code := range numbers() {
		if code != 5 {
			none(code)
		}
	}
	stands(t, l, 0x11, 1, 5)
	cut(t, l, 3, 5, 0)
	none(5)
	stands(t, l, 0, 2, 5)
}

// P24.2, P24.3: the register, while faults with the same bits come and go.
func TestRegister(t *testing.T) {
	l := node(t, 127)
	raise(t, l, 127, 1, 4, 0x11)
	raise(t, l, 127, 2, 4, 0x11)
	raise(t, l, 127, 3, 5, 0x31)
	raise(t, l, 127, 4, 0, 0x31)
	raise(t, l, 127, 65535, 7, 0xb1)
	cut(t, l, 127, 1, 0xb1)
	cut(t, l, 127, 2, 0xa1)
	cut(t, l, 127, 4, 0xa1)
	cut(t, l, 127, 65535, 0x21)
	raise(t, l, 127, 2, 0, 0x21)
	cut(t, l, 127, 3, 1)
	cut(t, l, 127, 2, 0)
	stands(t, l, 0, 12, 2, 65535, 4, 3, 2, 1)
}

// P24.3: a fault is one under its own code alone.
func TestHas(t *testing.T) {
	l := node(t, 1)
	for _, code := range []int{1, 5, 260, 65535} {
		l.Raise(code, 1)
	}
	for _, code := range numbers() {
		if l.Has(code) != slices.Contains([]int{1, 5, 260, 65535}, code) {
			t.Fatal(code)
		}
	}
}

// P24.3: the last eight codes, the last one first; what is cleared stays in the history, and 0 never comes into it.
func TestHistory(t *testing.T) {
	l := node(t, 1)
	var want []int
	for code := 1; code <= 30; code++ {
		raise(t, l, 1, code, 6, 0x41)
		want = append([]int{code}, want...)
		want = want[:min(len(want), 8)]
		stands(t, l, 0x41, 2*code-1, want...)
		cut(t, l, 1, code, 0)
		stands(t, l, 0, 2*code, want...)
	}
}

// P24.3: a code stands in it as often as it was told.
func TestHistoryAgain(t *testing.T) {
	l := node(t, 1)
	for range 3 {
		raise(t, l, 1, 9, 1, 3)
		cut(t, l, 1, 9, 0)
	}
	raise(t, l, 1, 4, 1, 3)
	stands(t, l, 3, 7, 4, 9, 9, 9)
}

// P24.3: Erase empties the history, and nothing else.
func TestErase(t *testing.T) {
	l := node(t, 1)
	l.Erase()
	stands(t, l, 0, 0)
	for code := 1; code <= 11; code++ {
		l.Raise(code, 3)
	}
	l.Erase()
	stands(t, l, 9, 11)
	for code := 1; code <= 11; code++ {
		if _, is := l.Raise(code, 3); is || !l.Has(code) {
			t.Fatal("it is no fault any more", code)
		}
	}
	cut(t, l, 1, 5, 9)
	stands(t, l, 9, 12)
	raise(t, l, 1, 5, 2, 13)
	raise(t, l, 1, 77, 2, 13)
	stands(t, l, 13, 14, 77, 5)
	for code := 100; code < 120; code++ { // there is room for as many as ahead
		l.Raise(code, 0)
	}
	if h := l.History(); len(h) != 8 || h[0] != 119 || h[7] != 112 {
		t.Fatal(h)
	}
}

// P24.3, P4: a Fork stands alike, and what becomes of the one changes nothing of the other one.
func TestFork(t *testing.T) {
	for _, change := range []func(l *emcy.Log){
		func(l *emcy.Log) { l.Raise(3, 5) },
		func(l *emcy.Log) { l.Clear(1) },
		func(l *emcy.Log) { l.Clear(1); l.Clear(2) },
		func(l *emcy.Log) { l.Erase() },
		func(l *emcy.Log) { l.Erase(); l.Raise(9, 1); l.Raise(8, 1) },
		func(l *emcy.Log) {
			for code := 10; code < 30; code++ {
				l.Raise(code, 2)
			}
		},
	} {
		for _, forked := range []bool{true, false} {
			l := node(t, 6)
			raise(t, l, 6, 1, 4, 0x11)
			raise(t, l, 6, 2, 3, 0x19)
			f := l.Fork()
			stands(t, f, 0x19, 2, 2, 1)
			if f == l || !f.Has(1) || !f.Has(2) || f.Has(3) {
				t.Fatal("it does not stand alike")
			}
			if forked {
				l, f = f, l
			}
			change(f)
			stands(t, l, 0x19, 2, 2, 1)
			cut(t, l, 6, 1, 9)
			raise(t, l, 6, 3, 7, 0x89)
			cut(t, l, 6, 2, 0x81)
			stands(t, l, 0x81, 5, 3, 2, 1)
		}
	}
}

// P3: a history that was answered is new memory.
func TestHistoryMemory(t *testing.T) {
	l := node(t, 1)
	l.Raise(1, 1)
	l.Raise(2, 1)
	a, b := l.History(), l.History()
	for i := range a[:cap(a)] {
		a[:cap(a)][i] = 77
	}
	if !slices.Equal(b, []int{2, 1}) {
		t.Fatal(b)
	}
	stands(t, l, 3, 2, 2, 1)
	l.Raise(3, 1)
	if !slices.Equal(b, []int{2, 1}) || a[0] != 77 {
		t.Fatal(a, b)
	}
	stands(t, l, 3, 3, 3, 2, 1)
}

// plain is what a log should be, told without the package.
type plain struct {
	faults  map[int]int
	history []int
	told    int
}

func (p *plain) register() byte {
	reg := byte(0)
	for _, bit := range p.faults {
		reg |= 1 | 1<<bit
	}
	return reg
}

// raise is what a Raise should answer.
func (p *plain) raise(n, code, bit int) api.Frame {
	if _, is := p.faults[code]; is || !isCode(code) || code == 0 || bit < 0 || bit > 7 {
		return api.Frame{}
	}
	p.faults[code] = bit
	p.told++
	p.history = append([]int{code}, p.history...)
	p.history = p.history[:min(len(p.history), 8)]
	return plainFrame(api.Emcy{Node: n, Code: code, Reg: p.register(), Info: [5]byte{byte(n)}})
}

// cut is what a Clear should answer.
func (p *plain) cut(n, code int) api.Frame {
	if _, is := p.faults[code]; !is {
		return api.Frame{}
	}
	delete(p.faults, code)
	p.told++
	return plainFrame(api.Emcy{Node: n, Reg: p.register()})
}

// P24.2 to P24.4: whatever is raised, cleared and erased, by the document's words alone; each answer tells of a change, just once.
func TestRandom(t *testing.T) {
	r := rand.New(rand.NewSource(1))
	for range 200 {
		n := 1 + r.Intn(127)
		l, p := node(t, n), &plain{faults: map[int]int{}}
		for range 200 {
			code, bit := r.Intn(14), r.Intn(10)-1
			var f, want api.Frame
			is := false
			switch r.Intn(12) {
			case 0:
				l.Erase()
				p.history = nil
			case 1:
				l = l.Fork()
			case 2, 3, 4, 5:
				f, is = l.Clear(code)
				want = p.cut(n, code)
			default:
				f, is = l.Raise(code, bit, byte(n))
				want = p.raise(n, code, bit)
			}
			if f != want || is != (want != api.Frame{}) {
				t.Fatalf("%d, %d: %v, %v, not %v", code, bit, f, is, want)
			}
			stands(t, l, p.register(), p.told, p.history...)
			for code := range 15 {
				if _, is := p.faults[code]; is != l.Has(code) {
					t.Fatal(code)
				}
			}
		}
	}
}

// P24.4: a fault is told once, however often it is raised; when all are cleared the register is 0.
func TestOnce(t *testing.T) {
	l := node(t, 2)
	for range 5 {
		for code := 1; code <= 40; code++ {
			l.Raise(code, code%8)
		}
	}
	if l.Told() != 40 || l.Register() != 255 || l.History()[0] != 40 {
		t.Fatal(l.Told(), l.Register(), l.History())
	}
	for code := 1; code <= 40; code++ {
		if _, is := l.Clear(code); !is || (l.Register() == 0) != (code == 40) {
			t.Fatal(code, l.Register())
		}
	}
	stands(t, l, 0, 80, 40, 39, 38, 37, 36, 35, 34, 33)
}

// P1, P24.4: all codes may be faults at once.
func TestAll(t *testing.T) {
	l := node(t, 2)
	for code := range 65537 {
		if _, is := l.Raise(code, code%8); is != (code >= 1 && code <= 65535) {
			t.Fatal(code)
		}
	}
	stands(t, l, 255, 65535, 65535, 65534, 65533, 65532, 65531, 65530, 65529, 65528)
	for code := range 65537 {
		if _, is := l.Clear(code); is != (code >= 1 && code <= 65535) {
			t.Fatal(code)
		}
	}
	stands(t, l, 0, 2*65535, 65535, 65534, 65533, 65532, 65531, 65530, 65529, 65528)
}

// P24.3, P1: a nil node.
func TestNil(t *testing.T) {
	var l *emcy.Log
	for _, code := range numbers() {
		for _, bit := range []int{-1, 0, 7, 8, math.MinInt, math.MaxInt} {
			if f, is := l.Raise(code, bit, 1, 2); is || f != (api.Frame{}) {
				t.Fatal(f)
			}
		}
		if f, is := l.Clear(code); is || f != (api.Frame{}) || l.Has(code) {
			t.Fatal(f)
		}
	}
	l.Erase()
	stands(t, l, 0, 0)
	if l.Fork() != nil {
		t.Fatal("a Fork of nil")
	}
}

// P1: no call made it, and nothing panics.
func TestNoCallMadeIt(t *testing.T) {
	l := &emcy.Log{}
	for _, x := range []*emcy.Log{l, l.Fork()} {
		x.Raise(1, 1, 1)
		x.Clear(1)
		x.Has(1)
		x.Register()
		x.History()
		x.Erase()
		x.Told()
		x.Fork().Raise(1, 1)
	}
}
