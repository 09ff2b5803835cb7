package gate_test

import (
	"math"
	"math/rand"
	"slices"
	"testing"

	"tripwire/api"
	"tripwire/gate"
)

// The calls have just these signatures.
var (
	_ func() *gate.Gate                                                  = gate.New
	_ func(*gate.Gate, []api.Sent, ...api.Fault) ([]api.Came, api.Errno) = (*gate.Gate).Pass
	_ func(*gate.Gate) int                                               = (*gate.Gate).Tick
	_ func(*gate.Gate) int                                               = (*gate.Gate).Held
	_ func(*gate.Gate) int                                               = (*gate.Gate).Lost
	_ func(*gate.Gate) *gate.Gate                                        = (*gate.Gate).Fork
	_ func(...api.Fault) bool                                            = gate.Touches
	_ func(api.Fault) bool                                               = gate.May
)

// copied is one of a frame's copies, told without the package: what becomes of it is a list of delays and of turned bits.
type copied struct {
	late   int
	turned [api.MaxLen]byte
	spoilt bool
}

// counted is an N as it counts.
func counted(n int) int {
	if n >= 0 && n <= 255 {
		return n
	}
	return 0
}

// meets is what a fault makes of a frame's copies.
func meets(f api.Frame, l []copied, fault api.Fault) []copied {
	next := []copied{}
	n := counted(fault.N)
	for _, c := range l {
		switch {
		case fault.What == 1:
			continue
		case fault.What == 2 && !f.Rtr && fault.At >= 0 && fault.At < f.Len && fault.Bits != 0:
			c.turned[fault.At] ^= fault.Bits
			c.spoilt = true
		case fault.What == 3 && n > 0:
			c.late += n
			c.spoilt = true
		}
		next = append(next, c)
	}
	if fault.What == 4 {
		for _, c := range l {
			if len(next) < 16 {
				next = append(next, copied{c.late + n, c.turned, true})
			}
		}
	}
	return next
}

// right: may a frame be?
func right(f api.Frame) bool {
	if f.Id < 0 || f.Id > 2047 || f.Len < 0 || f.Len > 8 {
		return false
	}
	for i, x := range f.Data {
		if x != 0 && (i >= f.Len || f.Rtr) {
			return false
		}
	}
	return true
}

// later is a copy that is held, and the tick at which it comes.
type later struct {
	came api.Came
	at   int
}

// plain is what a gateway should be, told without the package: all that was ever held.
type plain struct {
	tick, lost int
	held       []later
}

// waits is how many of what is held comes at that tick, or behind it.
func (p *plain) waits(from int) int {
	n := 0
	for _, h := range p.held {
		if h.at >= from {
			n++
		}
	}
	return n
}

// pass is what should come out; what goes in may go in.
func (p *plain) pass(s []api.Sent, faults ...api.Fault) []api.Came {
	out := []api.Came{}
	for _, h := range p.held {
		if h.at == p.tick {
			out = append(out, h.came)
		}
	}
	for _, x := range s {
		l := []copied{{}}
		for _, f := range faults {
			l = meets(x.Frame, l, f)
		}
		for _, c := range l {
			came := api.Came{From: x.From, At: p.tick, Frame: x.Frame, Clean: !c.spoilt}
			for i, b := range c.turned {
				came.Frame.Data[i] ^= b
			}
			switch {
			case c.late == 0:
				out = append(out, came)
			case p.waits(p.tick+1) == 64:
				p.lost++
			default:
				p.held = append(p.held, later{came, p.tick + c.late})
			}
		}
	}
	for _, f := range faults {
		if f.What == 5 && right(f.Frame) {
			out = append(out, api.Came{From: -1, At: p.tick, Frame: f.Frame})
		}
	}
	p.tick++
	return out
}

func (p *plain) fork() *plain { return &plain{p.tick, p.lost, slices.Clone(p.held)} }

// alike: does the gateway tell of itself what it should be?
func alike(t *testing.T, g *gate.Gate, p *plain) {
	t.Helper()
	if g.Tick() != p.tick || g.Held() != p.waits(p.tick) || g.Lost() != p.lost {
		t.Fatalf("Tick %d, Held %d, Lost %d: not %d, %d, %d", g.Tick(), g.Held(), g.Lost(), p.tick, p.waits(p.tick), p.lost)
	}
}

// pass is what comes out; nothing may be wrong.
func pass(t *testing.T, g *gate.Gate, s []api.Sent, faults ...api.Fault) []api.Came {
	t.Helper()
	l, e := g.Pass(s, faults...)
	if e != api.OK {
		t.Fatalf("Pass(%v, %v): %d", s, faults, e)
	}
	return l
}

// both lets the same go through both, and holds what comes against each other.
func both(t *testing.T, g *gate.Gate, p *plain, s []api.Sent, faults ...api.Fault) []api.Came {
	t.Helper()
	got, want := pass(t, g, s, faults...), p.pass(s, faults...)
	if !slices.Equal(got, want) {
		t.Fatalf("at %d came %v, not %v: of %v, %v", p.tick-1, got, want, s, faults)
	}
	alike(t, g, p)
	return got
}

// rest lets all that is held come.
func rest(t *testing.T, g *gate.Gate, p *plain) {
	t.Helper()
	for p.waits(p.tick) > 0 {
		both(t, g, p, nil)
	}
	if g.Held() != 0 {
		t.Fatal(g.Held())
	}
}

// one is a frame with some bytes, and its node.
func one(from, id int, data ...byte) []api.Sent {
	f := api.Frame{Id: id, Len: len(data)}
	copy(f.Data[:], data)
	return []api.Sent{{From: from, Frame: f}}
}

// asking is a frame that asks for bytes, and its node.
func asking(from, id, n int) []api.Sent {
	return []api.Sent{{From: from, Frame: api.Frame{Id: id, Rtr: true, Len: n}}}
}

// P11.1: a gateway ahead of the tick 0, and one that goes on by one.
func TestNew(t *testing.T) {
	g := gate.New()
	if g == nil || g == gate.New() {
		t.Fatal("New")
	}
	alike(t, g, &plain{})
	for i := range 300 {
		if g.Tick() != i {
			t.Fatal(g.Tick(), i)
		}
		if l := pass(t, g, nil); len(l) != 0 {
			t.Fatal(l)
		}
	}
	alike(t, g, &plain{tick: 300})
}

// The document's example.
func TestExample(t *testing.T) {
	g := gate.New()
	s := one(3, 0x181, 0)
	spoilt := api.Came{From: 3, At: 0, Frame: one(3, 0x181, 0xff)[0].Frame}
	faults := []api.Fault{{What: api.Turn, Bits: 0xff}, {What: api.Twice, N: 2}}
	for tick, want := range [][]api.Came{{spoilt}, nil, {spoilt}, nil} {
		got := pass(t, g, s, faults...)
		if !slices.Equal(got, want) {
			t.Fatal(tick, got)
		}
		s, faults = nil, nil
	}
}

// edges are numbers at the edges of what counts.
func edges() []int {
	return []int{math.MinInt, -256, -1, 0, 1, 2, 7, 8, 9, 255, 256, 257, 511, math.MaxInt32 + 1, math.MaxInt}
}

// P11.1: one fault alone, at all edges of At, Bits and N, of frames of all lengths.
func TestOneFault(t *testing.T) {
	for n := range 9 {
		for _, s := range [][]api.Sent{one(2, 0x70+n, []byte{1, 2, 4, 8, 16, 32, 64, 255}[:n]...), asking(0, 2047, n), nil} {
			for what := api.What(-1); what < 8; what++ {
				for _, x := range edges() {
					for _, bits := range []byte{0, 1, 0x80, 0xff} {
						g, p := gate.New(), &plain{}
						both(t, g, p, s, api.Fault{What: what, At: x, Bits: bits, N: 1 - x&1})
						both(t, g, p, one(1, 5, 9))
						both(t, g, p, nil)
					}
					g, p := gate.New(), &plain{}
					both(t, g, p, s, api.Fault{What: what, N: x, Bits: 1})
					rest(t, g, p)
					if p.tick > 256 {
						t.Fatal(p.tick)
					}
				}
			}
		}
	}
}

// P11.1: what is told of single faults, written out.
func TestFaults(t *testing.T) {
	s := one(4, 0x181, 1, 2)
	was := s[0].Frame
	turned := one(4, 0x181, 1, 0xf2)[0].Frame
	back := api.Fault{What: api.Turn, At: 1, Bits: 0xf0}
	forged := api.Frame{Id: 9, Len: 1, Data: [8]byte{7}}
	clean := api.Came{From: 4, Frame: was, Clean: true}
	spoilt := api.Came{From: 4, Frame: was}
	other := api.Came{From: 4, Frame: turned}
	nobody := api.Came{From: -1, Frame: forged}
	for _, c := range []struct {
		name   string
		faults []api.Fault
		comes  [][]api.Came
	}{
		{"none", nil, [][]api.Came{{clean}}},
		{"NoWhat", []api.Fault{{N: 3, Bits: 1, Frame: forged}}, [][]api.Came{{clean}}},
		{"of no kind", []api.Fault{{What: 6, N: 3, Bits: 1, Frame: forged}, {What: -1, N: 3, Bits: 1, Frame: forged}}, [][]api.Came{{clean}}},
		{"Drop", []api.Fault{{What: api.Drop}}, [][]api.Came{nil}},
		{"Turn", []api.Fault{back}, [][]api.Came{{other}}},
		{"Turn of no bits", []api.Fault{{What: api.Turn, At: 1}}, [][]api.Came{{clean}}},
		{"Turn behind the bytes", []api.Fault{{What: api.Turn, At: 2, Bits: 255}}, [][]api.Came{{clean}}},
		{"Turn ahead of them", []api.Fault{{What: api.Turn, At: -1, Bits: 255}}, [][]api.Came{{clean}}},
		{"Turn there and back", []api.Fault{back, back}, [][]api.Came{{spoilt}}},
		{"Hold", []api.Fault{{What: api.Hold, N: 2}}, [][]api.Came{nil, nil, {spoilt}}},
		{"Hold of 0", []api.Fault{{What: api.Hold}}, [][]api.Came{{clean}}},
		{"Hold of less", []api.Fault{{What: api.Hold, N: -1}}, [][]api.Came{{clean}}},
		{"Hold of too many", []api.Fault{{What: api.Hold, N: 256}}, [][]api.Came{{clean}}},
		{"Hold and Hold", []api.Fault{{What: api.Hold, N: 1}, {What: api.Hold, N: 2}}, [][]api.Came{nil, nil, nil, {spoilt}}},
		{"Twice", []api.Fault{{What: api.Twice, N: 1}}, [][]api.Came{{clean}, {spoilt}}},
		{"Twice of 0", []api.Fault{{What: api.Twice}}, [][]api.Came{{clean, spoilt}}},
		{"Twice of less", []api.Fault{{What: api.Twice, N: -1}}, [][]api.Came{{clean, spoilt}}},
		{"Twice of too many", []api.Fault{{What: api.Twice, N: 256}}, [][]api.Came{{clean, spoilt}}},
		{"Twice and Twice", []api.Fault{{What: api.Twice, N: 1}, {What: api.Twice, N: 2}}, [][]api.Came{{clean}, {spoilt}, {spoilt}, {spoilt}}},
		{"Twice and Hold", []api.Fault{{What: api.Twice, N: 1}, {What: api.Hold, N: 1}}, [][]api.Came{nil, {spoilt}, {spoilt}}},
		{"Hold and Twice", []api.Fault{{What: api.Hold, N: 1}, {What: api.Twice, N: 1}}, [][]api.Came{nil, {spoilt}, {spoilt}}},
		{"Twice and Turn", []api.Fault{{What: api.Twice, N: 1}, back}, [][]api.Came{{other}, {other}}},
		{"Turn, Twice, and back", []api.Fault{back, {What: api.Twice, N: 1}, back}, [][]api.Came{{spoilt}, {spoilt}}},
		{"Drop and Twice", []api.Fault{{What: api.Drop}, {What: api.Twice, N: 1}}, [][]api.Came{nil, nil}},
		{"Twice and Drop", []api.Fault{{What: api.Twice, N: 1}, {What: api.Drop}}, [][]api.Came{nil, nil}},
		{"Forge", []api.Fault{{What: api.Forge, Frame: forged}}, [][]api.Came{{clean, nobody}}},
		{"Forge of what may not be", []api.Fault{{What: api.Forge, Frame: api.Frame{Id: 2048}}}, [][]api.Came{{clean}}},
		{"Forge, with an N", []api.Fault{{What: api.Forge, N: 2, Frame: forged}}, [][]api.Came{{clean, nobody}, nil, nil}},
		{"Forge and Drop", []api.Fault{{What: api.Forge, Frame: forged}, {What: api.Drop}}, [][]api.Came{{nobody}}},
		{"Forge, and what the others do", []api.Fault{{What: api.Forge, Frame: forged}, {What: api.Turn, Bits: 1}, {What: api.Hold, N: 1}, {What: api.Twice}, {What: api.Drop}}, [][]api.Came{{nobody}}},
		{"Forge and Forge", []api.Fault{{What: api.Forge, Frame: forged}, {What: api.Forge, Frame: was}}, [][]api.Came{{clean, nobody, {From: -1, Frame: was}}}},
	} {
		g, in, faults := gate.New(), s, c.faults
		for tick, want := range append(slices.Clone(c.comes), nil, nil) {
			if got := pass(t, g, in, faults...); !slices.Equal(got, want) {
				t.Errorf("%s: at %d %v, not %v", c.name, tick, got, want)
			}
			in, faults = nil, nil
		}
	}
}

// P11.1: all rows of up to three faults of some.
func TestRowsOfFaults(t *testing.T) {
	some := []api.Fault{
		{}, {What: api.Drop}, {What: api.Turn, Bits: 1}, {What: api.Turn, At: 1, Bits: 3}, {What: api.Hold, N: 1}, {What: api.Hold, N: 3},
		{What: api.Twice}, {What: api.Twice, N: 1}, {What: api.Twice, N: 2}, {What: api.Forge, Frame: api.Frame{Id: 1}},
		{What: api.Forge, Frame: api.Frame{Id: 1, Rtr: true, Len: 1, Data: [8]byte{1}}},
	}
	for _, a := range some {
		for _, b := range some {
			for _, c := range some {
				g, p := gate.New(), &plain{}
				both(t, g, p, one(1, 7, 0), a, b, c)
				both(t, g, p, asking(2, 3, 4), c, b)
				both(t, g, p, nil, b, a)
				rest(t, g, p)
			}
		}
	}
}

// P11.1: there are at most 16 copies; what Twice would make beyond is not made, and not lost.
func TestMostCopies(t *testing.T) {
	for n := range 12 {
		for _, late := range []int{0, 1, 100} {
			faults := []api.Fault{}
			for range n {
				faults = append(faults, api.Fault{What: api.Twice, N: late})
			}
			g, p := gate.New(), &plain{}
			came := len(both(t, g, p, one(1, 2, 3), faults...))
			if held := g.Held(); came+held != min(1<<n, 16) || g.Lost() != 0 {
				t.Fatalf("of %d: %d and %d", n, came, held)
			}
			for g.Held() > 0 {
				came += len(both(t, g, p, nil))
			}
			if came != min(1<<n, 16) {
				t.Fatal(n, came)
			}
		}
	}
}

// P11.1: what is forged has no limit of copies.
func TestForgeMany(t *testing.T) {
	faults := []api.Fault{}
	for i := range 100 {
		faults = append(faults, api.Fault{What: api.Forge, Frame: api.Frame{Id: 2000 + i}}, api.Fault{What: api.Twice})
	}
	g, p := gate.New(), &plain{}
	if l := both(t, g, p, one(5, 5, 5), faults...); len(l) != 16+48 { // the Id 2047 is the last that may be
		t.Fatal(len(l))
	}
	if l := both(t, g, p, nil, faults...); len(l) != 48 || l[0] != (api.Came{From: -1, At: 1, Frame: api.Frame{Id: 2000}}) {
		t.Fatal(l)
	}
}

// P11.1: first what was held, as it went in, whichever delay it had; then the copies without delay; then what is forged.
func TestOrder(t *testing.T) {
	for _, delays := range [][]int{{5, 4, 3, 2, 1}, {5, 5, 5, 5, 5}, {255, 254, 253, 252, 251}, {5, 0, 3, 4, 1}, {1, 1, 1, 1, 1}} {
		g, p := gate.New(), &plain{}
		for i, n := range delays {
			both(t, g, p, one(i, 100+i, byte(i)), api.Fault{What: api.Hold, N: n})
		}
		for p.tick < 270 {
			both(t, g, p, one(9, 1, 1), api.Fault{What: api.Forge, Frame: api.Frame{Id: 0}}, api.Fault{What: api.Twice, N: 0})
		}
	}
	g := gate.New()
	for i := range 3 {
		pass(t, g, one(i, 100+i), api.Fault{What: api.Hold, N: 3 - i})
	}
	froms := []int{}
	for _, c := range pass(t, g, one(7, 7), api.Fault{What: api.Forge, Frame: api.Frame{Id: 1}}, api.Fault{What: api.Twice}) {
		froms = append(froms, c.From)
	}
	if !slices.Equal(froms, []int{0, 1, 2, 7, 7, -1}) {
		t.Fatal(froms)
	}
}

// P11.1: there is room for 64; what finds none is lost and counted, and what comes at a tick leaves room at it.
func TestRoom(t *testing.T) {
	four := func(n int) []api.Fault { // 16 copies, all held
		return []api.Fault{{What: api.Twice}, {What: api.Twice}, {What: api.Twice}, {What: api.Twice}, {What: api.Hold, N: n}}
	}
	g, p := gate.New(), &plain{}
	for i := range 4 {
		both(t, g, p, one(i, i, byte(i)), four(10-i)...)
		if g.Held() != 16*(i+1) || g.Lost() != 0 {
			t.Fatal(g.Held(), g.Lost())
		}
	}
	both(t, g, p, one(4, 4), four(1)...)
	if g.Held() != 64 || g.Lost() != 16 {
		t.Fatal(g.Held(), g.Lost())
	}
	l := both(t, g, p, one(5, 5), api.Fault{What: api.Twice, N: 1}, api.Fault{What: api.Forge}) // what is not held needs no room
	if len(l) != 2 || g.Held() != 64 || g.Lost() != 17 {
		t.Fatal(l, g.Held(), g.Lost())
	}
	for p.tick < 10 {
		both(t, g, p, nil)
	}
	if l := both(t, g, p, one(6, 6), four(2)...); len(l) != 64 || g.Held() != 16 || g.Lost() != 17 { // all 64 came at this tick
		t.Fatal(len(l), g.Held(), g.Lost())
	}
	rest(t, g, p)
	for i := range 63 { // one less than there is room for
		both(t, g, p, one(i, i), api.Fault{What: api.Hold, N: 255})
	}
	both(t, g, p, one(63, 63), api.Fault{What: api.Twice, N: 9}, api.Fault{What: api.Hold, N: 7}) // the first copy finds the last room
	if g.Held() != 64 || g.Lost() != 18 {
		t.Fatal(g.Held(), g.Lost())
	}
	rest(t, g, p)
}

// P11.1: what may not go in has ErrArg, and nothing becomes of it; of nil all has ErrNil.
func TestPassWrong(t *testing.T) {
	var none *gate.Gate
	good := one(1, 2, 3)[0]
	g, p := gate.New(), &plain{}
	both(t, g, p, one(0, 9, 9), api.Fault{What: api.Hold, N: 3})
	fault := api.Fault{What: api.Twice, N: 1}
	for _, s := range [][]api.Sent{
		{good, good},
		{good, {From: 2}, good},
		make([]api.Sent, 2),
		{good, {From: -1}},
		{{From: -1, Frame: good.Frame}},
		{{From: math.MinInt}},
		{{Frame: api.Frame{Id: -1}}},
		{{Frame: api.Frame{Id: 2048}}},
		{{Frame: api.Frame{Id: math.MaxInt}}},
		{{Frame: api.Frame{Len: -1}}},
		{{Frame: api.Frame{Len: 9}}},
		{{Frame: api.Frame{Len: math.MaxInt}}},
		{{Frame: api.Frame{Data: [8]byte{1}}}},
		{{Frame: api.Frame{Len: 7, Data: [8]byte{7: 1}}}},
		{{Frame: api.Frame{Rtr: true, Len: 8, Data: [8]byte{1}}}},
	} {
		for _, faults := range [][]api.Fault{nil, {fault}, {{What: api.Forge}}, {{What: api.Drop}}} {
			if l, e := g.Pass(s, faults...); e != api.ErrArg || len(l) != 0 {
				t.Fatal(s, l, e)
			}
			if l, e := none.Pass(s, faults...); e != api.ErrNil || len(l) != 0 {
				t.Fatal(s, l, e)
			}
			alike(t, g, p)
		}
	}
	for range 4 {
		both(t, g, p, nil)
	}
}

// P11.1: what may just go in.
func TestPassEdges(t *testing.T) {
	for _, s := range [][]api.Sent{nil, {}, {{}}, {{From: math.MaxInt}}, one(0, 2047, 1, 2, 3, 4, 5, 6, 7, 8), asking(0, 0, 0), asking(1, 2047, 8), one(16, 0)} {
		g, p := gate.New(), &plain{}
		both(t, g, p, s)
		both(t, g, p, s, api.Fault{What: api.Turn, At: 7, Bits: 0x81}, api.Fault{What: api.Twice, N: 255})
		rest(t, g, p)
	}
}

// P3: what is handed in stays as it is and is not kept; what comes out is new memory.
func TestMemory(t *testing.T) {
	fault := []api.Fault{{What: api.Turn, Bits: 1}, {What: api.Twice, N: 2}, {What: api.Hold, N: 1}, {What: api.Forge, Frame: api.Frame{Id: 4}}, {What: 77, At: 5}}
	sent := append(one(1, 2, 3), one(8, 9, 10)...)
	in, faults := slices.Clone(sent), slices.Clone(fault)
	g, p := gate.New(), &plain{}
	for range 4 {
		first := both(t, g, p, in[:1], faults[:4]...)
		if !slices.Equal(in, sent) || !slices.Equal(faults, fault) {
			t.Fatal(in, faults)
		}
		twin := slices.Clone(first)
		in[0], faults[1], faults[2] = api.Sent{}, api.Fault{}, api.Fault{}
		second := both(t, g, p, nil)
		if !slices.Equal(first, twin) {
			t.Fatal(first)
		}
		for _, l := range [][]api.Came{first[:cap(first)], second[:cap(second)]} {
			for i := range l {
				l[i] = api.Came{From: 99}
			}
		}
		copy(in, sent)
		copy(faults, fault)
	}
	rest(t, g, p)
}

// some is a gateway in which something is held, some of it lost.
func some(t *testing.T) (*gate.Gate, *plain) {
	t.Helper()
	g, p := gate.New(), &plain{}
	for i := range 5 {
		both(t, g, p, one(i, 3+i, byte(i)), api.Fault{What: api.Twice, N: 1}, api.Fault{What: api.Twice, N: 2}, api.Fault{What: api.Twice, N: 4}, api.Fault{What: api.Twice, N: 8}, api.Fault{What: api.Hold, N: 20})
	}
	if g.Lost() != 16 || g.Held() != 64 {
		t.Fatal(g.Lost(), g.Held())
	}
	return g, p
}

// P11.1, P4: a Fork stands alike, and what becomes of the one changes nothing of the other one.
func TestFork(t *testing.T) {
	acts := [][]api.Fault{nil, {{What: api.Drop}}, {{What: api.Hold, N: 30}}, {{What: api.Twice, N: 9}, {What: api.Turn, Bits: 7}}, {{What: api.Forge}}}
	for _, faults := range acts {
		for ahead := range 40 {
			g, p := some(t)
			for range ahead {
				both(t, g, p, nil)
			}
			two, also := g.Fork(), p.fork()
			if two == g {
				t.Fatal("it is the same one")
			}
			alike(t, two, also)
			for range 3 {
				both(t, two, also, one(7, 7, 7), faults...)
				alike(t, g, p)
			}
			three, third := two.Fork(), also.fork()
			both(t, g, p, one(8, 8, 8), api.Fault{What: api.Hold, N: 2}) // into what may be one spare room
			both(t, two, also, one(9, 9, 9), api.Fault{What: api.Hold, N: 2})
			rest(t, g, p)
			rest(t, two, also)
			rest(t, three, third)
		}
	}
}

// chance is a fault of any kind, not all of which may be.
func chance(r *rand.Rand, most int) api.Fault {
	f := api.Fault{What: api.What(r.Intn(7)), At: r.Intn(10) - 1, Bits: byte(r.Intn(4)), N: r.Intn(most)}
	if r.Intn(20) == 0 {
		f.N = edges()[r.Intn(len(edges()))]
	}
	if f.What == api.Forge {
		f.Frame = api.Frame{Id: r.Intn(2050), Len: r.Intn(10), Rtr: r.Intn(3) == 0}
	}
	return f
}

// chances are some faults.
func chances(r *rand.Rand, most int) []api.Fault {
	l := []api.Fault{}
	for range r.Intn(7) {
		l = append(l, chance(r, most))
	}
	return l
}

// taken is what the bus may have taken.
func taken(r *rand.Rand) []api.Sent {
	switch r.Intn(4) {
	case 0:
		return nil
	case 1:
		return asking(r.Intn(16), r.Intn(2048), r.Intn(9))
	}
	data := make([]byte, r.Intn(9))
	r.Read(data)
	return one(r.Intn(16), r.Intn(2048), data...)
}

// P11.1: whatever goes through, with Forks between.
func TestRandom(t *testing.T) {
	r := rand.New(rand.NewSource(11))
	for range 60 {
		gs, ps := []*gate.Gate{gate.New()}, []*plain{{}}
		for range 120 {
			i := r.Intn(len(gs))
			if r.Intn(30) == 0 && len(gs) < 4 {
				gs, ps = append(gs, gs[i].Fork()), append(ps, ps[i].fork())
			}
			both(t, gs[i], ps[i], taken(r), chances(r, 30)...)
		}
		for i := range gs {
			rest(t, gs[i], ps[i])
		}
	}
}

// P11.3: without faults each frame comes at its tick, clean, and nothing else.
func TestWithoutFaults(t *testing.T) {
	r := rand.New(rand.NewSource(12))
	g := gate.New()
	for tick := range 3000 {
		s, faults := taken(r), []api.Fault{}
		for range r.Intn(3) {
			faults = append(faults, api.Fault{})
		}
		l := pass(t, g, s, faults...)
		if len(l) != len(s) || g.Held() != 0 || g.Lost() != 0 {
			t.Fatal(l, s)
		}
		if len(s) == 1 && l[0] != (api.Came{From: s[0].From, At: tick, Frame: s[0].Frame, Clean: true}) {
			t.Fatal(l, s)
		}
	}
}

// P11.3: what comes clean is what was sent at that very tick; one alone of each frame.
func TestClean(t *testing.T) {
	r := rand.New(rand.NewSource(13))
	clean := 0
	for range 50 {
		g := gate.New()
		for tick := range 100 {
			s, n := taken(r), 0
			for _, c := range pass(t, g, s, chances(r, 4)...) {
				if !c.Clean {
					continue
				}
				n++
				if len(s) != 1 || c != (api.Came{From: s[0].From, At: tick, Frame: s[0].Frame, Clean: true}) {
					t.Fatal(c, s)
				}
			}
			if n > 1 {
				t.Fatal(n, "are clean")
			}
			clean += n
		}
	}
	if clean < 100 {
		t.Fatal(clean)
	}
}

// P11.4: what went in at one tick comes as if nothing had gone in at the others, as long as nothing is lost.
func TestApart(t *testing.T) {
	r := rand.New(rand.NewSource(14))
	const ticks = 12
	for range 100 {
		sent, faults := make([][]api.Sent, ticks), make([][]api.Fault, ticks)
		for i := range ticks {
			sent[i] = taken(r)
			for range r.Intn(3) {
				faults[i] = append(faults[i], chance(r, 9))
			}
		}
		whole := gate.New()
		alone := make([]*gate.Gate, ticks)
		for i := range alone {
			alone[i] = gate.New()
		}
		for tick := range 600 {
			got := [ticks][]api.Came{}
			for _, c := range pass(t, whole, at(sent, tick), at(faults, tick)...) {
				got[c.At] = append(got[c.At], c)
			}
			for i, g := range alone {
				var s []api.Sent
				var l []api.Fault
				if i == tick {
					s, l = sent[i], faults[i]
				}
				if want := pass(t, g, s, l...); !slices.Equal(got[i], want) {
					t.Fatalf("of %d at %d: %v, not %v", i, tick, got[i], want)
				}
			}
		}
		if whole.Lost() != 0 {
			t.Fatal("lost")
		}
	}
}

// at is what stands at a place, if it is there.
func at[T any](l [][]T, i int) []T {
	if i < len(l) {
		return l[i]
	}
	return nil
}

// P11.2: is there one that is not NoWhat?
func TestTouches(t *testing.T) {
	if gate.Touches() || gate.Touches(nil...) || gate.Touches(api.Fault{}) || gate.Touches(api.Fault{}, api.Fault{N: 7, At: -1, Bits: 3, Frame: api.Frame{Id: 3}}) {
		t.Fatal("nothing is touched")
	}
	for _, what := range []api.What{1, 2, 3, 4, 5, 6, -1, math.MaxInt, math.MinInt} {
		for n := range 6 {
			for place := range n {
				l := make([]api.Fault, n)
				l[place].What = what
				if !gate.Touches(l...) || l[place] != (api.Fault{What: what}) {
					t.Fatal(what, n, place)
				}
			}
		}
	}
}

// may is whether a fault may be, told without the package.
func may(f api.Fault) bool {
	at, bits, n, frame := f.At == 0, f.Bits == 0, f.N == 0, f.Frame == api.Frame{}
	switch int(f.What) {
	case 0, 1:
		return at && bits && n && frame
	case 2:
		return f.At >= 0 && f.At <= 7 && n && frame
	case 3, 4:
		return at && bits && f.N >= 0 && f.N <= 255 && frame
	case 5:
		return at && bits && n && right(f.Frame)
	}
	return false
}

// P11.2: which faults may be.
func TestMay(t *testing.T) {
	frames := []api.Frame{{}, {Id: 1}, {Id: 2047, Len: 8, Data: [8]byte{7: 1}}, {Rtr: true}, {Rtr: true, Len: 8}, {Len: 1}, {Id: -1}, {Id: 2048}, {Len: 9}, {Len: -1}, {Data: [8]byte{1}}, {Rtr: true, Len: 1, Data: [8]byte{1}}}
	numbers := []int{math.MinInt, -1, 0, 1, 7, 8, 254, 255, 256, math.MaxInt}
	yes := 0
	for _, what := range []api.What{math.MinInt, -1, 0, 1, 2, 3, 4, 5, 6, 7, math.MaxInt} {
		for _, place := range numbers {
			for _, n := range numbers {
				for _, bits := range []byte{0, 1, 255} {
					for _, f := range frames {
						x := api.Fault{What: what, At: place, Bits: bits, N: n, Frame: f}
						if gate.May(x) != may(x) {
							t.Fatalf("May(%v) is %v", x, gate.May(x))
						}
						if may(x) {
							yes++
						}
					}
				}
			}
		}
	}
	if yes != 2+9+2*6+6 {
		t.Fatal(yes)
	}
}

// P1: a nil gateway has passed nothing; its Fork is nil.
func TestNil(t *testing.T) {
	var g *gate.Gate
	for _, s := range [][]api.Sent{nil, one(1, 2, 3), {{From: -1}}} {
		if l, e := g.Pass(s, api.Fault{What: api.Forge}); e != api.ErrNil || len(l) != 0 {
			t.Fatal(l, e)
		}
	}
	if g.Tick() != 0 || g.Held() != 0 || g.Lost() != 0 || g.Fork() != nil {
		t.Fatal("a nil gateway has something")
	}
}

// P1: nothing panics of a gateway that no call made.
func TestNoCallMadeIt(t *testing.T) {
	var g gate.Gate
	g.Pass(one(1, 2, 3), api.Fault{What: api.Twice, N: 1})
	g.Fork().Pass(nil)
	g.Pass(nil)
	g.Tick()
	g.Held()
	g.Lost()
}

// P1: more faults than one can count on go through, too.
func TestManyFaults(t *testing.T) {
	g, p := gate.New(), &plain{}
	faults := []api.Fault{}
	for i := range 20000 {
		faults = append(faults, api.Fault{What: api.What(2 + i%3), At: i % 9, Bits: byte(i), N: 1})
	}
	both(t, g, p, one(1, 2, 3, 4), faults...)
	if g.Held() != 16 {
		t.Fatal(g.Held())
	}
	rest(t, g, p)
}
