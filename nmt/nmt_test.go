package nmt_test

import (
	"iter"
	"math"
	"math/rand"
	"slices"
	"testing"

	"tripwire/api"
	"tripwire/frame"
	"tripwire/nmt"
)

// The calls have just these signatures.
var (
	_ func(api.Order) (api.Frame, api.Errno) = nmt.Encode
	_ func(api.Frame) (api.Order, api.Errno) = nmt.Decode
	_ func(api.Mode, api.Service) bool       = nmt.May
	_ func(int) (*nmt.Machine, api.Errno)    = nmt.New
	_ func(*nmt.Machine) bool                = (*nmt.Machine).Boot
	_ func(*nmt.Machine, api.Order) bool     = (*nmt.Machine).Obey
	_ func(*nmt.Machine) api.Mode            = (*nmt.Machine).Mode
	_ func(*nmt.Machine) int                 = (*nmt.Machine).Node
	_ func(*nmt.Machine) *nmt.Machine        = (*nmt.Machine).Fork
	_ func() iter.Seq[api.Mode]              = nmt.Modes
)

// modes are the four, with an order by which a node that is Ready gets there.
func modes() []struct {
	mode api.Mode
	verb api.Verb
} {
	return []struct {
		mode api.Mode
		verb api.Verb
	}{{0, 129}, {4, 2}, {5, 1}, {127, 128}}
}

// verbs are the five, with the modes that they make.
func verbs() []struct {
	verb api.Verb
	mode api.Mode
} {
	return []struct {
		verb api.Verb
		mode api.Mode
	}{{1, 5}, {2, 4}, {128, 127}, {129, 0}, {130, 0}}
}

func isVerb(v int) bool { return v == 1 || v == 2 || v == 128 || v == 129 || v == 130 }

// numbers are small ones, and such as are like them in their low bits.
func numbers() []int {
	var l []int
	for i := -3; i <= 260; i++ {
		l = append(l, i)
	}
	return append(l, 1<<8+129, 1<<16+1, 1<<16+5, 1<<31+1, 1<<32, 1<<32+1, 1<<32+5, 1<<32+128, -255, -127, -128, math.MinInt32, math.MaxInt32, math.MinInt, math.MinInt+1, math.MaxInt)
}

// in is a node in some mode.
func in(t *testing.T, node int, m api.Mode) *nmt.Machine {
	t.Helper()
	x, e := nmt.New(node)
	if e != api.OK {
		t.Fatal(node, e)
	}
	x.Boot()
	for _, c := range modes() {
		if c.mode == m {
			x.Obey(api.Order{Verb: c.verb, Node: node})
		}
	}
	if x.Mode() != m || x.Node() != node {
		t.Fatalf("the node %d is %d in %d, not in %d", node, x.Node(), x.Mode(), m)
	}
	return x
}

// P21.1: the document's example.
func TestExample(t *testing.T) {
	for text, o := range map[string]api.Order{
		"000#0105": {Verb: api.GoOperating, Node: 5},
		"000#8100": {Verb: api.ResetNode},
		"000#027F": {Verb: api.GoStopped, Node: 127},
		"000#8001": {Verb: api.GoReady, Node: 1},
		"000#8202": {Verb: api.ResetComm, Node: 2},
	} {
		f, e := nmt.Encode(o)
		if s, _ := frame.Text(f); e != api.OK || s != text {
			t.Fatalf("%+v: %q, %v", o, s, e)
		}
		f, _ = frame.Parse(text)
		if got, e := nmt.Decode(f); e != api.OK || got != o {
			t.Fatalf("%s: %+v, %v", text, got, e)
		}
	}
}

// P21.1: an order that may be has a frame, from which it is told again; others have ErrArg, and none.
func TestEncode(t *testing.T) {
	n := 0
	for _, verb := range numbers() {
		for _, node := range numbers() {
			o := api.Order{Verb: api.Verb(verb), Node: node}
			f, e := nmt.Encode(o)
			if !isVerb(verb) || node < 0 || node > 127 {
				if e != api.ErrArg || f != (api.Frame{}) {
					t.Fatalf("%+v: %v, %v", o, f, e)
				}
				continue
			}
			n++
			want := api.Frame{Id: 0, Len: 2, Data: [8]byte{byte(verb), byte(node)}}
			if e != api.OK || f != want {
				t.Fatalf("%+v: %v, %v", o, f, e)
			}
			if got, e := nmt.Decode(f); e != api.OK || got != o {
				t.Fatalf("%v: %+v, %v", f, got, e)
			}
		}
	}
	if n != 5*128 {
		t.Fatal(n)
	}
}

// P21.1: of two bytes just those of an order are its frame.
func TestDecode(t *testing.T) {
	for verb := range 256 {
		for node := range 256 {
			f := api.Frame{Len: 2, Data: [8]byte{byte(verb), byte(node)}}
			o, e := nmt.Decode(f)
			if isVerb(verb) && node <= 127 {
				if e != api.OK || o != (api.Order{Verb: api.Verb(verb), Node: node}) {
					t.Fatalf("%v: %+v, %v", f, o, e)
				}
			} else if e != api.ErrForm || o != (api.Order{}) {
				t.Fatalf("%v: %+v, %v", f, o, e)
			}
		}
	}
}

// P21.1: a frame that is another one in anything is no order's.
func TestDecodeWrong(t *testing.T) {
	var l []api.Frame
	for _, c := range verbs() {
		f := api.Frame{Len: 2, Data: [8]byte{byte(c.verb), 5}}
		for _, id := range []int{1, 2, 0x80, 0x700, api.MaxId, api.MaxId + 1, -1, 1 << 16, 1 << 32, math.MinInt, math.MaxInt} {
			g := f
			g.Id = id
			l = append(l, g)
		}
		for _, n := range []int{0, 1, 3, 8, 9, 258, -1, 1<<32 + 2, math.MinInt, math.MaxInt} {
			g := f
			g.Len = n
			l = append(l, g)
		}
		for at := 2; at < 8; at++ {
			g := f
			g.Data[at] = 1
			l = append(l, g)
			g.Len = 8
			l = append(l, g)
		}
		g := f
		g.Rtr = true
		l = append(l, g)
	}
	l = append(l, api.Frame{}, api.Frame{Rtr: true, Len: 2}, api.Frame{Len: 2}, api.Frame{Len: 1, Data: [8]byte{1}})
	for _, f := range l {
		if o, e := nmt.Decode(f); e != api.ErrForm || o != (api.Order{}) {
			t.Fatalf("%+v: %+v, %v", f, o, e)
		}
	}
}

// P21.2: a node's number is from 1 to 127; at first it is Booting, and each is one of its own.
func TestNew(t *testing.T) {
	for _, node := range numbers() {
		m, e := nmt.New(node)
		if node < 1 || node > 127 {
			if e != api.ErrRange || m != nil {
				t.Fatalf("New(%d): %v, %v", node, m, e)
			}
			continue
		}
		if e != api.OK || m.Node() != node || m.Mode() != api.Booting {
			t.Fatalf("New(%d): %v, %v", node, m, e)
		}
		other, _ := nmt.New(node)
		other.Boot()
		if m.Mode() != api.Booting {
			t.Fatal("two nodes are one")
		}
	}
}

// P21.2: who is Booting is Ready behind Boot; of others nothing becomes.
func TestBoot(t *testing.T) {
	for _, c := range modes() {
		m := in(t, 9, c.mode)
		if was := m.Boot(); was != (c.mode == api.Booting) {
			t.Fatalf("Boot in the mode %d: %v", c.mode, was)
		}
		want := c.mode
		if want == api.Booting {
			want = api.Ready
		}
		if m.Mode() != want || m.Node() != 9 || m.Boot() || m.Mode() != want {
			t.Fatalf("behind Boot in the mode %d: %d", c.mode, m.Mode())
		}
	}
}

// P21.2: of each mode, what each order makes of it, and whether that is another one.
func TestObey(t *testing.T) {
	for _, number := range []int{1, 2, 64, 126, 127} {
		for _, c := range modes() {
			for _, v := range verbs() {
				for node := range 128 {
					m := in(t, number, c.mode)
					heard := c.mode != api.Booting && (node == 0 || node == number)
					want := c.mode
					if heard {
						want = v.mode
					}
					got := m.Obey(api.Order{Verb: v.verb, Node: node})
					if got != (want != c.mode) || m.Mode() != want || m.Node() != number {
						t.Fatalf("the node %d in the mode %d, %d to %d: %v, %d", number, c.mode, v.verb, node, got, m.Mode())
					}
				}
			}
		}
	}
}

// P21.2: an order that may not be makes nothing of a node.
func TestObeyWrong(t *testing.T) {
	for _, c := range modes() {
		m := in(t, 5, c.mode)
		for _, verb := range numbers() {
			for _, node := range numbers() {
				if isVerb(verb) && (node == 0 || node == 5) {
					continue
				}
				if m.Obey(api.Order{Verb: api.Verb(verb), Node: node}) || m.Mode() != c.mode {
					t.Fatalf("%d to %d in the mode %d: %d", verb, node, c.mode, m.Mode())
				}
			}
		}
	}
}

// P21.2: who is Booting hears no order, no reset either, till it has booted.
func TestObeyBooting(t *testing.T) {
	m, _ := nmt.New(3)
	for _, v := range verbs() {
		for _, node := range []int{0, 3} {
			if m.Obey(api.Order{Verb: v.verb, Node: node}) || m.Mode() != api.Booting {
				t.Fatal(v, node, m.Mode())
			}
		}
	}
	if !m.Boot() || !m.Obey(api.Order{Verb: api.GoOperating}) || m.Obey(api.Order{Verb: api.GoOperating, Node: 3}) || m.Mode() != api.Operating {
		t.Fatal(m.Mode())
	}
	if !m.Obey(api.Order{Verb: api.ResetComm}) || m.Obey(api.Order{Verb: api.ResetComm}) || m.Obey(api.Order{Verb: api.ResetNode}) || m.Mode() != api.Booting {
		t.Fatal(m.Mode())
	}
}

// P21.2, P4: a Fork stands alike, and what becomes of the one changes nothing of the other one.
func TestFork(t *testing.T) {
	for _, c := range modes() {
		m := in(t, 7, c.mode)
		f := m.Fork()
		if f == m || f.Node() != 7 || f.Mode() != c.mode {
			t.Fatal(f)
		}
		f.Boot()
		f.Obey(api.Order{Verb: api.ResetNode})
		f.Boot()
		if m.Mode() != c.mode {
			t.Fatalf("the Fork's mode has become that of its node: %d", m.Mode())
		}
		f = m.Fork()
		m.Boot()
		m.Obey(api.Order{Verb: api.GoStopped})
		m.Obey(api.Order{Verb: api.GoReady})
		if f.Mode() != c.mode || f.Node() != 7 {
			t.Fatalf("the node's mode has become that of its Fork: %d", f.Mode())
		}
	}
}

// P21.2, P1: a nil node.
func TestNil(t *testing.T) {
	var m *nmt.Machine
	if m.Boot() || m.Mode() != api.Booting || m.Node() != 0 || m.Fork() != nil {
		t.Fatal("a nil node is something")
	}
	for _, v := range verbs() {
		if m.Obey(api.Order{Verb: v.verb}) || m.Obey(api.Order{Verb: v.verb, Node: 1}) {
			t.Fatal("a nil node obeys")
		}
	}
}

// P1: no call made it, and nothing panics.
func TestNoCallMadeIt(t *testing.T) {
	m := &nmt.Machine{}
	m.Obey(api.Order{})
	m.Obey(api.Order{Verb: api.GoOperating})
	m.Boot()
	m.Obey(api.Order{Verb: api.GoOperating})
	m.Mode()
	m.Node()
	m.Fork().Boot()
}

// P21.3: which mode may do what.
func TestMay(t *testing.T) {
	services := map[int][]int{
		0:   nil,
		4:   {1},
		127: {1, 2, 3},
		5:   {1, 2, 3, 4, 5},
	}
	for _, mode := range numbers() {
		for _, service := range numbers() {
			want := slices.Contains(services[mode], service)
			if got := nmt.May(api.Mode(mode), api.Service(service)); got != want {
				t.Fatalf("May(%d, %d): %v", mode, service, got)
			}
		}
	}
}

// P21.3, P7: the four modes, rising, as often as they are ranged over; who stops has no more of them told.
func TestModes(t *testing.T) {
	want := []api.Mode{0, 4, 5, 127}
	seq := nmt.Modes()
	for range 3 {
		if got := slices.Collect(seq); !slices.Equal(got, want) {
			t.Fatal(got)
		}
	}
	for n := range 4 {
		var got []api.Mode
		for m := range seq {
			got = append(got, m)
			if len(got) > n {
				break
			}
		}
		if !slices.Equal(got, want[:n+1]) {
			t.Fatal(got)
		}
	}
	pairs := 0
	for a := range seq {
		for b := range seq {
			if a <= b {
				pairs++
			}
		}
	}
	if pairs != 10 {
		t.Fatal(pairs)
	}
}

// P21.3: each mode that is told is one in which a node may be.
func TestModesOfNodes(t *testing.T) {
	for m := range nmt.Modes() {
		in(t, 1, m)
	}
}

// P21.4: behind the same orders, of which both are meant, two nodes have the same mode; so has one that got them as frames.
func TestSameOrders(t *testing.T) {
	r := rand.New(rand.NewSource(21))
	for range 200 {
		a, _ := nmt.New(1 + r.Intn(127))
		b, _ := nmt.New(1 + r.Intn(127))
		for range 60 {
			if r.Intn(4) == 0 {
				if a.Boot() != b.Boot() {
					t.Fatal("one was Booting")
				}
			} else {
				o := api.Order{Verb: verbs()[r.Intn(5)].verb}
				f, _ := nmt.Encode(o)
				heard, _ := nmt.Decode(f)
				if a.Obey(o) != b.Obey(heard) {
					t.Fatal("one obeyed")
				}
			}
			if a.Mode() != b.Mode() {
				t.Fatal(a.Mode(), b.Mode())
			}
		}
	}
}

// P21.4: whatever is ordered, a node is in one of the four modes; safe data go in Operating alone, and nothing while it is Booting.
func TestServices(t *testing.T) {
	r := rand.New(rand.NewSource(4))
	m, _ := nmt.New(5)
	seen := map[api.Mode]bool{}
	for range 5000 {
		was := m.Mode()
		o := api.Order{Verb: api.Verb(r.Intn(140)), Node: r.Intn(8)}
		if r.Intn(2) == 0 {
			o.Verb = verbs()[r.Intn(5)].verb
		}
		if changed := m.Obey(o); changed != (m.Mode() != was) {
			t.Fatalf("%+v in the mode %d: %v, %d", o, was, changed, m.Mode())
		}
		if r.Intn(3) == 0 {
			m.Boot()
		}
		seen[m.Mode()] = true
		if nmt.May(m.Mode(), api.DoSafe) != (m.Mode() == api.Operating) {
			t.Fatal(m.Mode())
		}
		for s := api.Service(-1); s < 9; s++ {
			if nmt.May(api.Booting, s) {
				t.Fatal(s)
			}
		}
	}
	if len(seen) != 4 {
		t.Fatal(seen)
	}
	for x := range seen {
		if !slices.Contains(slices.Collect(nmt.Modes()), x) {
			t.Fatal(x)
		}
	}
}
