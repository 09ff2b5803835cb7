package mailbox_test

import (
	"iter"
	"math"
	"math/rand"
	"slices"
	"testing"

	"tripwire/api"
	"tripwire/mailbox"
)

// The calls have just these signatures.
var (
	_ func() *mailbox.Box                           = mailbox.New
	_ func(*mailbox.Box, api.Frame, bool) api.Errno = (*mailbox.Box).Put
	_ func(*mailbox.Box) (api.Frame, bool)          = (*mailbox.Box).Best
	_ func(*mailbox.Box) (api.Frame, bool)          = (*mailbox.Box).Take
	_ func(*mailbox.Box, func(api.Frame) bool) int  = (*mailbox.Box).Cut
	_ func(*mailbox.Box) iter.Seq2[api.Frame, bool] = (*mailbox.Box).All
	_ func(*mailbox.Box, bool) int                  = (*mailbox.Box).Len
	_ func(*mailbox.Box) int                        = (*mailbox.Box).Lost
	_ func(*mailbox.Box)                            = (*mailbox.Box).Clear
	_ func(*mailbox.Box) *mailbox.Box               = (*mailbox.Box).Fork
)

// waiting is a frame, and whether it stands in the safe part.
type waiting struct {
	f    api.Frame
	safe bool
}

// plain is what a mailbox should be, told without the package: what was put, in the order in which it was.
type plain struct {
	l    []waiting
	lost int
}

func (p *plain) len(safe bool) int {
	n := 0
	for _, w := range p.l {
		if w.safe == safe {
			n++
		}
	}
	return n
}

// put puts a frame that may be.
func (p *plain) put(f api.Frame, safe bool) api.Errno {
	if p.len(safe) >= 8 {
		p.lost++
		return api.ErrFull
	}
	p.l = append(p.l, waiting{f, safe})
	return api.OK
}

// wins: is a frame sent ahead of another one, when both are sent at once?
func wins(a, b api.Frame) bool {
	return a.Id < b.Id || a.Id == b.Id && !a.Rtr && b.Rtr
}

// best is the place of the best one.
func (p *plain) best() int {
	at := -1
	for i, w := range p.l {
		if at < 0 || wins(w.f, p.l[at].f) {
			at = i
		}
	}
	return at
}

func (p *plain) take() (api.Frame, bool) {
	at := p.best()
	if at < 0 {
		return api.Frame{}, false
	}
	f := p.l[at].f
	p.l = slices.Delete(slices.Clone(p.l), at, at+1)
	return f, true
}

func (p *plain) cut(gone func(api.Frame) bool) int {
	n := len(p.l)
	p.l = slices.DeleteFunc(slices.Clone(p.l), func(w waiting) bool { return gone(w.f) })
	return n - len(p.l)
}

func (p *plain) fork() *plain { return &plain{slices.Clone(p.l), p.lost} }

// all is all that wait, as they should be taken.
func (p *plain) all() []waiting {
	rest, l := p.fork(), []waiting{}
	for at := rest.best(); at >= 0; at = rest.best() {
		l = append(l, rest.l[at])
		rest.l = slices.Delete(rest.l, at, at+1)
	}
	return l
}

// told is all that is told.
func told(seq iter.Seq2[api.Frame, bool]) []waiting {
	l := []waiting{}
	for f, safe := range seq {
		l = append(l, waiting{f, safe})
	}
	return l
}

// alike: does the mailbox tell of itself what it should be?
func alike(t *testing.T, b *mailbox.Box, p *plain) {
	t.Helper()
	want := p.all()
	if got := told(b.All()); !slices.Equal(got, want) {
		t.Fatalf("All: %v, not %v", got, want)
	}
	if b.Len(true) != p.len(true) || b.Len(false) != p.len(false) || b.Lost() != p.lost {
		t.Fatalf("Len %d, %d, Lost %d: not %d, %d, %d", b.Len(true), b.Len(false), b.Lost(), p.len(true), p.len(false), p.lost)
	}
	f, there := b.Best()
	if there != (len(want) > 0) || there && f != want[0].f || !there && f != (api.Frame{}) {
		t.Fatalf("Best: %v, %v of %v", f, there, want)
	}
}

// numbered is a frame with a number in its bytes, so that it is known among those of its rank.
func numbered(id, n int) api.Frame {
	return api.Frame{Id: id, Len: 4, Data: [api.MaxLen]byte{byte(n), byte(n >> 8), byte(n >> 16), 1}}
}

// asking is a frame that asks for bytes.
func asking(id, n int) api.Frame { return api.Frame{Id: id, Rtr: true, Len: n} }

// put puts what there is room for.
func put(t *testing.T, b *mailbox.Box, safe bool, l ...api.Frame) {
	t.Helper()
	for _, f := range l {
		if e := b.Put(f, safe); e != api.OK {
			t.Fatalf("Put(%v, %v): %d", f, safe, e)
		}
	}
}

// taken is all that a mailbox has, taken out of a Fork.
func taken(b *mailbox.Box) []api.Frame {
	l := []api.Frame{}
	rest := b.Fork()
	for f, there := rest.Take(); there; f, there = rest.Take() {
		l = append(l, f)
	}
	return l
}

// P9.1: an empty one.
func TestNew(t *testing.T) {
	b := mailbox.New()
	if b == nil || b == mailbox.New() {
		t.Fatal("New")
	}
	alike(t, b, &plain{})
	if f, there := b.Take(); there || f != (api.Frame{}) {
		t.Fatal(f, there)
	}
	alike(t, b, &plain{})
}

// The document's example.
func TestExample(t *testing.T) {
	b := mailbox.New()
	put(t, b, false, api.Frame{Id: 0x200}, api.Frame{Id: 0x100})
	put(t, b, true, api.Frame{Id: 0x180})
	if got := taken(b); !slices.Equal(got, []api.Frame{{Id: 0x100}, {Id: 0x180}, {Id: 0x200}}) {
		t.Fatal(got)
	}
	if got := told(b.All()); !slices.Equal(got, []waiting{{api.Frame{Id: 0x100}, false}, {api.Frame{Id: 0x180}, true}, {api.Frame{Id: 0x200}, false}}) {
		t.Fatal(got)
	}
}

// wrong are frames that may not be, with their errors.
func wrong() []struct {
	f api.Frame
	e api.Errno
} {
	return []struct {
		f api.Frame
		e api.Errno
	}{
		{api.Frame{Id: -1}, api.ErrRange},
		{api.Frame{Id: 2048}, api.ErrRange},
		{api.Frame{Id: math.MinInt}, api.ErrRange},
		{api.Frame{Id: math.MaxInt, Len: -1}, api.ErrRange},
		{api.Frame{Id: 5, Len: -1}, api.ErrLen},
		{api.Frame{Id: 5, Len: 9}, api.ErrLen},
		{api.Frame{Id: 5, Len: math.MaxInt}, api.ErrLen},
		{api.Frame{Id: 5, Rtr: true, Len: math.MinInt}, api.ErrLen},
		{api.Frame{Id: 5, Data: [8]byte{1}}, api.ErrForm},
		{api.Frame{Id: 5, Len: 7, Data: [8]byte{7: 1}}, api.ErrForm},
		{api.Frame{Id: 5, Rtr: true, Len: 8, Data: [8]byte{1}}, api.ErrForm},
	}
}

// P9.1, P2: a frame that may not be has its error, also of a nil mailbox, and of one without room; it is not counted.
func TestPutWrong(t *testing.T) {
	var none *mailbox.Box
	for have := range 10 {
		b, p := mailbox.New(), &plain{}
		for i := range have {
			for _, safe := range []bool{false, true} {
				if got, want := b.Put(numbered(i, i), safe), p.put(numbered(i, i), safe); got != want {
					t.Fatal(have, i, got)
				}
			}
		}
		for _, w := range wrong() {
			for _, safe := range []bool{false, true} {
				if e := b.Put(w.f, safe); e != w.e {
					t.Fatalf("Put(%v) behind %d: %d, not %d", w.f, have, e, w.e)
				}
				if e := none.Put(w.f, safe); e != api.ErrNil {
					t.Fatalf("Put(%v) of nil: %d", w.f, e)
				}
				alike(t, b, p)
			}
		}
	}
}

// P9.1: the frames at the edges of what may be do stand.
func TestPutEdges(t *testing.T) {
	all := [8]byte{255, 255, 255, 255, 255, 255, 255, 255}
	for _, f := range []api.Frame{{}, {Id: 2047}, {Rtr: true}, {Id: 2047, Rtr: true, Len: 8}, {Id: 1, Len: 8, Data: all}, {Id: 2047, Len: 8}} {
		for _, safe := range []bool{false, true} {
			b, p := mailbox.New(), &plain{}
			put(t, b, safe, f)
			p.put(f, safe)
			alike(t, b, p)
			if got, there := b.Take(); got != f || !there {
				t.Fatal(got, there)
			}
			alike(t, b, &plain{})
		}
	}
}

// P9.1, P9.4: each part has room for eight, whatever stands in the other one; what finds none is counted, and changes nothing else.
func TestRoom(t *testing.T) {
	for _, first := range []bool{false, true} {
		for other := range 12 {
			b, p := mailbox.New(), &plain{}
			for i := range other {
				f := numbered(i%3, i)
				if got, want := b.Put(f, first), p.put(f, first); got != want {
					t.Fatal(other, i, got)
				}
			}
			lost := max(other-8, 0)
			for i := range 8 {
				put(t, b, !first, numbered(3-i%4, 100+i))
				p.put(numbered(3-i%4, 100+i), !first)
				if b.Len(!first) != i+1 || b.Len(first) != min(other, 8) || b.Lost() != lost {
					t.Fatal(other, i, b.Len(!first), b.Len(first), b.Lost())
				}
			}
			for i := range 3 {
				before := told(b.All())
				if e := b.Put(numbered(0, 200+i), !first); e != api.ErrFull { // it would be the best one
					t.Fatal(e)
				}
				p.put(numbered(0, 200+i), !first)
				if b.Lost() != lost+i+1 || !slices.Equal(told(b.All()), before) {
					t.Fatal(b.Lost())
				}
			}
			alike(t, b, p)
			b.Take() // there is room again in the part in which it stood
			p.take()
			for _, safe := range []bool{false, true} {
				if got, want := b.Put(asking(9, 0), safe), p.put(asking(9, 0), safe); got != want {
					t.Fatal(other, safe, got)
				}
			}
			alike(t, b, p)
		}
	}
}

// P9.1, P9.3: of two frames the one of the lesser rank is the best one, of one rank the one that was put first, whichever the parts.
func TestBestOfTwo(t *testing.T) {
	ids := []int{0, 1, 2, 0x0ff, 0x100, 0x101, 0x3ff, 0x400, 0x7fe, 0x7ff}
	for _, one := range ids {
		for _, two := range ids {
			for k := range 16 {
				a := waiting{api.Frame{Id: one, Rtr: k&1 != 0, Len: 8}, k&2 != 0}
				b := waiting{api.Frame{Id: two, Rtr: k&4 != 0, Len: 1}, k&8 != 0}
				box := mailbox.New()
				put(t, box, a.safe, a.f)
				put(t, box, b.safe, b.f)
				want := []waiting{a, b}
				if wins(b.f, a.f) {
					want = []waiting{b, a}
				}
				if got := told(box.All()); !slices.Equal(got, want) {
					t.Fatalf("%v, not %v", got, want)
				}
				if got := taken(box); !slices.Equal(got, []api.Frame{want[0].f, want[1].f}) {
					t.Fatalf("%v, not %v", got, want)
				}
			}
		}
	}
}

// P9.1: what is looked at stays; what is taken is there no more.
func TestBestAndTake(t *testing.T) {
	b, p := mailbox.New(), &plain{}
	for i, id := range []int{5, 3, 5, 9, 3, 0, 9, 5} {
		put(t, b, i%2 == 0, numbered(id, i))
		p.put(numbered(id, i), i%2 == 0)
	}
	for left := 8; left > 0; left-- {
		best, there := b.Best()
		again, also := b.Best()
		if !there || !also || best != again || b.Len(true)+b.Len(false) != left {
			t.Fatal(left, best, again)
		}
		f, there := b.Take()
		if g, _ := p.take(); !there || f != best || f != g {
			t.Fatal(left, f, best)
		}
		alike(t, b, p)
	}
	for range 3 {
		if f, there := b.Take(); there || f != (api.Frame{}) {
			t.Fatal(f)
		}
		alike(t, b, &plain{})
	}
}

// P9.1 to P9.4, P4: whatever is done, one thing behind the other, a mailbox is what it should be; and so are its Forks.
func TestAnything(t *testing.T) {
	r := rand.New(rand.NewSource(9))
	for round := range 300 {
		bs, ps := []*mailbox.Box{mailbox.New()}, []*plain{{}}
		span := 1 + r.Intn(12)
		for step := range 150 {
			k := r.Intn(len(bs))
			b, p := bs[k], ps[k]
			switch r.Intn(16) {
			default:
				f := numbered(r.Intn(span), step)
				if r.Intn(4) == 0 {
					f = asking(r.Intn(span), r.Intn(9))
				}
				safe := r.Intn(3) == 0
				if got, want := b.Put(f, safe), p.put(f, safe); got != want {
					t.Fatalf("round %d, step %d: Put: %d, not %d", round, step, got, want)
				}
			case 0, 1, 2, 3:
				f, there := b.Take()
				if g, also := p.take(); f != g || there != also {
					t.Fatalf("round %d, step %d: Take: %v, %v, not %v, %v", round, step, f, there, g, also)
				}
			case 4:
				of, rest := 1+r.Intn(4), r.Intn(3)
				gone := func(f api.Frame) bool { return (f.Id+int(f.Data[0]))%of == rest }
				if got, want := b.Cut(gone), p.cut(gone); got != want {
					t.Fatalf("round %d, step %d: Cut: %d, not %d", round, step, got, want)
				}
			case 5:
				if r.Intn(5) == 0 {
					b.Clear()
					*p = plain{}
				}
			case 6:
				if len(bs) < 4 {
					bs, ps = append(bs, b.Fork()), append(ps, p.fork())
				}
			}
			for i := range bs {
				alike(t, bs[i], ps[i])
			}
		}
	}
}

// P9.3: taken in the order of ranks, those of one rank as they came; each frame once.
func TestOrder(t *testing.T) {
	r := rand.New(rand.NewSource(10))
	for range 500 {
		b := mailbox.New()
		for n := range 16 {
			f := numbered(r.Intn(4), n)
			f.Rtr = r.Intn(2) == 0
			if f.Rtr {
				f = asking(f.Id, n%9)
			}
			put(t, b, n%2 == 0, f)
		}
		l := told(b.All())
		for i := 1; i < len(l); i++ {
			one, two := l[i-1].f, l[i].f
			if wins(two, one) {
				t.Fatalf("%v is taken behind %v", two, one)
			}
			if !wins(one, two) && !one.Rtr && one.Data[0] >= two.Data[0] {
				t.Fatalf("%v came ahead of %v", two, one)
			}
		}
		frames := []api.Frame{}
		for _, w := range l {
			frames = append(frames, w.f)
		}
		if got := taken(b); len(l) != 16 || !slices.Equal(got, frames) {
			t.Fatalf("%v, not %v", got, frames)
		}
	}
}

// some is a mailbox with frames in both parts, and some lost.
func some(t *testing.T) (*mailbox.Box, *plain) {
	t.Helper()
	b, p := mailbox.New(), &plain{}
	for i, id := range []int{7, 4, 7, 1, 9, 4, 4, 2, 3, 8} { // one more than there is room for, and the safe one
		safe := i == 5
		if got, want := b.Put(numbered(id, i), safe), p.put(numbered(id, i), safe); got != want {
			t.Fatal(got)
		}
	}
	return b, p
}

// P9.2: those go of which gone is true, each is asked for once, the others stay in order; none of them is lost.
func TestCut(t *testing.T) {
	for pick := range 1 << 9 {
		b, p := some(t)
		have := p.all()
		asked := map[api.Frame]int{}
		gone := func(f api.Frame) bool {
			return pick>>slices.IndexFunc(have, func(w waiting) bool { return w.f == f })&1 == 1
		}
		want := p.cut(gone)
		n := b.Cut(func(f api.Frame) bool {
			asked[f]++
			if got := told(b.All()); !slices.Equal(got, have) || b.Len(false) != 8 { // it may look at the mailbox
				t.Fatal("the mailbox changes meanwhile", got)
			}
			return gone(f)
		})
		if n != want || len(asked) != 9 {
			t.Fatalf("%d went, not %d; asked were %v", n, want, asked)
		}
		for f, times := range asked {
			if times != 1 {
				t.Fatal(f, times)
			}
		}
		alike(t, b, p)
		for i := range 9 { // what has gone has left room in its part
			for _, safe := range []bool{false, true} {
				if got, want := b.Put(numbered(4, 50+i), safe), p.put(numbered(4, 50+i), safe); got != want {
					t.Fatal(got, want)
				}
			}
		}
		alike(t, b, p)
	}
	if n := mailbox.New().Cut(func(api.Frame) bool { t.Fatal("asked"); return true }); n != 0 {
		t.Fatal(n)
	}
}

// P9.2: what becomes of the mailbox while it is ranged over plays no part.
func TestAllMeanwhile(t *testing.T) {
	acts := []func(b *mailbox.Box){
		func(b *mailbox.Box) { b.Take() },
		func(b *mailbox.Box) { b.Put(numbered(0, 90), true) },
		func(b *mailbox.Box) { b.Put(numbered(2000, 90), true) },
		func(b *mailbox.Box) { b.Take(); b.Put(numbered(5, 91), false) },
		func(b *mailbox.Box) { b.Clear(); b.Put(numbered(6, 92), true); b.Put(numbered(5, 92), true) },
		func(b *mailbox.Box) {
			b.Cut(func(f api.Frame) bool { return f.Id%2 == 1 })
			b.Put(numbered(4, 93), true)
		},
		func(b *mailbox.Box) { b.Cut(func(api.Frame) bool { return true }) },
	}
	for k, act := range acts {
		for at := range 9 {
			b, p := some(t)
			want := p.all()
			got := []waiting{}
			for f, safe := range b.All() {
				if len(got) == at || at == 8 {
					act(b)
				}
				got = append(got, waiting{f, safe})
			}
			if !slices.Equal(got, want) {
				t.Fatalf("act %d at %d: %v", k, at, got)
			}
		}
	}
}

// P9.2, P7: as they are when it is ranged over, not when All was called; as often, each time from the beginning; who stops has it told no more.
func TestAllAgain(t *testing.T) {
	b, p := some(t)
	seq, want := b.All(), p.all()
	for range 3 {
		if got := told(seq); !slices.Equal(got, want) {
			t.Fatal(got)
		}
	}
	for stop := range want {
		n := 0
		seq(func(f api.Frame, safe bool) bool {
			if (waiting{f, safe}) != want[n] {
				t.Fatal(f, safe)
			}
			n++
			return n <= stop
		})
		if n != stop+1 {
			t.Fatalf("told %d times, not %d", n, stop+1)
		}
	}
	n := 0
	for f, safe := range seq { // one within another
		if got := told(seq); !slices.Equal(got, want) || want[n] != (waiting{f, safe}) {
			t.Fatal(got)
		}
		n++
	}
	b.Take()
	p.take()
	put(t, b, true, numbered(0, 60))
	p.put(numbered(0, 60), true)
	if got := told(seq); !slices.Equal(got, p.all()) {
		t.Fatal(got)
	}
	b.Clear()
	if got := told(seq); len(got) != 0 {
		t.Fatal(got)
	}
	put(t, b, false, numbered(3, 61))
	if got := told(seq); !slices.Equal(got, []waiting{{numbered(3, 61), false}}) {
		t.Fatal(got)
	}
}

// P9.2: all go, and the count is 0; there is room as at first.
func TestClear(t *testing.T) {
	b, _ := some(t)
	for range 2 {
		b.Clear()
		alike(t, b, &plain{})
	}
	for _, safe := range []bool{true, false} {
		for i := range 8 {
			put(t, b, safe, numbered(5, i))
		}
		if e := b.Put(numbered(5, 8), safe); e != api.ErrFull {
			t.Fatal(e)
		}
	}
	if b.Lost() != 2 {
		t.Fatal(b.Lost())
	}
}

// P9.2, P4: a Fork stands alike, and what becomes of the one changes nothing of the other one.
func TestFork(t *testing.T) {
	acts := []func(b *mailbox.Box){
		func(b *mailbox.Box) { b.Take() },
		func(b *mailbox.Box) { b.Put(numbered(0, 70), true) },
		func(b *mailbox.Box) { b.Put(numbered(5, 71), true); b.Put(numbered(5, 72), true) },
		func(b *mailbox.Box) { b.Take(); b.Put(numbered(2000, 73), false) },
		func(b *mailbox.Box) { b.Put(numbered(0, 74), false) }, // there is no room
		func(b *mailbox.Box) { b.Clear(); b.Put(numbered(1, 75), true) },
		func(b *mailbox.Box) {
			b.Cut(func(f api.Frame) bool { return f.Id == 4 })
			b.Put(numbered(4, 76), false)
		},
	}
	for k, act := range acts {
		one, want := some(t)
		two := one.Fork()
		if one == two {
			t.Fatal("it is the same one")
		}
		alike(t, two, want)
		three := two.Fork()
		act(two)
		alike(t, one, want)
		alike(t, three, want)
		act(one)
		alike(t, three, want)
		if !slices.Equal(told(one.All()), told(two.All())) || one.Lost() != two.Lost() {
			t.Fatal(k, "a Fork does otherwise")
		}
	}
	one, want := some(t) // both put into what may be one spare room
	one.Take()
	want.take()
	two, also := one.Fork(), want.fork()
	put(t, one, false, numbered(2000, 80))
	want.put(numbered(2000, 80), false)
	put(t, two, false, numbered(1999, 81))
	also.put(numbered(1999, 81), false)
	alike(t, one, want)
	alike(t, two, also)
}

// P9.2, P1: a nil mailbox is empty; its Fork is nil.
func TestNil(t *testing.T) {
	var b *mailbox.Box
	for _, safe := range []bool{false, true} {
		if e := b.Put(api.Frame{}, safe); e != api.ErrNil {
			t.Fatal(e)
		}
		if b.Len(safe) != 0 {
			t.Fatal("a nil mailbox has something")
		}
	}
	if f, there := b.Best(); there || f != (api.Frame{}) {
		t.Fatal(f)
	}
	if f, there := b.Take(); there || f != (api.Frame{}) {
		t.Fatal(f)
	}
	for range b.All() {
		t.Fatal("told")
	}
	if b.Cut(func(api.Frame) bool { t.Fatal("asked"); return true }) != 0 || b.Lost() != 0 || b.Fork() != nil {
		t.Fatal("a nil mailbox has something")
	}
	b.Clear()
}

// P1: nothing panics of a mailbox that no call made.
func TestNoCallMadeIt(t *testing.T) {
	var b mailbox.Box
	b.Put(api.Frame{}, true)
	b.Best()
	b.Take()
	for range b.All() {
	}
	b.Cut(func(api.Frame) bool { return true })
	b.Len(true)
	b.Lost()
	b.Fork().Put(api.Frame{}, false)
	b.Clear()
}
