package arb_test

import (
	"iter"
	"math"
	"math/rand"
	"slices"
	"testing"

	"tripwire/api"
	"tripwire/arb"
	"tripwire/mailbox"
)

// The calls have just these signatures.
var (
	_ func(...api.Frame) iter.Seq2[int, []int] = arb.Rounds
	_ func(...api.Frame) []int                 = arb.Left
	_ func(...*mailbox.Box) int                = arb.Pick
	_ func(...*mailbox.Box) (api.Sent, bool)   = arb.Step
	_ func(...*mailbox.Box) []api.Sent         = arb.Drain
	_ func(int, ...*mailbox.Box) int           = arb.Wait
)

// may: may a frame be? Of those here the bytes are all 0, or just those of its Len are not.
func may(f api.Frame) bool {
	return 0 <= f.Id && f.Id <= 2047 && 0 <= f.Len && f.Len <= 8 && f.Data == [8]byte{}
}

// sent is the 12 bits that a frame sends, as a text.
func sent(f api.Frame) string {
	s := ""
	for bit := 10; bit >= 0; bit-- {
		s += string(rune('0' + f.Id>>bit&1))
	}
	if f.Rtr {
		return s + "1"
	}
	return s + "0"
}

// leftBehind is who should be left behind a bit: those that have sent the least of what all have sent up to it.
func leftBehind(bit int, l []api.Frame) []int {
	left, least := []int{}, ""
	for i, f := range l {
		if !may(f) {
			continue
		}
		s := sent(f)[:bit+1]
		if len(left) == 0 || s < least {
			left, least = []int{}, s
		}
		if s == least {
			left = append(left, i)
		}
	}
	return left
}

// told is all rounds, their bits looked at.
func told(t *testing.T, seq iter.Seq2[int, []int]) [][]int {
	t.Helper()
	l := [][]int{}
	for bit, left := range seq {
		if bit != len(l) {
			t.Fatalf("the bit %d is told as %d", len(l), bit)
		}
		l = append(l, left)
	}
	if len(l) != 12 {
		t.Fatalf("%d bits", len(l))
	}
	return l
}

// look holds the rounds of frames against what they should be.
func look(t *testing.T, l []api.Frame) {
	t.Helper()
	for bit, left := range told(t, arb.Rounds(l...)) {
		if want := leftBehind(bit, l); !slices.Equal(left, want) {
			t.Fatalf("behind the bit %d of %v: %v, not %v", bit, l, left, want)
		}
	}
	if got, want := arb.Left(l...), leftBehind(11, l); !slices.Equal(got, want) {
		t.Fatalf("of %v: %v are left, not %v", l, got, want)
	}
}

// The document's example.
func TestExample(t *testing.T) {
	l := []api.Frame{{Id: 0x100}, {Id: 0x0ff}, {Id: 0x0ff, Rtr: true}}
	rounds := told(t, arb.Rounds(l...))
	for bit, left := range rounds {
		want := []int{1, 2}
		if bit < 2 {
			want = []int{0, 1, 2}
		}
		if bit == 11 {
			want = []int{1}
		}
		if !slices.Equal(left, want) {
			t.Fatalf("behind the bit %d: %v", bit, left)
		}
	}
	if left := arb.Left(l...); !slices.Equal(left, []int{1}) {
		t.Fatal(left)
	}
}

// P10.1: each bit decides, Rtr as the last one; of all pairs that are unlike in one bit, and of some others.
func TestTwo(t *testing.T) {
	ids := []int{0, 1, 2, 3, 0x0ff, 0x100, 0x101, 0x155, 0x2aa, 0x3ff, 0x400, 0x401, 0x554, 0x7fe, 0x7ff}
	for _, id := range ids {
		for bit := range 11 {
			ids := []int{id, id ^ 1<<bit}
			for k := range 4 {
				look(t, []api.Frame{{Id: ids[0], Rtr: k&1 != 0}, {Id: ids[1], Rtr: k&2 != 0}})
			}
		}
		for _, other := range ids {
			for k := range 4 {
				look(t, []api.Frame{{Id: id, Rtr: k&1 != 0, Len: 3}, {Id: other, Rtr: k&2 != 0}})
			}
		}
	}
}

// P10.1, P10.3: of each single frame that may be; of none; of none that may be.
func TestOneAndNone(t *testing.T) {
	for id := range 2048 {
		look(t, []api.Frame{{Id: id}})
		look(t, []api.Frame{{Id: id, Rtr: true}})
	}
	for _, l := range [][]api.Frame{nil, {}, {{Id: -1}}, {{Id: 2048}, {Len: 9}, {Data: [8]byte{1}}}} {
		for bit, left := range told(t, arb.Rounds(l...)) {
			if len(left) != 0 {
				t.Fatal(bit, left)
			}
		}
		if left := arb.Left(l...); len(left) != 0 {
			t.Fatal(left)
		}
	}
}

// P10.1: frames that may not be take no part: they drown nobody, and are never left; the others keep their places.
func TestWrongFrames(t *testing.T) {
	wrong := []api.Frame{
		{Id: -1}, {Id: 2048}, {Id: math.MinInt}, {Id: math.MaxInt}, {Id: 1 << 11}, {Id: -2048}, {Len: -1}, {Len: 9},
		{Len: math.MaxInt}, {Len: math.MinInt, Rtr: true}, {Data: [8]byte{7: 1}}, {Rtr: true, Len: 8, Data: [8]byte{1}},
	}
	for _, w := range wrong {
		look(t, []api.Frame{w})
		look(t, []api.Frame{w, {Id: 2047, Rtr: true}})
		look(t, []api.Frame{{Id: 2047, Rtr: true}, w})
		look(t, []api.Frame{{Id: 5}, w, {Id: 4}, w, {Id: 4}, {Id: 4, Rtr: true}, w})
	}
	look(t, wrong)
	look(t, append(slices.Clone(wrong), api.Frame{Id: 1024}))
}

// P10.1, P10.3: of many frames, those that have the least rank are left, and all of them.
func TestMany(t *testing.T) {
	r := rand.New(rand.NewSource(11))
	for range 2000 {
		span := 1 << r.Intn(12)
		l := make([]api.Frame, r.Intn(20))
		for i := range l {
			l[i] = api.Frame{Id: r.Intn(span), Rtr: r.Intn(2) == 0, Len: r.Intn(9)}
			if r.Intn(6) == 0 {
				l[i].Id -= 2048
			}
		}
		look(t, l)
	}
	l := make([]api.Frame, 1<<16)
	for i := range l {
		l[i] = api.Frame{Id: 7 + i%9, Rtr: i%2 == 0}
	}
	look(t, l)
}

// P3: frames that are handed in stay as they are, and are not kept; no list that is told lies in another one.
func TestRoundsLists(t *testing.T) {
	room := []api.Frame{{Id: 6}, {Id: 4}, {Id: 4}, {Id: 4, Rtr: true}, {Id: 0}, {Id: 0}}
	before := slices.Clone(room)
	want := told(t, arb.Rounds(slices.Clone(room[:4])...))
	seq := arb.Rounds(room[:4]...)
	left := arb.Left(room[:4]...)
	if !slices.Equal(room, before) {
		t.Fatal("it was changed", room)
	}
	for i := range room {
		room[i] = api.Frame{Id: i}
	}
	got := told(t, seq)
	for bit := range want {
		if !slices.Equal(got[bit], want[bit]) {
			t.Fatal("it was kept", got)
		}
	}
	if !slices.Equal(left, []int{1, 2}) {
		t.Fatal(left)
	}
	for range 2 { // who spoils what he was told spoils nothing else, spare room behind the ends too
		got = got[:0]
		for bit, now := range seq {
			if !slices.Equal(now, want[bit]) {
				t.Fatalf("behind the bit %d: %v, not %v", bit, now, want[bit])
			}
			for i := range got {
				if slices.ContainsFunc(got[i], func(x int) bool { return x != -7 }) {
					t.Fatal("a list lies in another one", got)
				}
			}
			now = append(now, -7)
			for i := range now {
				now[i] = -7
			}
			got = append(got, now)
		}
	}
}

// P7: told as often as they are ranged over, each time from the first bit; who stops has it told no more.
func TestRoundsAgain(t *testing.T) {
	seq := arb.Rounds(api.Frame{Id: 3}, api.Frame{Id: 2}, api.Frame{Id: 2, Rtr: true})
	want := told(t, seq)
	for stop := range 12 {
		n := 0
		seq(func(bit int, left []int) bool {
			if bit != n || !slices.Equal(left, want[n]) {
				t.Fatal(bit, left)
			}
			n++
			return n <= stop
		})
		if n != stop+1 {
			t.Fatalf("told %d times, not %d", n, stop+1)
		}
	}
	for bit, left := range seq { // one within another
		inner := told(t, seq)
		if !slices.Equal(left, want[bit]) || !slices.EqualFunc(inner, want, slices.Equal) {
			t.Fatal(bit, left, inner)
		}
	}
}

// box is a mailbox with some frames, one behind the other in the safe part and in the plain one.
func box(t *testing.T, l ...api.Frame) *mailbox.Box {
	t.Helper()
	b := mailbox.New()
	for i, f := range l {
		if e := b.Put(f, i%2 == 0); e != api.OK {
			t.Fatal(e)
		}
	}
	return b
}

// frame is a frame with a number in its bytes, so that it is known among those of its rank.
func frame(id, n int) api.Frame {
	return api.Frame{Id: id, Len: 3, Data: [8]byte{byte(n), byte(n >> 8), 1}}
}

// plain is what waits at each node, told without the packages, in the order in which it came.
type plain [][]api.Frame

// wins: is a frame sent ahead of another one, when both are sent at once?
func wins(a, b api.Frame) bool {
	return a.Id < b.Id || a.Id == b.Id && !a.Rtr && b.Rtr
}

// best is the place of a node's best frame.
func (p plain) best(node int) int {
	at := -1
	for i, f := range p[node] {
		if at < 0 || wins(f, p[node][at]) {
			at = i
		}
	}
	return at
}

// pick is the node of which the bus should take a frame.
func (p plain) pick() int {
	node := -1
	for i := range p {
		at := p.best(i)
		if at >= 0 && (node < 0 || wins(p[i][at], p[node][p.best(node)])) {
			node = i
		}
	}
	return node
}

func (p plain) step() (api.Sent, bool) {
	node := p.pick()
	if node < 0 {
		return api.Sent{}, false
	}
	at := p.best(node)
	f := p[node][at]
	p[node] = slices.Delete(slices.Clone(p[node]), at, at+1)
	return api.Sent{From: node, Frame: f}, true
}

func (p plain) drain() []api.Sent {
	rest, l := slices.Clone(p), []api.Sent{}
	for s, there := rest.step(); there; s, there = rest.step() {
		l = append(l, s)
	}
	return l
}

// ahead is how many frames of what is drained go ahead of a node's best one.
func ahead(node int, drained []api.Sent) int {
	return slices.IndexFunc(drained, func(s api.Sent) bool { return s.From == node })
}

// forks are mailboxes that stand alike.
func forks(boxes []*mailbox.Box) []*mailbox.Box {
	l := []*mailbox.Box{}
	for _, b := range boxes {
		l = append(l, b.Fork())
	}
	return l
}

// holds is all that a mailbox tells of itself.
type holds struct {
	frames []api.Frame
	safe   []bool
	lost   int
}

func holding(b *mailbox.Box) holds {
	h := holds{lost: b.Lost()}
	for f, safe := range b.All() {
		h.frames, h.safe = append(h.frames, f), append(h.safe, safe)
	}
	return h
}

// standAlike: do mailboxes stand alike, one by one?
func standAlike(a, b []*mailbox.Box) bool {
	return slices.EqualFunc(a, b, func(x, y *mailbox.Box) bool {
		one, two := holding(x), holding(y)
		return slices.Equal(one.frames, two.frames) && slices.Equal(one.safe, two.safe) && one.lost == two.lost && (x == nil) == (y == nil)
	})
}

// some are mailboxes of some nodes, empty ones and such as are nil among them.
func some(r *rand.Rand) ([]*mailbox.Box, plain) {
	boxes := make([]*mailbox.Box, r.Intn(18))
	p := make(plain, len(boxes))
	span := 1 + r.Intn(40)
	for i := range boxes {
		if r.Intn(5) == 0 {
			continue
		}
		boxes[i] = mailbox.New()
		for n := range r.Intn(20) {
			f := frame(r.Intn(span), i<<8|n)
			if r.Intn(3) == 0 {
				f = api.Frame{Id: r.Intn(span), Rtr: true, Len: r.Intn(9)}
			}
			if boxes[i].Put(f, r.Intn(2) == 0) == api.OK {
				p[i] = append(p[i], f)
			}
		}
	}
	return boxes, p
}

// P10.2: Pick, Drain and Wait tell what the bus takes, and leave the mailboxes as they are; Step takes it.
func TestBus(t *testing.T) {
	r := rand.New(rand.NewSource(12))
	for range 300 {
		boxes, p := some(r)
		for {
			before := forks(boxes)
			drained := p.drain()
			if got := arb.Drain(boxes...); !slices.Equal(got, drained) {
				t.Fatalf("Drain: %v, not %v", got, drained)
			}
			for node := range len(boxes) + 4 {
				if got, want := arb.Wait(node-2, boxes...), ahead(node-2, drained); got != want {
					t.Fatalf("Wait(%d): %d, not %d", node-2, got, want)
				}
			}
			if got, want := arb.Pick(boxes...), p.pick(); got != want {
				t.Fatalf("Pick: %d, not %d", got, want)
			}
			if !standAlike(boxes, before) {
				t.Fatal("the mailboxes are not as they were")
			}
			for range 1 + r.Intn(30) {
				before := forks(boxes)
				got, there := arb.Step(boxes...)
				want, also := p.step()
				if got != want || there != also {
					t.Fatalf("Step: %v, %v, not %v, %v", got, there, want, also)
				}
				if there {
					before[got.From].Take() // of that node alone the best one
				}
				if !standAlike(boxes, before) {
					t.Fatal("something else was taken")
				}
			}
			if p.pick() < 0 {
				break
			}
		}
		if s, there := arb.Step(boxes...); there || s != (api.Sent{}) {
			t.Fatal(s)
		}
	}
}

// P10.2: the first node of those that are left, whichever parts the frames stand in, and whatever else they have.
func TestFirstNode(t *testing.T) {
	for k := range 1 << 6 {
		boxes, want := []*mailbox.Box{}, -1
		for i := range 6 {
			b := mailbox.New()
			if k>>i&1 == 1 {
				b.Put(frame(0x181, i), i%2 == 0)
				if want < 0 {
					want = i
				}
			}
			b.Put(api.Frame{Id: 0x181, Rtr: true}, true)
			b.Put(frame(0x182+i, i), false)
			boxes = append(boxes, b)
		}
		if want < 0 {
			want = 0
		}
		if got := arb.Pick(boxes...); got != want {
			t.Fatalf("%b: %d, not %d", k, got, want)
		}
		s, there := arb.Step(boxes...)
		if !there || s.From != want || s.Frame.Id != 0x181 || s.Frame.Rtr != (k == 0) {
			t.Fatalf("%b: %v", k, s)
		}
	}
}

// P10.2: the edges: no nodes, nodes that have nothing, no such node.
func TestNothing(t *testing.T) {
	var none *mailbox.Box
	for _, boxes := range [][]*mailbox.Box{nil, {}, {nil}, {none, mailbox.New(), nil}, {mailbox.New(), mailbox.New()}} {
		if arb.Pick(boxes...) != -1 || len(arb.Drain(boxes...)) != 0 {
			t.Fatal(len(boxes))
		}
		if s, there := arb.Step(boxes...); there || s != (api.Sent{}) {
			t.Fatal(s)
		}
		for _, place := range []int{math.MinInt, -1, 0, 1, 2, 3, math.MaxInt} {
			if n := arb.Wait(place, boxes...); n != -1 {
				t.Fatal(place, n)
			}
		}
	}
	boxes := []*mailbox.Box{nil, box(t, api.Frame{}), mailbox.New()} // the least frame of all is one, too
	for place, want := range []int{-1, 0, -1, -1} {
		if n := arb.Wait(place, boxes...); n != want {
			t.Fatal(place, n)
		}
	}
	for _, place := range []int{math.MinInt, -1, 4, 1 << 32, math.MaxInt} {
		if n := arb.Wait(place, boxes...); n != -1 {
			t.Fatal(place, n)
		}
	}
	if s, there := arb.Step(boxes...); !there || s != (api.Sent{From: 1}) {
		t.Fatal(s)
	}
}

// P10.2, P10.4: ahead of a node's best frame go those of a lesser rank, and those of its own rank of nodes ahead.
func TestWait(t *testing.T) {
	boxes := []*mailbox.Box{
		box(t, frame(5, 1), frame(5, 2), frame(9, 3)),
		box(t, frame(5, 4), frame(4, 5)),
		box(t, frame(5, 6), api.Frame{Id: 5, Rtr: true}),
		box(t, api.Frame{Id: 5, Rtr: true}, frame(6, 7)),
		box(t, frame(2047, 8)),
	}
	for place, want := range []int{1, 0, 4, 6, 9} {
		if n := arb.Wait(place, boxes...); n != want {
			t.Fatalf("Wait(%d): %d, not %d", place, n, want)
		}
	}
	l := arb.Drain(boxes...)
	for place := range boxes {
		n := arb.Wait(place, boxes...)
		if best, _ := boxes[place].Best(); l[n] != (api.Sent{From: place, Frame: best}) {
			t.Fatal(place, n, l[n])
		}
	}
}

// P10.4: in the order of ranks, each frame once.
func TestDrainOrder(t *testing.T) {
	r := rand.New(rand.NewSource(13))
	for range 300 {
		boxes, p := some(r)
		l := arb.Drain(boxes...)
		for i := 1; i < len(l); i++ {
			if wins(l[i].Frame, l[i-1].Frame) {
				t.Fatalf("%v waits for %v", l[i], l[i-1])
			}
		}
		for node := range p {
			own := []api.Frame{}
			for _, s := range l {
				if s.From == node {
					own = append(own, s.Frame)
				}
			}
			if !slices.Equal(own, holding(boxes[node]).frames) && len(own)+len(p[node]) > 0 {
				t.Fatalf("of the node %d: %v", node, own)
			}
		}
	}
}

// P10.4: a mailbox that is handed in twice has its frames taken once, under the first of its places.
func TestSameMailboxTwice(t *testing.T) {
	one, two := box(t, frame(7, 1), frame(3, 2), frame(5, 3)), box(t, frame(4, 4), frame(8, 5))
	boxes := []*mailbox.Box{nil, one, two, one, nil, two}
	want := []api.Sent{{From: 1, Frame: frame(3, 2)}, {From: 2, Frame: frame(4, 4)}, {From: 1, Frame: frame(5, 3)}, {From: 1, Frame: frame(7, 1)}, {From: 2, Frame: frame(8, 5)}}
	if got := arb.Drain(boxes...); !slices.Equal(got, want) {
		t.Fatal(got)
	}
	for place, n := range []int{-1, 0, 1, 0, -1, 1} {
		if got := arb.Wait(place, boxes...); got != n {
			t.Fatalf("Wait(%d): %d, not %d", place, got, n)
		}
	}
	for _, w := range want {
		if got, there := arb.Step(boxes...); got != w || !there {
			t.Fatal(got, there)
		}
	}
	if s, there := arb.Step(boxes...); there {
		t.Fatal(s)
	}
}

// P3: the list of mailboxes stays as it is, spare room too; what is drained is new memory.
func TestBusLists(t *testing.T) {
	boxes := []*mailbox.Box{nil, box(t, frame(2, 1)), box(t, frame(1, 2), frame(3, 3)), box(t, frame(0, 4)), nil}
	before, stood := slices.Clone(boxes), forks(boxes)
	l := arb.Drain(boxes[:3]...)
	want := slices.Clone(l)
	arb.Pick(boxes[:3]...)
	arb.Wait(1, boxes[:3]...)
	if !slices.Equal(boxes, before) || !standAlike(boxes, stood) {
		t.Fatal("it was changed")
	}
	for i := range l {
		l[i] = api.Sent{From: 99}
	}
	if got := arb.Drain(boxes[:3]...); !slices.Equal(got, want) || !standAlike(boxes, stood) {
		t.Fatal(got)
	}
	arb.Step(boxes[:3]...)
	if !slices.Equal(boxes, before) || boxes[2].Len(true)+boxes[2].Len(false) != 1 || boxes[3].Len(true) != 1 {
		t.Fatal("Step changed the list, or took something else")
	}
	if !slices.Equal(l, []api.Sent{{From: 99}, {From: 99}, {From: 99}}) {
		t.Fatal("what was answered has changed", l)
	}
}
