package fifo_test

import (
	"iter"
	"math"
	"math/rand"
	"slices"
	"testing"

	"tripwire/fifo"
)

// The calls have just these signatures.
var (
	_ func(int) *fifo.Queue[int]                       = fifo.New[int]
	_ func(*fifo.Queue[string], ...string) int         = (*fifo.Queue[string]).Put
	_ func(*fifo.Queue[[]byte]) ([]byte, bool)         = (*fifo.Queue[[]byte]).Take
	_ func(*fifo.Queue[any]) (any, bool)               = (*fifo.Queue[any]).Peek
	_ func(*fifo.Queue[int]) int                       = (*fifo.Queue[int]).Len
	_ func(*fifo.Queue[int]) int                       = (*fifo.Queue[int]).Room
	_ func(*fifo.Queue[int]) int                       = (*fifo.Queue[int]).Lost
	_ func(*fifo.Queue[string]) iter.Seq2[int, string] = (*fifo.Queue[string]).All
	_ func(*fifo.Queue[int], func(int) bool) int       = (*fifo.Queue[int]).Drop
	_ func(*fifo.Queue[int])                           = (*fifo.Queue[int]).Clear
	_ func(*fifo.Queue[int]) *fifo.Queue[int]          = (*fifo.Queue[int]).Fork
)

// plain is what a queue should be, told without the package.
type plain struct {
	limit, lost int
	l           []int
}

func (p *plain) put(l ...int) int {
	n := 0
	for _, x := range l {
		if len(p.l) < p.limit {
			p.l = append(p.l, x)
			n++
		} else {
			p.lost++
		}
	}
	return n
}

func (p *plain) take() (int, bool) {
	if len(p.l) == 0 {
		return 0, false
	}
	x := p.l[0]
	p.l = slices.Clone(p.l[1:])
	return x, true
}

func (p *plain) drop(gone func(int) bool) int {
	n := len(p.l)
	p.l = slices.DeleteFunc(slices.Clone(p.l), gone)
	return n - len(p.l)
}

func (p *plain) fork() *plain {
	return &plain{p.limit, p.lost, slices.Clone(p.l)}
}

// things are a queue's, with their places looked at.
func things(t *testing.T, seq iter.Seq2[int, int]) []int {
	t.Helper()
	l := []int{}
	for i, x := range seq {
		if i != len(l) {
			t.Fatalf("the place %d is told as %d", len(l), i)
		}
		l = append(l, x)
	}
	return l
}

// alike: does the queue tell of itself what it should be?
func alike(t *testing.T, q *fifo.Queue[int], p *plain) {
	t.Helper()
	if got := things(t, q.All()); !slices.Equal(got, p.l) {
		t.Fatalf("All: %v, not %v", got, p.l)
	}
	if q.Len() != len(p.l) || q.Room() != p.limit-len(p.l) || q.Lost() != p.lost {
		t.Fatalf("Len %d, Room %d, Lost %d: not %d, %d, %d", q.Len(), q.Room(), q.Lost(), len(p.l), p.limit-len(p.l), p.lost)
	}
	x, there := q.Peek()
	if there != (len(p.l) > 0) || there && x != p.l[0] || !there && x != 0 {
		t.Fatalf("Peek: %d, %v of %v", x, there, p.l)
	}
	if q.Len() != len(p.l) {
		t.Fatal("Peek took it")
	}
}

// P7.1: an empty queue of the limit, or of the nearest one that may be.
func TestNew(t *testing.T) {
	limits := []struct{ limit, room int }{
		{math.MinInt, 0}, {math.MinInt32, 0}, {-65537, 0}, {-2, 0}, {-1, 0}, {0, 0}, {1, 1}, {2, 2}, {8, 8}, {255, 255},
		{65535, 65535}, {65536, 65536}, {65537, 65536}, {131072, 65536}, {math.MaxInt32, 65536}, {1<<32 + 1, 65536}, {math.MaxInt, 65536},
	}
	for _, c := range limits {
		q := fifo.New[int](c.limit)
		p := &plain{limit: c.room}
		alike(t, q, p)
		if x, there := q.Take(); there || x != 0 {
			t.Fatalf("New(%d): Take: %d, %v", c.limit, x, there)
		}
		l := make([]int, c.room+3)
		for i := range l {
			l[i] = i + 1
		}
		if n := q.Put(l...); n != c.room {
			t.Fatalf("New(%d): %d found room", c.limit, n)
		}
		p.put(l...)
		alike(t, q, p)
	}
}

// P7.1: what finds room stands at the end, the rest is lost.
func TestPut(t *testing.T) {
	for limit := range 6 {
		for ahead := range 8 {
			for more := range 8 {
				q, p := fifo.New[int](limit), &plain{limit: limit}
				for i := range ahead {
					if got, want := q.Put(100+i), p.put(100+i); got != want {
						t.Fatal(limit, ahead, got)
					}
				}
				l := []int{}
				for i := range more {
					l = append(l, 200+i)
				}
				if got, want := q.Put(l...), p.put(l...); got != want {
					t.Fatalf("Put(%v) behind %d of %d: %d, not %d", l, ahead, limit, got, want)
				}
				alike(t, q, p)
			}
		}
	}
	q := fifo.New[int](2)
	if q.Put() != 0 || q.Put([]int(nil)...) != 0 || q.Len() != 0 || q.Lost() != 0 {
		t.Fatal("nothing was put")
	}
}

// The document's example.
func TestExample(t *testing.T) {
	q := fifo.New[int](2)
	if n := q.Put(1, 2, 3); n != 2 || q.Lost() != 1 {
		t.Fatal(n, q.Lost())
	}
	if x, there := q.Take(); x != 1 || !there {
		t.Fatal(x, there)
	}
	if n := q.Put(4); n != 1 {
		t.Fatal(n)
	}
	alike(t, q, &plain{2, 1, []int{2, 4}})
}

// P7.1: taken is what came first; what is looked at stays.
func TestTakeAndPeek(t *testing.T) {
	q := fifo.New[int](3)
	for round := range 50 { // ahead of the end, at it, and behind it
		q.Put(round, round+1000)
		for range 3 {
			if x, there := q.Peek(); !there || x != round {
				t.Fatal(round, x, there)
			}
		}
		for i := range 2 {
			x, there := q.Peek()
			y, also := q.Take()
			if x != y || !there || !also || x != round+i*1000 || q.Len() != 1-i || q.Room() != 2+i {
				t.Fatal(round, i, x, y, there, also)
			}
		}
		for range 2 {
			if x, there := q.Take(); there || x != 0 {
				t.Fatal(x)
			}
			if x, there := q.Peek(); there || x != 0 {
				t.Fatal(x)
			}
		}
		alike(t, q, &plain{limit: 3})
	}
}

// P7.1, P7.2: whatever is done, one thing behind the other, a queue is what it should be; and so are its Forks (P4).
func TestAnything(t *testing.T) {
	r := rand.New(rand.NewSource(7))
	for round := range 300 {
		limit := r.Intn(12) - 1
		qs, ps := []*fifo.Queue[int]{fifo.New[int](limit)}, []*plain{{limit: max(limit, 0)}}
		for step := range 120 {
			k := r.Intn(len(qs))
			q, p := qs[k], ps[k]
			switch r.Intn(10) {
			case 0, 1, 2, 3:
				l := make([]int, r.Intn(5))
				for i := range l {
					l[i] = step*10 + i
				}
				if got, want := q.Put(l...), p.put(l...); got != want {
					t.Fatalf("round %d, step %d: Put: %d, not %d", round, step, got, want)
				}
			case 4, 5, 6:
				x, there := q.Take()
				if y, also := p.take(); x != y || there != also {
					t.Fatalf("round %d, step %d: Take: %d, %v, not %d, %v", round, step, x, there, y, also)
				}
			case 7:
				of, left := 1+r.Intn(4), r.Intn(3)
				gone := func(x int) bool { return x%of == left }
				if got, want := q.Drop(gone), p.drop(gone); got != want {
					t.Fatalf("round %d, step %d: Drop: %d, not %d", round, step, got, want)
				}
			case 8:
				if r.Intn(4) == 0 {
					q.Clear()
					p.l, p.lost = nil, 0
				}
			case 9:
				if len(qs) < 4 {
					qs, ps = append(qs, q.Fork()), append(ps, p.fork())
				}
			}
			for i := range qs {
				alike(t, qs[i], ps[i])
			}
		}
	}
}

// P7.3: what came is taken, dropped, there, or lost, each once; what is taken is taken in the order in which it came.
func TestEachOnce(t *testing.T) {
	r := rand.New(rand.NewSource(8))
	for range 200 {
		q := fifo.New[int](1 + r.Intn(9))
		found := map[int]int{}
		came, last, lost := 0, -1, 0
		for range 200 {
			switch r.Intn(5) {
			case 0, 1, 2:
				l := []int{}
				for range r.Intn(4) {
					l = append(l, came)
					came++
				}
				n := q.Put(l...)
				for _, x := range l[n:] {
					found[x]++
				}
				lost += len(l) - n
			case 3:
				if x, there := q.Take(); there {
					found[x]++
					if x <= last {
						t.Fatalf("%d is taken behind %d", x, last)
					}
					last = x
				}
			case 4:
				of := 2 + r.Intn(4)
				n := 0
				if went := q.Drop(func(x int) bool {
					if x%of != 0 {
						return false
					}
					found[x]++
					n++
					return true
				}); went != n {
					t.Fatalf("%d went, not %d", went, n)
				}
			}
			if q.Lost() != lost {
				t.Fatalf("lost: %d, not %d", q.Lost(), lost)
			}
		}
		for _, x := range q.All() {
			found[x]++
		}
		for x := range came {
			if found[x] != 1 {
				t.Fatalf("%d was found %d times", x, found[x])
			}
		}
	}
}

// full is a queue of some things, some of which have gone.
func full() (*fifo.Queue[int], []int) {
	q := fifo.New[int](6)
	q.Put(1, 2, 3, 4)
	q.Take()
	q.Take()
	q.Put(5, 6, 7, 8, 9)
	return q, []int{3, 4, 5, 6, 7, 8}
}

// P7.2: what becomes of the queue while it is ranged over plays no part.
func TestAllMeanwhile(t *testing.T) {
	acts := []func(q *fifo.Queue[int]){
		func(q *fifo.Queue[int]) { q.Take() },
		func(q *fifo.Queue[int]) { q.Put(50) },
		func(q *fifo.Queue[int]) { q.Take(); q.Put(51, 52) },
		func(q *fifo.Queue[int]) { q.Take(); q.Take(); q.Take(); q.Put(53, 54, 55) },
		func(q *fifo.Queue[int]) { q.Clear() },
		func(q *fifo.Queue[int]) { q.Clear(); q.Put(60, 61, 62, 63, 64, 65, 66) },
		func(q *fifo.Queue[int]) { q.Drop(func(x int) bool { return x%2 == 1 }); q.Put(70) },
		func(q *fifo.Queue[int]) { q.Drop(func(int) bool { return true }); q.Put(80, 81, 82) },
	}
	for k, act := range acts {
		for at := range 6 {
			q, want := full()
			got := []int{}
			for i, x := range q.All() {
				if i != len(got) {
					t.Fatal(k, at, i)
				}
				got = append(got, x)
				if i == at || at == 5 {
					act(q)
				}
			}
			if !slices.Equal(got, want) {
				t.Fatalf("act %d at %d: %v", k, at, got)
			}
		}
	}
}

// P7.2, P7: as it is when it is ranged over, not when All was called; as often, each time from the beginning; who stops has it told no more.
func TestAllAgain(t *testing.T) {
	q, want := full()
	seq := q.All()
	for range 3 {
		if got := things(t, seq); !slices.Equal(got, want) {
			t.Fatal(got)
		}
	}
	for stop := range want {
		told := 0
		seq(func(i, x int) bool {
			if i != told || x != want[i] {
				t.Fatal(i, x)
			}
			told++
			return told <= stop
		})
		if told != stop+1 {
			t.Fatalf("told %d times, not %d", told, stop+1)
		}
	}
	for i, x := range seq { // one within another
		if got := things(t, seq); !slices.Equal(got, want) || want[i] != x {
			t.Fatal(got, i, x)
		}
	}
	q.Take()
	q.Put(10)
	if got := things(t, seq); !slices.Equal(got, []int{4, 5, 6, 7, 8, 10}) {
		t.Fatal(got)
	}
	q.Clear()
	if got := things(t, seq); len(got) != 0 {
		t.Fatal(got)
	}
	q.Put(11)
	if got := things(t, seq); !slices.Equal(got, []int{11}) {
		t.Fatal(got)
	}
}

// P7.2: those go of which gone is true, the others stay in order; none of them is lost.
func TestDrop(t *testing.T) {
	for pick := range 1 << 6 {
		q, have := full()
		asked, stay := []int{}, []int{}
		for i, x := range have {
			if pick>>i&1 == 0 {
				stay = append(stay, x)
			}
		}
		n := q.Drop(func(x int) bool {
			asked = append(asked, x)
			if got := things(t, q.All()); q.Len() != 6 || !slices.Equal(got, have) { // it may look at the queue
				t.Fatal("the queue changes meanwhile", got)
			}
			return pick>>slices.Index(have, x)&1 == 1
		})
		if n != 6-len(stay) || !slices.Equal(asked, have) {
			t.Fatalf("%d went; asked were %v", n, asked)
		}
		alike(t, q, &plain{6, 1, stay})
		q.Put(20, 21, 22, 23, 24, 25)
		alike(t, q, &plain{6, 1 + len(stay), append(stay, 20, 21, 22, 23, 24, 25)[:6]})
	}
	empty := fifo.New[int](3)
	if n := empty.Drop(func(int) bool { t.Fatal("asked"); return true }); n != 0 {
		t.Fatal(n)
	}
}

// P7.2: all go, and what was lost is forgotten; the limit stays.
func TestClear(t *testing.T) {
	q, _ := full()
	q.Clear()
	alike(t, q, &plain{limit: 6})
	q.Clear()
	alike(t, q, &plain{limit: 6})
	if n := q.Put(1, 2, 3, 4, 5, 6, 7, 8); n != 6 {
		t.Fatal(n)
	}
	alike(t, q, &plain{6, 2, []int{1, 2, 3, 4, 5, 6}})
}

// P7.2, P4: a Fork stands alike, and what becomes of the one changes nothing of the other one.
func TestFork(t *testing.T) {
	acts := []func(q *fifo.Queue[int]){
		func(q *fifo.Queue[int]) { q.Take() },
		func(q *fifo.Queue[int]) { q.Put(50, 51) },
		func(q *fifo.Queue[int]) { q.Take(); q.Take(); q.Put(52) },
		func(q *fifo.Queue[int]) { q.Clear() },
		func(q *fifo.Queue[int]) { q.Clear(); q.Put(60, 61, 62) },
		func(q *fifo.Queue[int]) { q.Drop(func(x int) bool { return x%2 == 0 }); q.Put(70) },
	}
	for _, have := range []int{0, 1, 3, 5, 6} {
		for k, act := range acts {
			one := fifo.New[int](6)
			one.Put(1, 2)
			one.Take()
			one.Take()
			want := &plain{limit: 6}
			for i := range have { // one by one, so that there may be spare room behind
				one.Put(i)
				want.put(i)
			}
			if have == 6 {
				one.Put(9)
				want.put(9)
			}
			two := one.Fork()
			if one == two {
				t.Fatal("it is the same one")
			}
			alike(t, two, want)
			three := two.Fork()
			act(two)
			alike(t, one, want)
			alike(t, three, want)
			four := one.Fork()
			act(one)
			alike(t, four, want)
			if !slices.Equal(things(t, one.All()), things(t, two.All())) || one.Lost() != two.Lost() || one.Room() != two.Room() {
				t.Fatal(k, "a Fork does otherwise")
			}
		}
	}
	q, want := full() // both put into what may be one spare room
	two := q.Fork()
	q.Take()
	two.Take()
	q.Put(100)
	two.Put(200)
	alike(t, q, &plain{6, 1, append(slices.Clone(want[1:]), 100)})
	alike(t, two, &plain{6, 1, append(slices.Clone(want[1:]), 200)})
}

// P7.2, P1: a nil queue has no room, and loses nothing.
func TestNil(t *testing.T) {
	var q *fifo.Queue[string]
	if q.Put("a", "b") != 0 || q.Put() != 0 || q.Len() != 0 || q.Room() != 0 || q.Lost() != 0 {
		t.Fatal("a nil queue has something")
	}
	if s, there := q.Take(); s != "" || there {
		t.Fatal(s)
	}
	if s, there := q.Peek(); s != "" || there {
		t.Fatal(s)
	}
	for range q.All() {
		t.Fatal("told")
	}
	if q.Drop(func(string) bool { t.Fatal("asked"); return true }) != 0 || q.Fork() != nil {
		t.Fatal("a nil queue has something")
	}
	q.Clear()
}

// P1: nothing panics of a queue that no call made.
func TestNoCallMadeIt(t *testing.T) {
	var q fifo.Queue[int]
	q.Put(1, 2)
	q.Take()
	q.Peek()
	q.Len()
	q.Room()
	q.Lost()
	for range q.All() {
	}
	q.Drop(func(int) bool { return true })
	q.Fork().Put(3)
	q.Clear()
}

// P3: what is handed in stays as it is, the spare room behind it, too, and is not kept.
func TestHandedInStays(t *testing.T) {
	room := []int{1, 2, 3, 4, 5, 6, 7, 8}
	before := slices.Clone(room)
	for n := range len(room) + 1 {
		for limit := range 10 {
			q := fifo.New[int](limit)
			q.Put(room[:n]...)
			q.Put(50, 51)
			q.Take()
			q.Drop(func(x int) bool { return x == 2 })
			q.Put(52)
			if !slices.Equal(room, before) {
				t.Fatal("it was changed", room)
			}
			want := things(t, q.All())
			for i := range room {
				room[i] = 99
			}
			if got := things(t, q.All()); !slices.Equal(got, want) {
				t.Fatal("it was kept", got)
			}
			copy(room, before)
		}
	}
}

// thing is of no ordered kind, and not even to be compared.
type thing struct {
	name string
	list []int
	run  func() int
}

// Things are of any kind.
func TestAnyKind(t *testing.T) {
	q := fifo.New[thing](2)
	if n := q.Put(thing{name: "a", list: []int{1}}, thing{name: "b", run: func() int { return 7 }}, thing{}); n != 2 {
		t.Fatal(n)
	}
	if x, there := q.Take(); !there || x.name != "a" || x.list[0] != 1 || x.run != nil {
		t.Fatal(x.name)
	}
	if x, there := q.Take(); !there || x.run() != 7 {
		t.Fatal(x.name)
	}
	if x, there := q.Take(); there || x.name != "" || x.list != nil || x.run != nil {
		t.Fatal(x.name)
	}
	a := fifo.New[any](3)
	a.Put(nil, 5, "x")
	if x, there := a.Take(); x != nil || !there { // nil is a thing, too
		t.Fatal(x, there)
	}
	if n := a.Drop(func(x any) bool { return x == "x" }); n != 1 || a.Len() != 1 {
		t.Fatal(n)
	}
	n := 5
	p := fifo.New[*int](1)
	p.Put(&n)
	if x, there := p.Fork().Peek(); x != &n || !there {
		t.Fatal(x)
	}
	e := fifo.New[struct{}](2)
	if e.Put(struct{}{}, struct{}{}, struct{}{}) != 2 || e.Len() != 2 || e.Lost() != 1 {
		t.Fatal("things without bytes")
	}
}

// P1, the bound: many things, and a queue that is never empty for long.
func TestMany(t *testing.T) {
	l := make([]int, 1<<20)
	for i := range l {
		l[i] = i
	}
	q := fifo.New[int](math.MaxInt)
	if q.Put(l...) != 65536 || q.Lost() != 1<<20-65536 || q.Put(l...) != 0 || q.Lost() != 1<<21-65536 {
		t.Fatal(q.Len(), q.Lost())
	}
	for i := range 1 << 20 {
		x, there := q.Take()
		if want := (i % 65536); x != want || !there {
			t.Fatalf("%d is taken, not %d", x, want)
		}
		if q.Put(x) != 1 {
			t.Fatal("there was room")
		}
	}
	for i := range 65536 {
		if x, _ := q.Take(); x != i {
			t.Fatal(x)
		}
	}
	if _, there := q.Take(); there || q.Room() != 65536 {
		t.Fatal("all were taken")
	}
}
