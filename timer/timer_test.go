package timer_test

import (
	"cmp"
	"iter"
	"math"
	"math/rand"
	"slices"
	"testing"

	"tripwire/timer"
)

// The calls have just these signatures.
var (
	_ func() *timer.Timers[string]                       = timer.New[string]
	_ func(*timer.Timers[int8], int8, int)               = (*timer.Timers[int8]).Set
	_ func(*timer.Timers[string], string) bool           = (*timer.Timers[string]).Stop
	_ func(*timer.Timers[float64], float64) (int, bool)  = (*timer.Timers[float64]).When
	_ func(*timer.Timers[string]) (int, bool)            = (*timer.Timers[string]).Next
	_ func(*timer.Timers[uintptr], int) []uintptr        = (*timer.Timers[uintptr]).Take
	_ func(*timer.Timers[string]) iter.Seq2[string, int] = (*timer.Timers[string]).All
	_ func(*timer.Timers[string]) int                    = (*timer.Timers[string]).Len
	_ func(*timer.Timers[string]) *timer.Timers[string]  = (*timer.Timers[string]).Fork
	_ func(int, int, int) (int, bool)                    = timer.Every
)

// due is a key, and its tick.
type due[K cmp.Ordered] struct {
	k  K
	at int
}

// plain is what timers should be, told without the package: keys with their ticks, in no order.
type plain[K cmp.Ordered] struct{ l []due[K] }

func (p *plain[K]) place(k K) int {
	return slices.IndexFunc(p.l, func(d due[K]) bool { return d.k == k })
}

func (p *plain[K]) stop(k K) bool {
	i := p.place(k)
	if i < 0 {
		return false
	}
	p.l[i] = p.l[len(p.l)-1]
	p.l = p.l[:len(p.l)-1]
	return true
}

func (p *plain[K]) set(k K, at int) {
	p.stop(k)
	p.l = append(p.l, due[K]{k, at})
}

// all is all, in order: each time the least one of those that are left.
func (p *plain[K]) all() []due[K] {
	rest, l := slices.Clone(p.l), []due[K]{}
	for len(rest) > 0 {
		best := 0
		for i, d := range rest {
			if d.at < rest[best].at || d.at == rest[best].at && d.k < rest[best].k {
				best = i
			}
		}
		l = append(l, rest[best])
		rest = slices.Delete(rest, best, best+1)
	}
	return l
}

func (p *plain[K]) take(now int) []K {
	keys := []K{}
	for _, d := range p.all() {
		if d.at <= now {
			keys = append(keys, d.k)
			p.stop(d.k)
		}
	}
	return keys
}

func (p *plain[K]) fork() *plain[K] { return &plain[K]{slices.Clone(p.l)} }

// told is all that is told.
func told[K cmp.Ordered](seq iter.Seq2[K, int]) []due[K] {
	l := []due[K]{}
	for k, at := range seq {
		l = append(l, due[K]{k, at})
	}
	return l
}

// alike: do the timers tell of themselves what they should be?
func alike[K cmp.Ordered](t *testing.T, x *timer.Timers[K], p *plain[K]) {
	t.Helper()
	want := p.all()
	if got := told(x.All()); !slices.Equal(got, want) {
		t.Fatalf("All: %v, not %v", got, want)
	}
	if x.Len() != len(want) {
		t.Fatalf("Len: %d, not %d", x.Len(), len(want))
	}
	at, there := x.Next()
	if there != (len(want) > 0) || there && at != want[0].at || !there && at != 0 {
		t.Fatalf("Next: %d, %v of %v", at, there, want)
	}
	for _, d := range want {
		if at, there := x.When(d.k); at != d.at || !there {
			t.Fatalf("When(%v): %d, %v, not %d", d.k, at, there, d.at)
		}
	}
}

// The document's examples.
func TestExample(t *testing.T) {
	x := timer.New[string]()
	x.Set("b", 5)
	x.Set("a", 5)
	x.Set("c", 3)
	if got := told(x.All()); !slices.Equal(got, []due[string]{{"c", 3}, {"a", 5}, {"b", 5}}) {
		t.Fatal(got)
	}
	if got := x.Take(5); !slices.Equal(got, []string{"c", "a", "b"}) {
		t.Fatal(got)
	}
	if got, there := timer.Every(2, 3, 5); got != 8 || !there {
		t.Fatal(got, there)
	}
}

// P12.1: none are due.
func TestNew(t *testing.T) {
	x := timer.New[int]()
	if x == nil || x == timer.New[int]() {
		t.Fatal("New")
	}
	for range 2 {
		alike(t, x, &plain[int]{})
		if at, there := x.When(0); at != 0 || there {
			t.Fatal(at, there)
		}
		if x.Stop(0) || len(x.Take(math.MaxInt)) != 0 {
			t.Fatal("none are due")
		}
	}
}

// P12.1: a key is due at one tick alone, the one that was set last.
func TestSet(t *testing.T) {
	for first := range 6 {
		for second := range 6 {
			x, p := timer.New[int](), &plain[int]{}
			for k := range 5 {
				x.Set(k, k)
				p.set(k, k)
			}
			x.Set(2, first)
			p.set(2, first)
			alike(t, x, p)
			x.Set(2, second)
			p.set(2, second)
			alike(t, x, p)
			n := 0
			for now := range 7 {
				got, want := x.Take(now), p.take(now)
				if !slices.Equal(got, want) {
					t.Fatal(got, want)
				}
				if slices.Contains(got, 2) {
					n++
					if now != second {
						t.Fatal(now, second)
					}
				}
			}
			if n != 1 {
				t.Fatal(n)
			}
		}
	}
}

// P12.1: ticks of any size stand in their order.
func TestTicks(t *testing.T) {
	ticks := []int{math.MinInt, math.MinInt + 1, -1, 0, 1, math.MaxInt32, math.MaxInt32 + 1, math.MaxInt - 1, math.MaxInt}
	for _, one := range ticks {
		for _, two := range ticks {
			for _, now := range ticks {
				x, p := timer.New[string](), &plain[string]{}
				x.Set("one", one)
				x.Set("two", two)
				p.set("one", one)
				p.set("two", two)
				alike(t, x, p)
				if got, want := x.Take(now), p.take(now); !slices.Equal(got, want) {
					t.Fatal(one, two, now, got)
				}
				alike(t, x, p)
			}
		}
	}
}

// P12.1: Stop of what is due, and of what is not; it says which it was.
func TestStop(t *testing.T) {
	for pick := range 1 << 6 {
		x, p := timer.New[int](), &plain[int]{}
		for k := range 6 {
			x.Set(2*k, k%3)
			p.set(2*k, k%3)
		}
		for k := range 6 {
			if pick>>k&1 == 0 {
				continue
			}
			if !x.Stop(2*k) || !p.stop(2*k) {
				t.Fatal(k)
			}
			if at, there := x.When(2 * k); at != 0 || there {
				t.Fatal(at, there)
			}
			if x.Stop(2*k) || x.Stop(2*k+1) || x.Stop(-1) {
				t.Fatal("it is not due")
			}
			alike(t, x, p)
		}
		if got, want := x.Take(1), p.take(1); !slices.Equal(got, want) {
			t.Fatal(got, want)
		}
		alike(t, x, p)
		for k := range 6 { // what was taken is due no more
			if got, want := x.Stop(2*k), p.stop(2*k); got != want {
				t.Fatal(k, got)
			}
		}
		alike(t, x, &plain[int]{})
	}
}

// P12.1: Take takes those whose ticks are not above now, and no others.
func TestTake(t *testing.T) {
	for now := -1; now < 8; now++ {
		x, p := some()
		got, want := x.Take(now), p.take(now)
		if !slices.Equal(got, want) {
			t.Fatal(now, got, want)
		}
		alike(t, x, p)
		for _, k := range got {
			if at, there := x.When(k); at != 0 || there || x.Stop(k) {
				t.Fatal(k, at, there)
			}
		}
		if again := x.Take(now); len(again) != 0 {
			t.Fatal(again)
		}
		x.Set("m", now) // behind now it is due at once
		p.set("m", now)
		alike(t, x, p)
		if got, want := x.Take(now), p.take(now); !slices.Equal(got, want) {
			t.Fatal(got, want)
		}
	}
}

// some are timers, of which several have one tick.
func some() (*timer.Timers[string], *plain[string]) {
	x, p := timer.New[string](), &plain[string]{}
	for i, k := range []string{"m", "a", "zz", "", "z", "b", "\xff", "é", "A"} {
		x.Set(k, (i*5+3)%7)
		p.set(k, (i*5+3)%7)
	}
	x.Set("b", 3)
	p.set("b", 3)
	return x, p
}

// try does some things with timers of a kind of keys, chosen by chance.
func try[K cmp.Ordered](t *testing.T, r *rand.Rand, keys ...K) {
	t.Helper()
	xs, ps := []*timer.Timers[K]{timer.New[K]()}, []*plain[K]{{}}
	for range 200 {
		i, k, at := r.Intn(len(xs)), keys[r.Intn(len(keys))], r.Intn(12)
		x, p := xs[i], ps[i]
		switch r.Intn(6) {
		case 0, 1:
			x.Set(k, at)
			p.set(k, at)
		case 2:
			if got, want := x.Stop(k), p.stop(k); got != want {
				t.Fatalf("Stop(%v): %v", k, got)
			}
		case 3:
			got, there := x.When(k)
			if there != (p.place(k) >= 0) || there && got != p.l[p.place(k)].at || !there && got != 0 {
				t.Fatalf("When(%v): %d, %v", k, got, there)
			}
		case 4:
			if got, want := x.Take(at/3), p.take(at/3); !slices.Equal(got, want) {
				t.Fatalf("Take(%d): %v, not %v", at/3, got, want)
			}
		case 5:
			if len(xs) < 4 {
				xs, ps = append(xs, x.Fork()), append(ps, p.fork())
			}
		}
		for i := range xs {
			alike(t, xs[i], ps[i])
		}
	}
}

type named string

// P12.1, P12.2: whatever is done to timers of many kinds of keys.
func TestRandom(t *testing.T) {
	r := rand.New(rand.NewSource(12))
	for range 20 {
		try(t, r, 0, 1, -1, math.MaxInt, math.MinInt, 7, 8)
		try(t, r, uint8(0), 255, 3, 4, 128)
		try(t, r, int64(math.MinInt64), math.MaxInt64, 0)
		try(t, r, "", "a", "b", "ab", "\x00", "\xff", "é")
		try(t, r, named("x"), "y", "")
		try(t, r, 0.0, 1.5, -2, math.Inf(1), math.Inf(-1), math.SmallestNonzeroFloat64)
		try(t, r, uintptr(1), 2, 3)
	}
}

// A key that is not equal to itself is never due; floats that are equal are one key.
func TestFloats(t *testing.T) {
	x, p := timer.New[float64](), &plain[float64]{}
	nan := math.NaN()
	for range 3 {
		x.Set(nan, 4)
		alike(t, x, p)
		if at, there := x.When(nan); at != 0 || there || x.Stop(nan) {
			t.Fatal(at, there)
		}
		x.Set(2, 4)
		p.set(2, 4)
	}
	if got := x.Take(9); !slices.Equal(got, []float64{2}) {
		t.Fatal(got)
	}
	x.Set(0, 4)
	x.Set(math.Copysign(0, -1), 6)
	if at, there := x.When(0); at != 6 || !there || x.Len() != 1 {
		t.Fatal(at, there, x.Len())
	}
	if got := x.Take(5); len(got) != 0 {
		t.Fatal(got)
	}
	if !x.Stop(0) || x.Len() != 0 {
		t.Fatal("0 and -0 are one key")
	}
}

// P12.2: as they are when it is ranged over: what becomes of them meanwhile plays no part.
func TestAllMeanwhile(t *testing.T) {
	acts := []func(x *timer.Timers[string]){
		func(x *timer.Timers[string]) { x.Take(3) },
		func(x *timer.Timers[string]) { x.Take(99); x.Set("new", 1) },
		func(x *timer.Timers[string]) { x.Set("new", -1) },
		func(x *timer.Timers[string]) { x.Set("m", 100); x.Set("z", -5) },
		func(x *timer.Timers[string]) { x.Stop("a"); x.Stop("A"); x.Set("other", 2) },
	}
	for i, act := range acts {
		for when := range 9 {
			x, p := some()
			want := p.all()
			got := []due[string]{}
			for k, at := range x.All() {
				if len(got) == when {
					act(x)
				}
				got = append(got, due[string]{k, at})
			}
			if !slices.Equal(got, want) {
				t.Fatalf("act %d at %d: %v", i, when, got)
			}
		}
	}
}

// P12.2, P7: as often as it is ranged over, each time from the beginning; who stops has it told no more.
func TestAllAgain(t *testing.T) {
	x, p := some()
	seq, want := x.All(), p.all()
	for range 3 {
		if got := told(seq); !slices.Equal(got, want) {
			t.Fatal(got)
		}
	}
	for stop := range want {
		n := 0
		seq(func(k string, at int) bool {
			if (due[string]{k, at}) != want[n] {
				t.Fatal(k, at)
			}
			n++
			return n <= stop
		})
		if n != stop+1 {
			t.Fatalf("told %d times, not %d", n, stop+1)
		}
	}
	n := 0
	for k, at := range seq { // one within another
		if got := told(seq); !slices.Equal(got, want) || want[n] != (due[string]{k, at}) {
			t.Fatal(got)
		}
		n++
	}
	x.Take(2) // as they are when it is ranged over, not when All was called
	p.take(2)
	x.Set("new", 4)
	p.set("new", 4)
	if got := told(seq); !slices.Equal(got, p.all()) {
		t.Fatal(got)
	}
	x.Take(99)
	if got := told(seq); len(got) != 0 {
		t.Fatal(got)
	}
}

// P12.2, P4: a Fork stands alike, and what becomes of the one changes nothing of the other one.
func TestFork(t *testing.T) {
	acts := []func(x *timer.Timers[string]){
		func(x *timer.Timers[string]) { x.Take(3) },
		func(x *timer.Timers[string]) { x.Take(99); x.Set("a", 1) },
		func(x *timer.Timers[string]) { x.Set("new", 50) },
		func(x *timer.Timers[string]) { x.Set("m", 0) },
		func(x *timer.Timers[string]) { x.Stop("a") },
	}
	for i, act := range acts {
		one, want := some()
		two := one.Fork()
		if one == two {
			t.Fatal("it is the same one")
		}
		three := two.Fork()
		alike(t, two, want)
		act(two)
		alike(t, one, want)
		alike(t, three, want)
		act(one)
		alike(t, three, want)
		if !slices.Equal(told(one.All()), told(two.All())) {
			t.Fatal(i, "a Fork does otherwise")
		}
	}
	one, want := some() // both set into what may be one spare room
	one.Stop("a")
	want.stop("a")
	two, also := one.Fork(), want.fork()
	one.Set("x", 90)
	want.set("x", 90)
	two.Set("y", 91)
	also.set("y", 91)
	alike(t, one, want)
	alike(t, two, also)
}

// P3: what Take answers is new memory.
func TestMemory(t *testing.T) {
	x, p := some()
	first := x.Take(2)
	if want := p.take(2); !slices.Equal(first, want) {
		t.Fatal(first)
	}
	was := slices.Clone(first)
	x.Set("a", 0)
	p.set("a", 0)
	second := x.Take(4)
	if want := p.take(4); !slices.Equal(second, want) || !slices.Equal(first, was) {
		t.Fatal(first, second)
	}
	for _, l := range [][]string{first[:cap(first)], second[:cap(second)]} {
		for i := range l {
			l[i] = "spoilt"
		}
	}
	alike(t, x, p)
}

// P12.2, P1: of nil timers none are due; their Fork is nil.
func TestNil(t *testing.T) {
	var x *timer.Timers[string]
	x.Set("a", 1)
	if at, there := x.When("a"); at != 0 || there {
		t.Fatal(at, there)
	}
	if at, there := x.Next(); at != 0 || there {
		t.Fatal(at, there)
	}
	if x.Stop("a") || len(x.Take(math.MaxInt)) != 0 || x.Len() != 0 || x.Fork() != nil || len(told(x.All())) != 0 {
		t.Fatal("nil timers have something")
	}
}

// P1: nothing panics of timers that no call made.
func TestNoCallMadeIt(t *testing.T) {
	var x timer.Timers[int]
	x.Set(1, 2)
	x.Set(1, 3)
	x.Set(2, 2)
	x.Stop(1)
	x.When(1)
	x.Next()
	x.Fork().Take(2)
	told(x.All())
	x.Take(5)
	x.Len()
}

// P12.4: tick by tick each comes once, in order, at its tick, or at the first one behind at which it is asked for.
func TestTickByTick(t *testing.T) {
	r := rand.New(rand.NewSource(124))
	for range 60 {
		x := timer.New[int]()
		at := map[int]int{}     // the ticks of those that are due
		came := map[int][]int{} // of each key the ticks at which it came
		want := map[int][]int{}
		asked := 0
		for now := range 60 {
			for range r.Intn(4) {
				k, tick := r.Intn(20), now+r.Intn(12)-4
				x.Set(k, tick)
				at[k] = tick
			}
			if r.Intn(3) == 0 {
				continue // nobody asks at this one
			}
			last := due[int]{-1, math.MinInt}
			for _, k := range x.Take(now) {
				d := due[int]{k, at[k]}
				if d.at < last.at || d.at == last.at && d.k <= last.k {
					t.Fatal(d, "behind", last)
				}
				last = d
				came[k] = append(came[k], now)
			}
			for k, tick := range at {
				if tick <= now {
					want[k] = append(want[k], now)
					delete(at, k)
				}
			}
			asked++
			if x.Len() != len(at) {
				t.Fatal(x.Len(), len(at))
			}
		}
		for k := range 20 {
			if !slices.Equal(came[k], want[k]) {
				t.Fatalf("%d came at %v, not at %v", k, came[k], want[k])
			}
		}
		if asked == 0 {
			t.Fatal("nobody asked")
		}
	}
}

// every is the tick that is asked for, told tick by tick.
func every(first, period, now int) (int, bool) {
	if period < 1 || first < 0 {
		return 0, false
	}
	at := int64(first)
	for at <= int64(now) {
		at += int64(period)
	}
	return int(at), at <= math.MaxInt32
}

// P12.3: the first one above now.
func TestEvery(t *testing.T) {
	for first := range 30 {
		for period := 1; period < 12; period++ {
			for now := range 50 {
				want, there := every(first, period, now)
				if got, is := timer.Every(first, period, now); got != want || is != there {
					t.Fatalf("Every(%d, %d, %d): %d, %v, not %d", first, period, now, got, is, want)
				}
			}
		}
	}
}

// P12.3: at the end of the numbers.
func TestEveryEdges(t *testing.T) {
	const most = math.MaxInt32
	for _, c := range []struct {
		first, period, now, at int
		there                  bool
	}{
		{0, 1, 0, 1, true},
		{0, 1, most - 1, most, true},
		{0, 1, most, 0, false},
		{most, 1, 0, most, true},
		{most, 1, most - 1, most, true},
		{most, 1, most, 0, false},
		{most, most, most, 0, false},
		{0, most, 0, most, true},
		{0, most, most - 1, most, true},
		{0, most, most, 0, false},
		{1, most, 0, 1, true},
		{1, most, 1, 0, false},
		{1, most - 1, 1, most, true},
		{1, most - 1, most - 1, most, true},
		{2, most - 1, 2, 0, false},
		{2, 2, most - 2, most - 1, true},
		{2, 2, most - 1, 0, false},
		{1, 2, most - 2, most, true},
		{5, 7, 4, 5, true},
		{5, 7, 5, 12, true},
		{5, 7, 11, 12, true},
		{5, 7, 12, 19, true},
		{0, 0, 0, 0, false},
		{0, -1, 0, 0, false},
		{5, 0, 4, 0, false},
		{-1, 1, 0, 0, false},
		{0, 1, -1, 0, false},
		{5, 1, -1, 0, false},
		{most + 1, 1, 0, 0, false},
		{0, most + 1, 0, 0, false},
		{5, most + 1, 0, 0, false},
		{0, 1, most + 1, 0, false},
		{math.MaxInt, 1, 0, 0, false},
		{0, math.MaxInt, 0, 0, false},
		{0, 1, math.MaxInt, 0, false},
		{math.MinInt, 1, 0, 0, false},
		{0, math.MinInt, 0, 0, false},
		{0, 1, math.MinInt, 0, false},
		{math.MaxInt, math.MaxInt, math.MaxInt, 0, false},
	} {
		if at, there := timer.Every(c.first, c.period, c.now); at != c.at || there != c.there {
			t.Errorf("Every(%d, %d, %d): %d, %v", c.first, c.period, c.now, at, there)
		}
	}
	r := rand.New(rand.NewSource(3))
	for range 20000 { // great ones, of which few steps lie between
		period := 1 + r.Intn(most)
		first, now := r.Intn(most), r.Intn(most)
		if now-first > 1000*period {
			continue
		}
		want, there := every(first, period, now)
		if !there {
			want = 0
		}
		if at, is := timer.Every(first, period, now); at != want || is != there {
			t.Fatalf("Every(%d, %d, %d): %d, %v, not %d", first, period, now, at, is, want)
		}
	}
}
