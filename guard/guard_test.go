package guard_test

import (
	"math"
	"math/rand"
	"testing"

	"tripwire/api"
	"tripwire/guard"
)

// The calls have just these signatures.
var (
	_ func(int, int) (*guard.Guard, api.Errno) = guard.New
	_ func(*guard.Guard, int) bool             = (*guard.Guard).Wake
	_ func(*guard.Guard)                       = (*guard.Guard).Sleep
	_ func(*guard.Guard, int)                  = (*guard.Guard).Half
	_ func(*guard.Guard, int)                  = (*guard.Guard).Whole
	_ func(*guard.Guard)                       = (*guard.Guard).Drop
	_ func(*guard.Guard, int) api.Cause        = (*guard.Guard).Check
	_ func(*guard.Guard, int) (int, bool)      = (*guard.Guard).Left
	_ func(*guard.Guard) bool                  = (*guard.Guard).Awake
	_ func(*guard.Guard) *guard.Guard          = (*guard.Guard).Fork
)

// asleep is a guard that sleeps.
func asleep(t *testing.T, time, gap int) *guard.Guard {
	t.Helper()
	g, e := guard.New(time, gap)
	if g == nil || e != api.OK {
		t.Fatal(time, gap, e)
	}
	return g
}

// awake is one that is awake from a tick on.
func awake(t *testing.T, time, gap, now int) *guard.Guard {
	t.Helper()
	g := asleep(t, time, gap)
	if !g.Wake(now) {
		t.Fatal(now)
	}
	return g
}

// notTicks are numbers that are no ticks.
func notTicks() []int {
	return []int{-1, -2, -7, -65536, math.MinInt32, math.MinInt, math.MinInt + 1, math.MinInt + 7, api.MaxNum + 1, api.MaxNum + 7, 1 << 32, 1<<32 + 7, 1 << 62, math.MaxInt - 1, math.MaxInt}
}

// checks: what Check tells.
func checks(t *testing.T, g *guard.Guard, now int, want api.Cause) {
	t.Helper()
	for range 2 {
		if got := g.Check(now); got != want {
			t.Fatalf("Check(%d): %d, not %d", now, got, want)
		}
	}
}

// leaves: what Left tells of one that is awake.
func leaves(t *testing.T, g *guard.Guard, now, want int) {
	t.Helper()
	for range 2 {
		if got, is := g.Left(now); got != want || !is {
			t.Fatalf("Left(%d): %d, %v, not %d", now, got, is, want)
		}
	}
}

// sleeps: it is asleep, at all ticks.
func sleeps(t *testing.T, g *guard.Guard) {
	t.Helper()
	if g.Awake() {
		t.Fatal("it is awake")
	}
	for _, now := range append(notTicks(), 0, 1, 7, 100, 65536, api.MaxNum) {
		if n, is := g.Left(now); n != 0 || is {
			t.Fatal(now, n, is)
		}
		checks(t, g, now, api.NoCause)
	}
}

// The document's example.
func TestExample(t *testing.T) {
	g := awake(t, 10, 2, 5)
	checks(t, g, 15, api.NoCause)
	checks(t, g, 16, api.CauseTime)
	g.Half(7)
	checks(t, g, 9, api.NoCause)
	checks(t, g, 10, api.CauseGap)
}

// P28.1: of each number as time, and as gap.
func TestNew(t *testing.T) {
	numbers := append(notTicks(), 0, 1, 2, 7, 255, 256, 32767, 32768, 65534, 65535, 65536, 65537, 1<<16+7, api.MaxNum)
	for _, time := range numbers {
		for _, gap := range numbers {
			may := time >= 1 && time <= 65535 && gap >= 1 && gap <= 65535
			g, e := guard.New(time, gap)
			if !may {
				if g != nil || e != api.ErrArg {
					t.Fatal(time, gap, g, e)
				}
				continue
			}
			if g == nil || e != api.OK {
				t.Fatal(time, gap, e)
			}
			sleeps(t, g)
		}
	}
}

// P28.1, P28.2: each time and each gap is kept as it is.
func TestLimits(t *testing.T) {
	for n := 1; n <= 65535; n++ {
		g := awake(t, n, 65536-n, 3)
		checks(t, g, 3+n, api.NoCause)
		checks(t, g, 4+n, api.CauseTime)
		leaves(t, g, 3, n)
		g.Whole(100000)
		g.Half(100000)
		leaves(t, g, 100000, min(n, 65536-n))
		first := api.CauseTime
		if 65536-n < n {
			first = api.CauseGap
		}
		checks(t, g, 100000+min(n, 65536-n), api.NoCause)
		checks(t, g, 100001+min(n, 65536-n), first)
	}
}

// P28.1: it wakes at any tick, if it is asleep; at what is none it goes on sleeping.
func TestWake(t *testing.T) {
	for _, now := range []int{0, 1, 5, 65535, 65536, api.MaxNum - 1, api.MaxNum} {
		g := asleep(t, 10, 2)
		for _, no := range notTicks() {
			if g.Wake(no) {
				t.Fatal("awake at", no)
			}
		}
		sleeps(t, g)
		if !g.Wake(now) || !g.Awake() {
			t.Fatal("not awake at", now)
		}
		for _, again := range append(notTicks(), 0, now, now/2, api.MaxNum) {
			if g.Wake(again) || !g.Awake() {
				t.Fatal("once more at", again)
			}
		}
		leaves(t, g, now, 10) // it waits from then on
		checks(t, g, now+10, api.NoCause)
		checks(t, g, now+11, api.CauseTime)
		g.Half(now)
		checks(t, g, now+2, api.NoCause)
		checks(t, g, now+3, api.CauseGap)
	}
}

// P28.1: it sleeps, and what was is forgotten when it wakes again.
func TestSleep(t *testing.T) {
	g := asleep(t, 10, 2)
	g.Sleep()
	sleeps(t, g)
	g.Wake(5)
	g.Half(6)
	g.Sleep()
	sleeps(t, g)
	g.Half(7)
	g.Whole(7)
	g.Drop()
	sleeps(t, g)
	if !g.Wake(20) {
		t.Fatal("it does not wake")
	}
	leaves(t, g, 20, 10)
	checks(t, g, 30, api.NoCause) // no first frame has come
	checks(t, g, 31, api.CauseTime)
	g.Sleep()
	g.Sleep()
	sleeps(t, g)
}

// P28.1: asleep it hears nothing.
func TestAsleepHearsNothing(t *testing.T) {
	g := asleep(t, 10, 2)
	g.Half(0)
	g.Wake(1)
	leaves(t, g, 1, 10)
	g.Sleep()
	g.Whole(50)
	g.Half(50)
	g.Wake(2)
	leaves(t, g, 2, 10)
	checks(t, g, 12, api.NoCause)
	checks(t, g, 13, api.CauseTime)
}

// P28.1: a first frame, another one, none.
func TestHalf(t *testing.T) {
	g := awake(t, 100, 5, 0)
	g.Half(10)
	checks(t, g, 15, api.NoCause)
	checks(t, g, 16, api.CauseGap)
	leaves(t, g, 10, 5)
	g.Half(12) // it came now, not at 10
	checks(t, g, 17, api.NoCause)
	checks(t, g, 18, api.CauseGap)
	g.Drop()
	checks(t, g, 100, api.NoCause)
	checks(t, g, 101, api.CauseTime)
	leaves(t, g, 12, 88)
	g.Drop()
	leaves(t, g, 12, 88)
	g.Half(98)
	leaves(t, g, 98, 2) // the time ends first
	checks(t, g, 101, api.CauseTime)
}

// P28.1: a pair ends the wait for the second frame, and begins the one for the next pair.
func TestWhole(t *testing.T) {
	g := awake(t, 20, 5, 0)
	g.Half(10)
	g.Whole(12)
	leaves(t, g, 12, 20)
	checks(t, g, 16, api.NoCause)
	checks(t, g, 32, api.NoCause)
	checks(t, g, 33, api.CauseTime)
	g.Whole(30) // without a first frame, too
	checks(t, g, 50, api.NoCause)
	checks(t, g, 51, api.CauseTime)
	g.Whole(100) // when it is too late, too: who watches asks Check
	checks(t, g, 100, api.NoCause)
	leaves(t, g, 100, 20)
}

// P28.1: what is no tick changes nothing.
func TestNoTicks(t *testing.T) {
	for _, no := range notTicks() {
		g := awake(t, 20, 5, 3)
		g.Half(no)
		g.Whole(no)
		leaves(t, g, 3, 20)
		checks(t, g, 23, api.NoCause)
		checks(t, g, 24, api.CauseTime)
		g.Half(7)
		g.Half(no)
		g.Whole(no)
		leaves(t, g, 7, 5)
		checks(t, g, 12, api.NoCause)
		checks(t, g, 13, api.CauseGap)
	}
}

// P28.2: of both causes the time's is told.
func TestBothCauses(t *testing.T) {
	g := awake(t, 10, 2, 0)
	g.Half(5)
	for now := range 8 {
		checks(t, g, now, api.NoCause)
	}
	for now := 8; now <= 10; now++ {
		checks(t, g, now, api.CauseGap)
	}
	for now := 11; now < 40; now++ {
		checks(t, g, now, api.CauseTime)
	}
	checks(t, g, api.MaxNum, api.CauseTime)
}

// P28.2: each tick less by one, down to 0, and no lower.
func TestLeft(t *testing.T) {
	g := awake(t, 10, 3, 5)
	for now, want := range []int{15, 14, 13, 12, 11, 10, 9, 8, 7, 6, 5, 4, 3, 2, 1, 0, 0, 0, 0} {
		leaves(t, g, now, want)
	}
	g.Half(7)
	for now := 7; now < 30; now++ {
		leaves(t, g, now, max(0, 10-now))
	}
	leaves(t, g, api.MaxNum, 0)
	g.Half(14)
	for now := 7; now < 30; now++ {
		leaves(t, g, now, max(0, 15-now))
	}
}

// P5: at the greatest ticks nothing goes round, whatever is asked.
func TestGreat(t *testing.T) {
	g := awake(t, 65535, 65535, api.MaxNum)
	g.Half(api.MaxNum)
	checks(t, g, api.MaxNum, api.NoCause)
	leaves(t, g, api.MaxNum, 65535)
	leaves(t, g, 0, api.MaxNum+65535)
	for _, now := range notTicks() {
		want := api.NoCause
		if now > api.MaxNum+65535 {
			want = api.CauseTime
		}
		checks(t, g, now, want)
		n, is := g.Left(now)
		if !is || n < 0 || want != api.NoCause && n != 0 || want == api.NoCause && n == 0 {
			t.Fatal(now, n, is)
		}
	}
	leaves(t, g, math.MinInt, math.MaxInt)
	g = awake(t, 1, 1, 0)
	g.Half(0)
	checks(t, g, math.MinInt, api.NoCause)
	checks(t, g, math.MaxInt, api.CauseTime)
	checks(t, g, api.MaxNum, api.CauseTime)
	leaves(t, g, 0, 1)
	leaves(t, g, -1, 2)
}

// event is something that became of a guard: W(ake), S(leep), H(alf), P(air), D(rop), at a tick.
type event struct {
	kind byte
	now  int
}

// book tells of a guard by all that became of it.
type book struct {
	time, gap int
	events    []event
}

// last is the newest event of some kinds, and its place; -1, if there is none.
func (k *book) last(kinds string) (event, int) {
	for i := len(k.events) - 1; i >= 0; i-- {
		for j := range len(kinds) {
			if k.events[i].kind == kinds[j] {
				return k.events[i], i
			}
		}
	}
	return event{}, -1
}

// awake: is it?
func (k *book) awake() bool {
	e, _ := k.last("WS")
	return e.kind == 'W'
}

// check is what is to be told.
func (k *book) check(now int) api.Cause {
	if !k.awake() {
		return api.NoCause
	}
	from, _ := k.last("WP")
	half, at := k.last("H")
	_, end := k.last("WSPD")
	switch {
	case now-from.now > k.time:
		return api.CauseTime
	case at > end && now-half.now > k.gap:
		return api.CauseGap
	}
	return api.NoCause
}

// do does it to a guard, and writes it down, if it becomes of it.
func (k *book) do(t *testing.T, g *guard.Guard, e event) {
	t.Helper()
	was := k.awake()
	switch e.kind {
	case 'W':
		if g.Wake(e.now) == was {
			t.Fatal(k.events, e)
		}
	case 'S':
		g.Sleep()
	case 'H':
		g.Half(e.now)
	case 'P':
		g.Whole(e.now)
	case 'D':
		g.Drop()
	}
	if was == (e.kind != 'W') {
		k.events = append(k.events, e)
	}
}

// compare holds a guard against the book, at all ticks up to one.
func (k *book) compare(t *testing.T, g *guard.Guard, to int) {
	t.Helper()
	if g.Awake() != k.awake() {
		t.Fatal(k.events)
	}
	first := to + k.time + k.gap // the first tick that tells a cause, from now on
	for now := first; now >= 0; now-- {
		want := k.check(now)
		if g.Check(now) != want {
			t.Fatalf("%v: at %d: %d, not %d", k.events, now, g.Check(now), want)
		}
		if want != api.NoCause {
			first = now
		}
		n, is := g.Left(now)
		left := 0
		if k.awake() {
			left = max(0, first-1-now)
		}
		if is != k.awake() || n != left {
			t.Fatalf("%v: left at %d: %d, %v, not %d", k.events, now, n, is, left)
		}
	}
}

// P28.1, P28.2: all rows of five events, at ticks that rise.
func TestAllRows(t *testing.T) {
	const kinds = "WSHPD"
	for row := range 5 * 5 * 5 * 5 * 5 {
		for _, x := range []struct{ time, gap, step int }{{4, 2, 1}, {2, 4, 1}, {3, 1, 2}, {1, 1, 1}, {9, 3, 3}} {
			g, k := asleep(t, x.time, x.gap), &book{time: x.time, gap: x.gap}
			left := row
			for i := range 5 {
				k.do(t, g, event{kinds[left%5], i * x.step})
				left /= 5
			}
			k.compare(t, g, 5*x.step)
		}
	}
}

// P28.1, P28.2: any events, also such as come at the same tick.
func TestAnyEvents(t *testing.T) {
	r := rand.New(rand.NewSource(281))
	for range 400 {
		k := &book{time: 1 + r.Intn(12), gap: 1 + r.Intn(6)}
		g, now := asleep(t, k.time, k.gap), 0
		for range 40 {
			now += r.Intn(4)
			k.do(t, g, event{"WWSHHHPPD"[r.Intn(9)], now})
			k.compare(t, g, now)
		}
	}
}

// P28.3: no pair comes: the tick behind the time tells it, and none ahead.
func TestNoPair(t *testing.T) {
	r := rand.New(rand.NewSource(283))
	for range 500 {
		time, now := 1+r.Intn(50), r.Intn(1000)
		g := awake(t, time, 1+r.Intn(50), now)
		if r.Intn(2) == 0 {
			g.Half(now)
			now += r.Intn(2)
			g.Whole(now)
		}
		for tick := now; tick <= now+time; tick++ {
			checks(t, g, tick, api.NoCause)
		}
		checks(t, g, now+time+1, api.CauseTime)
	}
}

// P28.3: no second frame comes: likewise.
func TestNoSecond(t *testing.T) {
	r := rand.New(rand.NewSource(284))
	for range 500 {
		gap, now := 1+r.Intn(50), r.Intn(1000)
		g := awake(t, 200, gap, now)
		now += r.Intn(100)
		g.Half(now)
		for tick := now; tick <= now+gap; tick++ {
			checks(t, g, tick, api.NoCause)
		}
		checks(t, g, now+gap+1, api.CauseGap)
	}
}

// P28.4: pairs come in time, and their frames: no cause is ever told.
func TestAllInTime(t *testing.T) {
	r := rand.New(rand.NewSource(285))
	for range 300 {
		time, gap := 1+r.Intn(30), 1+r.Intn(12)
		now := r.Intn(100)
		g := awake(t, time, gap, now)
		for range 50 {
			behind := r.Intn(time + 1)
			if r.Intn(3) == 0 {
				behind = time // the last tick that may be
			}
			half := behind - min(behind, r.Intn(gap+1))
			if r.Intn(3) == 0 {
				half = max(0, behind-gap)
			}
			for tick := now; tick <= now+behind; tick++ {
				checks(t, g, tick, api.NoCause)
				if tick == now+half {
					g.Half(tick)
				}
				checks(t, g, tick, api.NoCause)
			}
			now += behind
			g.Whole(now)
			checks(t, g, now, api.NoCause)
		}
	}
}

// P28.2, P4: a fork stands alike, and neither is changed by what becomes of the other one.
func TestFork(t *testing.T) {
	sleeps(t, asleep(t, 10, 2).Fork())
	g := awake(t, 10, 2, 5)
	g.Half(6)
	f := g.Fork()
	if f == g || !f.Awake() {
		t.Fatal("no fork")
	}
	for now := range 40 {
		a, _ := g.Left(now)
		leaves(t, f, now, a)
		checks(t, f, now, g.Check(now))
	}
	f.Whole(8)
	leaves(t, g, 6, 2)
	leaves(t, f, 8, 10)
	g.Sleep()
	sleeps(t, g)
	leaves(t, f, 8, 10)
	f.Half(9)
	h := f.Fork()
	f.Drop()
	leaves(t, f, 9, 9)
	leaves(t, h, 9, 2)
	f.Sleep()
	sleeps(t, f.Fork())
	leaves(t, h, 9, 2)
}

// P6: two guards have nothing in common.
func TestApart(t *testing.T) {
	a, b := awake(t, 10, 2, 0), awake(t, 20, 4, 1)
	a.Half(3)
	b.Half(4)
	b.Whole(5)
	leaves(t, a, 3, 2)
	leaves(t, b, 5, 20)
	a.Sleep()
	sleeps(t, a)
	leaves(t, b, 5, 20)
}

// P28.2, P1: a nil guard.
func TestNil(t *testing.T) {
	var g *guard.Guard
	for _, now := range append(notTicks(), 0, 1, 7, api.MaxNum) {
		if g.Wake(now) {
			t.Fatal("awake")
		}
		g.Half(now)
		g.Whole(now)
	}
	g.Sleep()
	g.Drop()
	sleeps(t, g)
	if g.Fork() != nil {
		t.Fatal("a fork of nil")
	}
}

// P1: no call made it, and nothing panics.
func TestNoCallMadeIt(t *testing.T) {
	for _, now := range append(notTicks(), 0, 1, 7, api.MaxNum) {
		g := &guard.Guard{}
		g.Drop()
		g.Wake(now)
		g.Half(now)
		g.Check(now)
		g.Left(now)
		g.Whole(now)
		g.Fork().Sleep()
		g.Awake()
	}
}
