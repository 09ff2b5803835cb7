package latch_test

import (
	"bytes"
	"iter"
	"math"
	"math/rand"
	"slices"
	"testing"

	"tripwire/api"
	"tripwire/latch"
)

// The calls have just these signatures.
var (
	_ func() *latch.Latch                             = latch.New
	_ func(*latch.Latch, api.Cause, int) bool         = (*latch.Latch).Trip
	_ func(*latch.Latch) bool                         = (*latch.Latch).Tripped
	_ func(*latch.Latch) api.Cause                    = (*latch.Latch).Cause
	_ func(*latch.Latch) (int, bool)                  = (*latch.Latch).At
	_ func(*latch.Latch) bool                         = (*latch.Latch).Reset
	_ func(*latch.Latch, bool, []byte, []byte) []byte = (*latch.Latch).Out
	_ func(*latch.Latch) iter.Seq2[int, api.Cause]    = (*latch.Latch).Past
	_ func(*latch.Latch) int                          = (*latch.Latch).Trips
	_ func(*latch.Latch) *latch.Latch                 = (*latch.Latch).Fork
	_ func(api.Cause) bool                            = latch.Known
	_ func(api.Cause) int                             = latch.Code
)

// trip is one that a latch should remember.
type trip struct {
	at    int
	cause api.Cause
}

// causes are those for which a latch trips.
func causes() []api.Cause {
	return []api.Cause{api.CauseOrder, api.CauseLen, api.CauseUnlike, api.CauseTime, api.CauseGap, api.CauseSign, api.CauseValue}
}

// noCauses are numbers of which none is.
func noCauses() []api.Cause {
	return []api.Cause{api.NoCause, -1, -4, -7, -8, 8, 9, 15, 255, 256, 257, 260, -252, -256, 1<<16 + 4, 1<<32 + 4, 1 << 32, -1<<32 + 4, math.MinInt32, math.MaxInt32, math.MinInt, math.MinInt + 4, math.MaxInt}
}

// ticks are some at which it may trip; that a number is no tick plays no part.
func ticks() []int {
	return []int{0, 1, 7, 65536, api.MaxNum - 1, api.MaxNum, api.MaxNum + 1, 1 << 32, -1, math.MinInt, math.MaxInt}
}

// past is what a latch remembers, told twice.
func past(t *testing.T, l *latch.Latch) []trip {
	t.Helper()
	var told [2][]trip
	seq := l.Past()
	for i := range told {
		for at, c := range seq {
			told[i] = append(told[i], trip{at, c})
		}
	}
	if !slices.Equal(told[0], told[1]) {
		t.Fatal(told)
	}
	return told[0]
}

// isOpen: it is open, so that values pass.
func isOpen(t *testing.T, l *latch.Latch) {
	t.Helper()
	if at, is := l.At(); l.Tripped() || l.Cause() != api.NoCause || at != 0 || is {
		t.Fatal(l.Tripped(), l.Cause(), at, is)
	}
	goesOut(t, l, true, "ab", "cd", "ab")
	goesOut(t, l, false, "ab", "cd", "cd")
}

// hasTripped: it has tripped, with that cause, at that tick, so that none pass.
func hasTripped(t *testing.T, l *latch.Latch, c api.Cause, now int) {
	t.Helper()
	if at, is := l.At(); !l.Tripped() || l.Cause() != c || at != now || !is {
		t.Fatal(l.Tripped(), l.Cause(), at, is)
	}
	goesOut(t, l, true, "ab", "cd", "cd")
	goesOut(t, l, false, "ab", "cd", "cd")
}

// goesOut: what goes out.
func goesOut(t *testing.T, l *latch.Latch, on bool, released, safe, want string) {
	t.Helper()
	if got := l.Out(on, []byte(released), []byte(safe)); string(got) != want {
		t.Fatalf("%v, %q, %q: %q, not %q", on, released, safe, got, want)
	}
}

// remembers: which trips it remembers, and how many there were.
func remembers(t *testing.T, l *latch.Latch, n int, want ...trip) {
	t.Helper()
	if got := past(t, l); !slices.Equal(got, want) || l.Trips() != n {
		t.Fatal(got, l.Trips(), "not", want, n)
	}
}

// tripped is a latch that has tripped.
func tripped(t *testing.T, c api.Cause, now int) *latch.Latch {
	t.Helper()
	l := latch.New()
	if !l.Trip(c, now) {
		t.Fatal(c, now)
	}
	return l
}

// The document's example.
func TestExample(t *testing.T) {
	l := tripped(t, api.CauseTime, 7)
	if l.Trip(api.CauseGap, 8) || l.Cause() != api.CauseTime {
		t.Fatal(l.Cause())
	}
	goesOut(t, l, true, "\x05", "\x09", "\x09")
}

// P31.1: at first it is open, and nothing is remembered; each is one of its own.
func TestNew(t *testing.T) {
	l := latch.New()
	isOpen(t, l)
	remembers(t, l, 0)
	tripped(t, api.CauseTime, 3)
	isOpen(t, l)
	remembers(t, l, 0)
}

// P31.1: each cause trips an open one, at each tick; while it has tripped no other one does, nor at another tick.
func TestTrip(t *testing.T) {
	for _, c := range causes() {
		for _, now := range ticks() {
			l := tripped(t, c, now)
			hasTripped(t, l, c, now)
			remembers(t, l, 1, trip{now, c})
			for _, other := range append(noCauses(), causes()...) {
				if l.Trip(other, now+1) || l.Trip(other, now) || l.Trip(other, 0) {
					t.Fatal(c, now, other)
				}
			}
			hasTripped(t, l, c, now)
			remembers(t, l, 1, trip{now, c})
		}
	}
}

// P31.1: what is no cause trips none, and changes nothing.
func TestTripForNoCause(t *testing.T) {
	for _, c := range noCauses() {
		for _, now := range ticks() {
			l := latch.New()
			if l.Trip(c, now) {
				t.Fatal(c, now)
			}
			isOpen(t, l)
			remembers(t, l, 0)
			l.Trip(api.CauseGap, 9)
			l.Reset()
			if l.Trip(c, now) {
				t.Fatal(c, now)
			}
			isOpen(t, l)
			remembers(t, l, 1, trip{9, api.CauseGap})
		}
	}
}

// P31.1: a reset opens it, and tells if it had tripped; what is remembered stays, and it may trip again, at a tick ahead, too.
func TestReset(t *testing.T) {
	l := latch.New()
	if l.Reset() || l.Reset() {
		t.Fatal("it had not tripped")
	}
	isOpen(t, l)
	remembers(t, l, 0)
	l.Trip(api.CauseSign, 50)
	if !l.Reset() || l.Reset() {
		t.Fatal("it had tripped once")
	}
	isOpen(t, l)
	remembers(t, l, 1, trip{50, api.CauseSign})
	if !l.Trip(api.CauseLen, 20) {
		t.Fatal("it was open")
	}
	hasTripped(t, l, api.CauseLen, 20)
	remembers(t, l, 2, trip{50, api.CauseSign}, trip{20, api.CauseLen})
	if !l.Reset() || !l.Trip(api.CauseLen, 0) {
		t.Fatal("it was open")
	}
	hasTripped(t, l, api.CauseLen, 0)
	remembers(t, l, 3, trip{50, api.CauseSign}, trip{20, api.CauseLen}, trip{0, api.CauseLen})
}

// P31.2: what goes out, of values of all lengths.
func TestOut(t *testing.T) {
	open, shut := latch.New(), tripped(t, api.CauseValue, 1)
	for n := range 10 {
		for m := range 10 {
			released, safe := bytes.Repeat([]byte{7}, n), bytes.Repeat([]byte{9}, m)
			want := safe
			if n == m {
				want = released
			}
			goesOut(t, open, true, string(released), string(safe), string(want))
			goesOut(t, open, false, string(released), string(safe), string(safe))
			goesOut(t, shut, true, string(released), string(safe), string(safe))
			goesOut(t, shut, false, string(released), string(safe), string(safe))
		}
	}
	for _, l := range []*latch.Latch{open, shut, nil} {
		if b := l.Out(true, nil, []byte{1, 2}); string(b) != "\x01\x02" { // no value was released
			t.Fatal(b)
		}
		if b := l.Out(true, []byte{1}, nil); len(b) != 0 {
			t.Fatal(b)
		}
		if b := l.Out(true, nil, nil); len(b) != 0 {
			t.Fatal(b)
		}
	}
}

// P31.2: of more trips than eight the last ones are remembered, and all are counted.
func TestPast(t *testing.T) {
	l := latch.New()
	var want []trip
	for i := range 30 {
		one := trip{1000 - i*i, causes()[i*3%7]}
		if !l.Trip(one.cause, one.at) || l.Trip(api.CauseGap, -5) {
			t.Fatal(i)
		}
		want = append(want, one)
		remembers(t, l, i+1, want[max(0, len(want)-8):]...)
		l.Reset()
		remembers(t, l, i+1, want[max(0, len(want)-8):]...)
	}
}

// P7: told as often as it is ranged over; who stops has it told no more.
func TestPastAgain(t *testing.T) {
	l := latch.New()
	for i := range 9 {
		l.Trip(causes()[i%7], i)
		l.Reset()
	}
	want := past(t, l)
	for stop := range want {
		var got []trip
		l.Past()(func(at int, c api.Cause) bool {
			got = append(got, trip{at, c})
			return len(got) <= stop
		})
		if !slices.Equal(got, want[:stop+1]) {
			t.Fatal(stop, got)
		}
	}
	n := 0
	for range l.Past() { // one within another
		if got := past(t, l); !slices.Equal(got, want) {
			t.Fatal(got)
		}
		n++
	}
	if n != 8 {
		t.Fatal(n)
	}
}

// It may trip while its trips are ranged over.
func TestPastMeanwhile(t *testing.T) {
	l := tripped(t, api.CauseTime, 1)
	n := 0
	for at, c := range l.Past() {
		if at != 1 || c != api.CauseTime {
			t.Fatal(at, c)
		}
		for i := range 20 {
			l.Reset()
			l.Trip(api.CauseGap, i)
		}
		n++
	}
	if n != 1 || l.Trips() != 21 {
		t.Fatal(n, l.Trips())
	}
}

// P31.2, P4: a Fork stands alike, and what becomes of the one changes nothing of the other one.
func TestFork(t *testing.T) {
	one := latch.New()
	for i := range 10 {
		one.Trip(causes()[i%7], i)
		one.Reset()
	}
	one.Trip(api.CauseSign, 99)
	want := past(t, one)
	two := one.Fork()
	if one == two {
		t.Fatal("it is the same one")
	}
	hasTripped(t, two, api.CauseSign, 99)
	remembers(t, two, 11, want...)
	two.Reset()
	two.Trip(api.CauseLen, 100)
	hasTripped(t, one, api.CauseSign, 99)
	remembers(t, one, 11, want...)
	one.Reset()
	isOpen(t, one)
	hasTripped(t, two, api.CauseLen, 100)
	remembers(t, two, 12, append(slices.Clone(want[1:]), trip{100, api.CauseLen})...)
	one.Trip(api.CauseOrder, 5)
	remembers(t, two, 12, append(slices.Clone(want[1:]), trip{100, api.CauseLen})...)
	remembers(t, one, 12, append(slices.Clone(want[1:]), trip{5, api.CauseOrder})...)
	isOpen(t, latch.New().Fork())
}

// P3: what is handed in stays as it is, and is not kept; what is answered is new memory.
func TestMemory(t *testing.T) {
	open, shut := latch.New(), tripped(t, api.CauseTime, 1)
	for _, l := range []*latch.Latch{open, shut, nil} {
		released, safe := []byte{1, 2, 77}, []byte{3, 4, 88}
		got := l.Out(true, released[:2], safe[:2])
		_ = append(got[:1], 9, 9, 9)
		got[0] = 9
		if string(released) != "\x01\x02\x4d" || string(safe) != "\x03\x04\x58" {
			t.Fatal(released, safe)
		}
		got = l.Out(true, released[:2], safe[:2])
		want := slices.Clone(got)
		clear(released)
		clear(safe)
		if !slices.Equal(got, want) {
			t.Fatal(got, want)
		}
	}
}

// P31.3: which numbers are causes, and their codes.
func TestKnownAndCode(t *testing.T) {
	for c, code := range map[api.Cause]int{1: 0x8201, 2: 0x8202, 3: 0x8203, 4: 0x8204, 5: 0x8205, 6: 0x8206, 7: 0x8207} {
		if !latch.Known(c) || latch.Code(c) != code {
			t.Fatalf("%d: %x", c, latch.Code(c))
		}
	}
	for _, c := range causes() {
		if !latch.Known(c) || latch.Code(c) != 0x8200+int(c) {
			t.Fatalf("%d: %x", c, latch.Code(c))
		}
	}
	for _, c := range noCauses() {
		if latch.Known(c) || latch.Code(c) != 0 {
			t.Fatalf("%d: %x", c, latch.Code(c))
		}
	}
	for c := api.Cause(-70000); c <= 70000; c++ {
		if want := c >= 1 && c <= 7; latch.Known(c) != want || (latch.Code(c) != 0) != want {
			t.Fatalf("%d: %x", c, latch.Code(c))
		}
	}
}

// P31.2, P1: a nil latch has tripped, for no cause, at no tick, whatever is done to it.
func TestNil(t *testing.T) {
	var l *latch.Latch
	for range 3 {
		for _, c := range append(noCauses(), causes()...) {
			if l.Trip(c, 5) {
				t.Fatal(c)
			}
		}
		if at, is := l.At(); !l.Tripped() || l.Cause() != api.NoCause || at != 0 || is || l.Fork() != nil {
			t.Fatal(l.Tripped(), l.Cause(), at, is)
		}
		remembers(t, l, 0)
		goesOut(t, l, true, "ab", "cd", "cd")
		goesOut(t, l, false, "ab", "cd", "cd")
		goesOut(t, l, true, "", "cd", "cd")
		if l.Reset() {
			t.Fatal("nothing opens it")
		}
	}
}

// P1: nothing panics of a latch that no call made.
func TestNoCallMadeIt(t *testing.T) {
	var l latch.Latch
	for _, c := range append(causes(), noCauses()...) {
		l.Trip(c, int(c))
		l.Tripped()
		l.Cause()
		l.At()
		l.Out(true, []byte{1}, []byte{2})
		l.Past()(func(int, api.Cause) bool { return true })
		l.Trips()
		l.Fork().Trip(c, 1)
		l.Reset()
	}
}

// plain is what a latch should be, told without the package: the cause and the tick of the trip that counts, and all trips.
type plain struct {
	now trip
	all []trip
}

// P31.1, P31.4, P4: whatever is done to latches and their Forks, once one has tripped nothing but a reset lets values through.
func TestAnything(t *testing.T) {
	r := rand.New(rand.NewSource(31))
	for range 100 {
		ls, ps := []*latch.Latch{latch.New()}, []*plain{{}}
		for range 200 {
			at := r.Intn(len(ls))
			l, p := ls[at], ps[at]
			switch r.Intn(8) {
			case 0:
				if l.Reset() != (p.now.cause != 0) {
					t.Fatal("Reset", p)
				}
				p.now = trip{}
			case 1, 2:
				one := trip{r.Intn(1000), api.Cause(r.Intn(11) - 1)}
				want := p.now.cause == 0 && one.cause >= 1 && one.cause <= 7
				if want {
					p.now = one
					p.all = append(p.all, one)
				}
				if l.Trip(one.cause, one.at) != want {
					t.Fatal("Trip", one, p)
				}
			case 3:
				if len(ls) < 3 {
					ls, ps = append(ls, l.Fork()), append(ps, &plain{p.now, slices.Clone(p.all)})
				}
			default:
				b := make([]byte, 5)
				r.Read(b)
				released, safe, on := string(b[:1+r.Intn(2)]), string(b[3:]), r.Intn(4) > 0
				want := safe
				if p.now.cause == 0 && on && len(released) == 2 {
					want = released
				}
				goesOut(t, l, on, released, safe, want)
			}
			for i, p := range ps {
				remembers(t, ls[i], len(p.all), p.all[max(0, len(p.all)-8):]...)
				if p.now.cause == 0 {
					isOpen(t, ls[i])
				} else {
					hasTripped(t, ls[i], p.now.cause, p.now.at)
				}
			}
		}
	}
}
