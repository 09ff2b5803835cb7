package pulse_test

import (
	"math"
	"math/rand"
	"slices"
	"testing"

	"tripwire/api"
	"tripwire/frame"
	"tripwire/pulse"
)

// The calls have just these signatures.
var (
	_ func(int, int) (api.Frame, api.Errno)       = pulse.Encode
	_ func() *pulse.Maker                         = pulse.NewMaker
	_ func(*pulse.Maker, int, int, int) api.Errno = (*pulse.Maker).Set
	_ func(*pulse.Maker, int) (api.Frame, bool)   = (*pulse.Maker).Tick
	_ func(int) (*pulse.Ear, api.Errno)           = pulse.NewEar
	_ func(*pulse.Ear, api.Frame) api.Errno       = (*pulse.Ear).Hear
	_ func(*pulse.Ear) int                        = (*pulse.Ear).Heard
	_ func(*pulse.Ear) int                        = (*pulse.Ear).Gaps
	_ func(*pulse.Ear, int) bool                  = (*pulse.Ear).On
)

// isOverflow: may pulses be counted up to it?
func isOverflow(n int) bool { return n == 0 || n >= 2 && n <= 240 }

// numbers are small ones, and such as are like them in their low bits.
func numbers() []int {
	var l []int
	for i := -3; i <= 260; i++ {
		l = append(l, i)
	}
	return append(l, 1<<16+5, 1<<31, 1<<32, 1<<32+1, 1<<32+5, -256, -255, -251, -128, math.MinInt32, math.MaxInt32, math.MinInt, math.MinInt+1, math.MaxInt)
}

// overflows are those that may be.
func overflows() []int {
	l := []int{0}
	for n := 2; n <= 240; n++ {
		l = append(l, n)
	}
	return l
}

// notOverflows are those that may not be.
func notOverflows() []int {
	return []int{1, -1, -2, -240, 241, 242, 256, 258, 1<<16 + 2, 1 << 32, 1<<32 + 2, math.MinInt, math.MinInt + 2, math.MaxInt}
}

// notTicks are numbers that are neither ticks nor periods.
func notTicks() []int {
	return []int{-1, -2, -1000, math.MinInt32, math.MinInt, api.MaxNum + 1, 1 << 32, 1<<32 + 1, math.MaxInt}
}

// of is a pulse.
func of(t *testing.T, count, overflow int) api.Frame {
	t.Helper()
	f, e := pulse.Encode(count, overflow)
	if e != api.OK {
		t.Fatal(count, overflow, e)
	}
	return f
}

// period is a maker with one.
func period(t *testing.T, n, overflow, now int) *pulse.Maker {
	t.Helper()
	k := pulse.NewMaker()
	if e := k.Set(n, overflow, now); e != api.OK {
		t.Fatal(n, overflow, now, e)
	}
	return k
}

// ear is one of an overflow.
func ear(t *testing.T, overflow int) *pulse.Ear {
	t.Helper()
	e, errno := pulse.NewEar(overflow)
	if errno != api.OK || e == nil {
		t.Fatal(overflow, errno)
	}
	return e
}

// hears: it is heard, with so many gaps then.
func hears(t *testing.T, e *pulse.Ear, count, overflow, gaps int) {
	t.Helper()
	n := e.Heard()
	if errno := e.Hear(of(t, count, overflow)); errno != api.OK || e.Heard() != n+1 || e.Gaps() != gaps {
		t.Fatalf("the count %d: %d, heard %d behind %d, gaps %d, not %d", count, errno, e.Heard(), n, e.Gaps(), gaps)
	}
}

// tick is a tick at which a pulse came, and its count (0: none).
type tick struct{ now, count int }

// ticks are those at which a pulse comes, from one tick to another one.
func ticks(t *testing.T, k *pulse.Maker, from, to int) []tick {
	t.Helper()
	var l []tick
	for now := from; now <= to; now++ {
		f, is := k.Tick(now)
		if !is {
			if f != (api.Frame{}) {
				t.Fatal("a pulse that is none", f)
			}
			continue
		}
		if f.Id != 0x80 || f.Rtr || f.Len > 1 || f.Len == 1 != (f.Data[0] > 0) || f.Data != [8]byte{f.Data[0]} {
			t.Fatal(f)
		}
		l = append(l, tick{now, int(f.Data[0])})
	}
	return l
}

// The document's example: counted up to 3.
func TestExample(t *testing.T) {
	k := period(t, 1, 3, 0)
	for i, text := range []string{"080#01", "080#02", "080#03", "080#01"} {
		f, is := k.Tick(1 + i)
		if s, e := frame.Text(f); !is || e != api.OK || s != text {
			t.Fatal(i, s, is)
		}
	}
	if s, _ := frame.Text(of(t, 0, 0)); s != "080#" {
		t.Fatal(s)
	}
}

// P23.1: each count of each overflow; ErrArg ahead of ErrRange.
func TestEncode(t *testing.T) {
	for _, overflow := range numbers() {
		for _, count := range numbers() {
			f, e := pulse.Encode(count, overflow)
			want, wantE := api.Frame{}, api.OK
			switch {
			case !isOverflow(overflow):
				wantE = api.ErrArg
			case overflow == 0 && count == 0:
				want = api.Frame{Id: 0x80}
			case overflow > 0 && count >= 1 && count <= overflow:
				want = api.Frame{Id: 0x80, Len: 1, Data: [8]byte{byte(count)}}
			default:
				wantE = api.ErrRange
			}
			if f != want || e != wantE {
				t.Fatalf("Encode(%d, %d): %v, %v", count, overflow, f, e)
			}
		}
	}
}

// P23.2: without a period no pulse is ever due.
func TestNewMaker(t *testing.T) {
	k := pulse.NewMaker()
	if k == nil || k == pulse.NewMaker() {
		t.Fatal("NewMaker")
	}
	for _, now := range []int{math.MinInt, -1, 0, 1, 2, 100, api.MaxNum, math.MaxInt} {
		if f, is := k.Tick(now); is || f != (api.Frame{}) {
			t.Fatal(f)
		}
	}
}

// P23.2: each period from each tick on; a period of 0 is none; counts go from 1 up to the overflow, and again.
func TestPeriods(t *testing.T) {
	for _, overflow := range []int{0, 2, 3, 5, 240} {
		for n := range 9 {
			for now := range 9 {
				k := period(t, n, overflow, now)
				var want []tick
				count := 0
				for at := now + n; n > 0 && at <= 60; at += n {
					if overflow > 0 {
						count++
					}
					if count > overflow {
						count = 1
					}
					want = append(want, tick{at, count})
				}
				if got := ticks(t, k, now, 60); !slices.Equal(got, want) {
					t.Fatalf("%d, up to %d, from %d on: %v, not %v", n, overflow, now, got, want)
				}
			}
		}
	}
}

// P23.2: counts go up to each overflow, and are 1 behind it.
func TestCounts(t *testing.T) {
	for _, overflow := range overflows()[1:] {
		k := period(t, 1, overflow, 0)
		for i, got := range ticks(t, k, 0, 2*overflow+1) {
			if want := i%overflow + 1; got != (tick{i + 1, want}) {
				t.Fatal(overflow, i, got)
			}
		}
	}
}

// P23.2: Set begins anew, whatever was due, and counts from 1 on.
func TestSetAgain(t *testing.T) {
	for _, c := range []struct {
		n, overflow, now int
		want             []tick
	}{
		{3, 4, 8, []tick{{11, 1}, {14, 2}, {17, 3}, {20, 4}}},
		{5, 4, 8, []tick{{13, 1}, {18, 2}}},
		{2, 4, 5, []tick{{8, 1}, {9, 2}, {11, 3}, {13, 4}, {15, 1}, {17, 2}, {19, 3}}},
		{4, 2, 8, []tick{{12, 1}, {16, 2}, {20, 1}}},
		{4, 0, 8, []tick{{12, 0}, {16, 0}, {20, 0}}},
		{20, 4, 0, []tick{{20, 1}}},
		{0, 4, 8, nil},
		{0, 0, 0, nil},
		{4, 3, 0, []tick{{8, 1}, {12, 2}, {16, 3}, {20, 1}}}, // it was due at 4, and is told at the first tick behind
		{api.MaxNum, 4, 8, nil},
	} {
		k := period(t, 2, 4, 0)
		if got := ticks(t, k, 0, 7); !slices.Equal(got, []tick{{2, 1}, {4, 2}, {6, 3}}) {
			t.Fatal(got)
		}
		if e := k.Set(c.n, c.overflow, c.now); e != api.OK {
			t.Fatal(e)
		}
		if got := ticks(t, k, 8, 20); !slices.Equal(got, c.want) {
			t.Fatalf("%+v: %v", c, got)
		}
	}
}

// P23.2: behind no period, or no overflow, there may be one again.
func TestSetOn(t *testing.T) {
	k := period(t, 0, 0, 3)
	if got := ticks(t, k, 3, 9); len(got) != 0 {
		t.Fatal(got)
	}
	if k.Set(2, 0, 9) != api.OK {
		t.Fatal("Set")
	}
	if got := ticks(t, k, 9, 13); !slices.Equal(got, []tick{{11, 0}, {13, 0}}) {
		t.Fatal(got)
	}
	if k.Set(2, 240, 13) != api.OK {
		t.Fatal("Set")
	}
	if got := ticks(t, k, 13, 18); !slices.Equal(got, []tick{{15, 1}, {17, 2}}) {
		t.Fatal(got)
	}
}

// P23.2, P2: an error of Set, and all stays as it was.
func TestSetWrong(t *testing.T) {
	k := period(t, 5, 3, 0)
	if got := ticks(t, k, 0, 6); !slices.Equal(got, []tick{{5, 1}}) {
		t.Fatal(got)
	}
	for _, bad := range notTicks() {
		for _, good := range []int{0, 1, 7, api.MaxNum} {
			for _, overflow := range append(notOverflows(), 0, 2, 240) {
				if k.Set(bad, overflow, good) != api.ErrArg || k.Set(good, overflow, bad) != api.ErrArg || k.Set(bad, overflow, bad) != api.ErrArg {
					t.Fatal(bad, overflow, good)
				}
			}
		}
	}
	for _, bad := range notOverflows() {
		for _, n := range []int{0, 1, api.MaxNum} {
			if k.Set(n, bad, 0) != api.ErrArg || k.Set(0, bad, n) != api.ErrArg {
				t.Fatal(bad, n)
			}
		}
	}
	if got := ticks(t, k, 6, 20); !slices.Equal(got, []tick{{10, 2}, {15, 3}, {20, 1}}) {
		t.Fatal(got)
	}
}

// P23.2: what may be set is set.
func TestSetRight(t *testing.T) {
	for _, overflow := range overflows() {
		for _, n := range []int{0, 1, 2, api.MaxNum - 1, api.MaxNum} {
			for _, now := range []int{0, 1, api.MaxNum - 1, api.MaxNum} {
				if e := pulse.NewMaker().Set(n, overflow, now); e != api.OK {
					t.Fatal(n, overflow, now, e)
				}
			}
		}
	}
}

// P23.2: what is asked for late comes once, with the next count; the next one is due at a multiple of the period behind.
func TestTickLate(t *testing.T) {
	for _, c := range []struct{ late, next int }{{5, 10}, {6, 10}, {9, 10}, {10, 15}, {11, 15}, {14, 15}, {15, 20}, {52, 55}, {55, 60}, {1000004, 1000005}} {
		k := period(t, 5, 9, 0)
		if f, is := k.Tick(c.late); !is || f != of(t, 1, 9) {
			t.Fatal(c, f)
		}
		if got := ticks(t, k, c.late, c.next+5); !slices.Equal(got, []tick{{c.next, 2}, {c.next + 5, 3}}) {
			t.Fatal(c, got)
		}
	}
}

// P23.2: ticks that fall ask for what is not due yet, and count nothing.
func TestTickBack(t *testing.T) {
	k := period(t, 5, 9, 10)
	for _, now := range []int{14, 3, 0, -1, math.MinInt, 14} {
		if f, is := k.Tick(now); is || f != (api.Frame{}) {
			t.Fatal(now)
		}
	}
	if got := ticks(t, k, 0, 20); !slices.Equal(got, []tick{{15, 1}, {20, 2}}) {
		t.Fatal(got)
	}
	if got := ticks(t, k, 0, 25); !slices.Equal(got, []tick{{25, 3}}) {
		t.Fatal(got)
	}
}

// P23.2, P5: no pulse is due above api.MaxNum.
func TestTickEnd(t *testing.T) {
	const most = api.MaxNum
	for _, c := range []struct {
		n, now int
		asked  []int
		want   []int
	}{
		{1, most - 2, []int{most - 2, most - 1, most, most}, []int{most - 1, most}},
		{2, most - 2, []int{most - 2, most - 1, most, most}, []int{most}},
		{3, most - 2, []int{most - 2, most - 1, most, most}, nil},
		{3, most - 5, []int{most - 3, most - 2, most - 1, most}, []int{most - 2}},
		{most, 0, []int{most - 1, most, most}, []int{most}},
		{most, 1, []int{most - 1, most, most}, nil},
		{most, most, []int{most - 1, most, most}, nil},
		{1, 0, []int{most, most}, []int{most}},
		{5, 0, []int{most, most}, []int{most}},
		{2, 1, []int{most - 1, most, most}, []int{most - 1, most}},
	} {
		k := period(t, c.n, 0, c.now)
		var got []int
		for _, now := range c.asked {
			if _, is := k.Tick(now); is {
				got = append(got, now)
			}
		}
		if !slices.Equal(got, c.want) {
			t.Fatalf("%d from %d on: %v, not %v", c.n, c.now, got, c.want)
		}
	}
	k := period(t, most, 7, 0)
	if f, is := k.Tick(most); !is || f != of(t, 1, 7) {
		t.Fatal("due at the last tick")
	}
	if k.Set(2, 7, 8) != api.OK { // where none was due any more it begins anew, too
		t.Fatal("Set")
	}
	if got := ticks(t, k, 8, 12); !slices.Equal(got, []tick{{10, 1}, {12, 2}}) {
		t.Fatal(got)
	}
}

// P23.2: whatever is set and asked, by the document's words alone.
func TestMakerRandom(t *testing.T) {
	r := rand.New(rand.NewSource(23))
	for range 300 {
		k := pulse.NewMaker()
		n, overflow, count, due, now := 0, 0, 0, 0, r.Intn(5)
		for range 80 {
			now += r.Intn(6)
			if r.Intn(9) == 0 {
				n, overflow, count = r.Intn(7), []int{0, 2, 3, 240}[r.Intn(4)], 1
				due = now + n
				if e := k.Set(n, overflow, now); e != api.OK {
					t.Fatal(n, overflow, now, e)
				}
			}
			f, is := k.Tick(now)
			want := api.Frame{}
			if n > 0 && due <= now {
				want = api.Frame{Id: 0x80}
				if overflow > 0 {
					want = api.Frame{Id: 0x80, Len: 1, Data: [8]byte{byte(count)}}
				}
			}
			if f != want || is != (want != api.Frame{}) {
				t.Fatalf("at %d, due at %d: %v, %v, not %v", now, due, f, is, want)
			}
			if is {
				count++
			}
			if count > overflow {
				count = 1
			}
			for is && due <= now {
				due += n
			}
		}
	}
}

// P23.2, P6: two makers have nothing in common.
func TestTwoMakers(t *testing.T) {
	a, b := period(t, 2, 2, 0), period(t, 3, 5, 0)
	if got := ticks(t, a, 0, 9); !slices.Equal(got, []tick{{2, 1}, {4, 2}, {6, 1}, {8, 2}}) {
		t.Fatal(got)
	}
	if got := ticks(t, b, 0, 9); !slices.Equal(got, []tick{{3, 1}, {6, 2}, {9, 3}}) {
		t.Fatal(got)
	}
}

// P23.3: a hearer of an overflow that may be has heard nothing, and is on at no rate.
func TestNewEar(t *testing.T) {
	for _, overflow := range numbers() {
		e, errno := pulse.NewEar(overflow)
		if !isOverflow(overflow) {
			if e != nil || errno != api.ErrArg {
				t.Fatalf("NewEar(%d): %v, %v", overflow, e, errno)
			}
			continue
		}
		if e == nil || errno != api.OK || e.Heard() != 0 || e.Gaps() != 0 {
			t.Fatalf("NewEar(%d): %v, %v", overflow, e, errno)
		}
		for _, rate := range numbers() {
			if e.On(rate) {
				t.Fatal("on, and nothing was heard", overflow, rate)
			}
		}
	}
}

// wrong is a frame, and the error of it.
type wrong struct {
	f    api.Frame
	want api.Errno
}

// strangers are frames that are no pulses, whatever the overflow: made out of one of so many bytes.
func strangers(f api.Frame) []wrong {
	var l []wrong
	put := func(g api.Frame) { l = append(l, wrong{g, api.ErrForm}) }
	for _, id := range []int{0, 1, 0x7f, 0x81, 0x180, 0x780, api.MaxId, api.MaxId + 1, 0x880, -1, -0x80, 0x80 + 1<<16, 0x80 + 1<<32, math.MinInt, math.MinInt + 0x80, math.MaxInt} {
		g := f
		g.Id = id
		put(g)
		g.Rtr = true
		put(g)
	}
	for _, n := range []int{-1, 9, 10, 256, 257, 1 << 32, 1<<32 + 1, math.MinInt, math.MaxInt} {
		g := f
		g.Len = n
		put(g)
	}
	for at := f.Len; at < 8; at++ {
		g := f
		g.Data[at] = 1
		put(g)
	}
	for n := range 9 { // it asks for data
		put(api.Frame{Id: 0x80, Rtr: true, Len: n})
	}
	g := f
	g.Rtr = true
	put(g)
	return l
}

// wrongs are frames that a hearer of an overflow doesn't hear: ErrForm ahead of ErrLen, ErrLen ahead of ErrRange.
func wrongs(overflow int) []wrong {
	bytes := min(overflow, 1)
	l := append(strangers(api.Frame{Id: 0x80, Len: bytes, Data: [8]byte{byte(bytes)}}), strangers(api.Frame{Id: 0x80, Len: 3})...)
	for n := range 9 {
		if n == bytes {
			continue
		}
		for _, first := range []byte{0, 1, 241, 255} {
			if n > 0 || first == 0 {
				l = append(l, wrong{api.Frame{Id: 0x80, Len: n, Data: [8]byte{first}}, api.ErrLen})
			}
		}
	}
	for count := range 256 {
		if overflow > 0 && (count < 1 || count > overflow) {
			l = append(l, wrong{api.Frame{Id: 0x80, Len: 1, Data: [8]byte{byte(count)}}, api.ErrRange})
		}
	}
	return l
}

// P23.3, P2: what is not heard changes nothing: neither ahead of the first pulse nor behind one.
func TestHearWrong(t *testing.T) {
	for _, overflow := range []int{0, 2, 3, 239, 240} {
		fresh, e := ear(t, overflow), ear(t, overflow)
		first := min(overflow, 1)
		hears(t, e, first, overflow, 0)
		for _, x := range wrongs(overflow) {
			if got := fresh.Hear(x.f); got != x.want || fresh.Heard() != 0 || fresh.Gaps() != 0 || fresh.On(1) {
				t.Fatalf("up to %d: %+v: %d, not %d", overflow, x.f, got, x.want)
			}
			if got := e.Hear(x.f); got != x.want || e.Heard() != 1 || e.Gaps() != 0 || !e.On(1) || e.On(2) {
				t.Fatalf("up to %d: %+v: %d, not %d", overflow, x.f, got, x.want)
			}
		}
		hears(t, e, min(overflow, 2), overflow, 0) // as if nothing had come between
		hears(t, fresh, min(overflow, 2), overflow, 0)
	}
}

// P23.3: each count that may be is heard; of the first one any is right.
func TestHearFirst(t *testing.T) {
	for _, overflow := range overflows() {
		for count := min(overflow, 1); count <= overflow; count++ {
			hears(t, ear(t, overflow), count, overflow, 0)
		}
	}
}

// P23.3: a gap is each count that is not the one behind the last one's; uncounted pulses have none.
func TestGaps(t *testing.T) {
	for _, overflow := range []int{2, 3, 4, 7, 240} {
		for last := 1; last <= overflow; last++ {
			for count := 1; count <= overflow; count++ {
				e := ear(t, overflow)
				hears(t, e, last, overflow, 0)
				gaps := 1
				if count == last+1 || last == overflow && count == 1 {
					gaps = 0
				}
				hears(t, e, count, overflow, gaps)
				hears(t, e, count%overflow+1, overflow, gaps) // counted on from there
			}
		}
	}
	e := ear(t, 0)
	for range 500 {
		hears(t, e, 0, 0, 0)
	}
	if e.Heard() != 500 {
		t.Fatal(e.Heard())
	}
}

// P23.3: gaps add up.
func TestGapsRow(t *testing.T) {
	e := ear(t, 5)
	for _, c := range []struct{ count, gaps int }{{3, 0}, {4, 0}, {5, 0}, {1, 0}, {3, 1}, {3, 2}, {2, 3}, {3, 3}, {5, 4}, {5, 5}, {1, 5}, {2, 5}, {1, 6}} {
		hears(t, e, c.count, 5, c.gaps)
	}
	if e.Heard() != 13 {
		t.Fatal(e.Heard())
	}
}

// P23.3: a counted pulse is on by its count, however many were heard.
func TestOnCounted(t *testing.T) {
	for _, overflow := range []int{2, 3, 12, 100, 240} {
		for _, ahead := range []int{0, 1, 4} {
			for count := 1; count <= overflow; count++ {
				e := ear(t, overflow)
				for range ahead {
					e.Hear(of(t, 1, overflow))
				}
				e.Hear(of(t, count, overflow))
				for _, rate := range numbers() {
					want := rate >= 1 && rate <= 240 && count%rate == 0
					if e.On(rate) != want {
						t.Fatalf("the count %d of %d, at the rate %d: %v", count, overflow, rate, !want)
					}
				}
			}
		}
	}
}

// P23.3: one that is not counted is on by its number.
func TestOnNumber(t *testing.T) {
	e := ear(t, 0)
	for number := 1; number <= 730; number++ {
		hears(t, e, 0, 0, 0)
		for _, rate := range numbers() {
			want := rate >= 1 && rate <= 240 && number%rate == 0
			if e.On(rate) != want {
				t.Fatalf("the number %d, at the rate %d: %v", number, rate, !want)
			}
		}
	}
}

// P23.3: On asks alone: it may be asked again.
func TestOnAsks(t *testing.T) {
	e := ear(t, 4)
	e.Hear(of(t, 4, 4))
	for range 3 {
		if !e.On(2) || !e.On(4) || e.On(3) || e.Heard() != 1 || e.Gaps() != 0 {
			t.Fatal("On changes something")
		}
	}
}

// P23.3, P6: two hearers have nothing in common.
func TestTwoEars(t *testing.T) {
	a, b := ear(t, 3), ear(t, 3)
	hears(t, a, 1, 3, 0)
	hears(t, b, 3, 3, 0)
	hears(t, a, 3, 3, 1)
	hears(t, b, 1, 3, 0)
	if a.Heard() != 2 || a.Gaps() != 1 || b.Heard() != 2 || !a.On(3) || b.On(3) {
		t.Fatal("they have something in common")
	}
}

// P23.4: what a maker makes, a hearer of its overflow hears without a gap, at whichever ticks the maker is asked.
func TestMakerAndEar(t *testing.T) {
	r := rand.New(rand.NewSource(4))
	for _, overflow := range overflows() {
		k, e := period(t, 1+r.Intn(4), overflow, 7), ear(t, overflow)
		now, n := 7, 0
		for range 4 * (overflow + 9) {
			now += 1 + r.Intn(9)
			f, is := k.Tick(now)
			if !is {
				continue
			}
			n++
			if errno := e.Hear(f); errno != api.OK || e.Heard() != n || e.Gaps() != 0 {
				t.Fatal(overflow, now, errno, e.Heard(), e.Gaps())
			}
		}
		if n <= overflow+9 {
			t.Fatal("hardly any pulse came", overflow, n)
		}
	}
}

// P23.4: without gaps each rate is on once in rate pulses, if they are not counted, or the overflow can be divided by the rate.
func TestRates(t *testing.T) {
	for _, overflow := range []int{0, 2, 6, 7, 60, 240} {
		for rate := 1; rate <= 240; rate++ {
			if overflow > 0 && overflow%rate != 0 {
				continue
			}
			k, e := period(t, 1, overflow, 0), ear(t, overflow)
			for now := 1; now <= 3*rate+overflow; now++ {
				f, _ := k.Tick(now)
				if e.Hear(f) != api.OK || e.Gaps() != 0 || e.On(rate) != (now%rate == 0) {
					t.Fatal(overflow, rate, now)
				}
			}
		}
	}
}

// P23.3, P1: a nil maker, and a nil hearer.
func TestNil(t *testing.T) {
	var k *pulse.Maker
	var e *pulse.Ear
	for _, n := range append(notTicks(), 0, 1, 2, 5, 241) {
		if k.Set(n, 0, 1) != api.ErrNil || k.Set(1, n, 1) != api.ErrNil || k.Set(1, 0, n) != api.ErrNil {
			t.Fatal("Set")
		}
		if f, is := k.Tick(n); is || f != (api.Frame{}) {
			t.Fatal(f)
		}
		if e.On(n) || e.Heard() != 0 || e.Gaps() != 0 {
			t.Fatal("a nil hearer hears")
		}
	}
	for _, x := range wrongs(3) {
		if e.Hear(x.f) != api.ErrNil {
			t.Fatal(x.f)
		}
	}
	if e.Hear(of(t, 0, 0)) != api.ErrNil || e.Hear(of(t, 1, 2)) != api.ErrNil || e.Heard() != 0 {
		t.Fatal("a nil hearer hears")
	}
}

// P1: no call made it, and nothing panics.
func TestNoCallMadeIt(t *testing.T) {
	k := &pulse.Maker{}
	k.Tick(1)
	k.Set(1, 2, 1)
	k.Tick(2)
	e := &pulse.Ear{}
	e.On(1)
	e.Hear(of(t, 0, 0))
	e.Hear(of(t, 1, 2))
	e.Heard()
	e.Gaps()
	e.On(1)
}
