package prod_test

import (
	"bytes"
	"iter"
	"math"
	"math/rand"
	"slices"
	"testing"

	"tripwire/api"
	"tripwire/pair"
	"tripwire/prod"
)

// The calls have just these signatures.
var (
	_ func(api.Channel) int                                         = prod.Size
	_ func(api.Channel) bool                                        = prod.Sends
	_ func() *prod.Maker                                            = prod.New
	_ func(*prod.Maker, int, bool, api.Channel, []byte) []api.Frame = (*prod.Maker).Step
	_ func(*prod.Maker, int) (int, bool)                            = (*prod.Maker).Next
	_ func(*prod.Maker) int                                         = (*prod.Maker).Sent
	_ func(*prod.Maker) *prod.Maker                                 = (*prod.Maker).Fork
	_ func(api.Channel, int, int) iter.Seq[int]                     = prod.Times
)

// table is one that sends values of two bytes.
func table(time int) api.Channel {
	x := api.Channel{Dir: api.Sends, Time: time, Gap: 2, Plain: 0x101, Turned: 0x102, N: 2}
	x.Map[0] = api.Slot{Key: api.Key{Index: 0x2000, Sub: 1}, Bits: 8}
	x.Map[1] = api.Slot{Key: api.Key{Index: 0x2000, Sub: 2}, Bits: 8}
	return x
}

// sized is a table of slots of one byte each.
func sized(n int) api.Channel {
	x := table(10)
	x.N = n
	for i := range x.Map {
		x.Map[i] = api.Slot{Key: api.Key{Index: 0x2000, Sub: i + 1}, Bits: 8}
	}
	return x
}

// others are tables that send values of two bytes, and are unlike the first one in one thing each.
func others(x api.Channel) []api.Channel {
	var l []api.Channel
	change := func(by func(y *api.Channel)) {
		y := x
		by(&y)
		l = append(l, y)
	}
	change(func(y *api.Channel) { y.Time++ })
	change(func(y *api.Channel) { y.Gap++ })
	change(func(y *api.Channel) { y.Gap = -7 })
	change(func(y *api.Channel) { y.Plain++ })
	change(func(y *api.Channel) { y.Turned++ })
	change(func(y *api.Channel) { y.N = 1; y.Map[0].Bits = 16 })
	change(func(y *api.Channel) { y.Map[0].Key.Index++ })
	change(func(y *api.Channel) { y.Map[1].Key.Sub++ })
	change(func(y *api.Channel) { y.Map[2].Key.Index++ }) // slots behind the first N are a part of it, too
	change(func(y *api.Channel) { y.Map[7].Bits = 5 })
	return l
}

// refused are tables that do not send.
func refused(x api.Channel) []api.Channel {
	var l []api.Channel
	change := func(by func(y *api.Channel)) {
		y := x
		by(&y)
		l = append(l, y)
	}
	change(func(y *api.Channel) { y.Dir = api.Takes })
	change(func(y *api.Channel) { y.Dir = api.Off })
	change(func(y *api.Channel) { y.Time = 0 })
	change(func(y *api.Channel) { y.Time = 65536 })
	change(func(y *api.Channel) { y.Plain = -1 })
	change(func(y *api.Channel) { y.Turned = api.MaxId + 1 })
	change(func(y *api.Channel) { y.N = 0 })
	change(func(y *api.Channel) { y.N = 9 })
	change(func(y *api.Channel) { y.Map[1].Bits = 7 })
	return append(l, api.Channel{})
}

// numbers are small ones, and such as are like them in their low bits.
func numbers() []int {
	var l []int
	for i := -20; i <= 20; i++ {
		l = append(l, i)
	}
	return append(l, 255, 256, 257, 264, -255, -256, 2046, 2047, 2048, 2049, 65534, 65535, 65536, 65537, 1<<31, 1<<32, 1<<32+1, 1<<32+8, math.MinInt32, math.MaxInt32, math.MinInt, math.MinInt+1, math.MaxInt)
}

// notTicks are numbers that are no ticks.
func notTicks() []int {
	return []int{-1, -2, -1000, math.MinInt32, math.MinInt, api.MaxNum + 1, 1 << 32, 1<<32 + 1, math.MaxInt}
}

// some is n bytes.
func some(r *rand.Rand, n int) []byte {
	b := make([]byte, n)
	r.Read(b)
	return b
}

// sends does a step that is to send the pair of the table and the value.
func sends(t *testing.T, k *prod.Maker, now int, x api.Channel, b []byte) {
	t.Helper()
	want, e := pair.Make(x.Plain, x.Turned, b)
	if e != api.OK {
		t.Fatal(x, b, e)
	}
	was := k.Sent()
	if got := k.Step(now, true, x, b); !slices.Equal(got, want) {
		t.Fatalf("at %d: %v, not %v", now, got, want)
	}
	if k.Sent() != was+1 {
		t.Fatalf("at %d: %d sent, behind %d", now, k.Sent(), was)
	}
}

// silent does a step that is to send nothing.
func silent(t *testing.T, k *prod.Maker, now int, on bool, x api.Channel, b []byte) {
	t.Helper()
	was := k.Sent()
	if got := k.Step(now, on, x, b); len(got) > 0 || k.Sent() != was {
		t.Fatalf("at %d: %v, %d sent behind %d", now, got, k.Sent(), was)
	}
}

// next is when it is to be due.
func next(t *testing.T, k *prod.Maker, now, want int) {
	t.Helper()
	if n, is := k.Next(now); n != want || !is {
		t.Fatalf("Next(%d): %d, %v, not %d", now, n, is, want)
	}
}

// rests: it is at rest.
func rests(t *testing.T, k *prod.Maker) {
	t.Helper()
	for _, now := range append(notTicks(), 0, 1, 10, api.MaxNum) {
		if n, is := k.Next(now); n != 0 || is {
			t.Fatalf("not at rest: Next(%d): %d, %v", now, n, is)
		}
	}
}

// The document's example.
func TestExample(t *testing.T) {
	x, k := table(10), prod.New()
	var went []int
	for now := 3; now <= 25; now++ {
		if l := k.Step(now, true, x, []byte{1, 2}); len(l) > 0 {
			went = append(went, now)
		}
	}
	want := []int{3, 13, 23}
	if !slices.Equal(went, want) || !slices.Equal(slices.Collect(prod.Times(x, 3, 25)), want) {
		t.Fatal(went)
	}
}

// P29.1: of each N, and of slots of all widths: those behind the first N are not looked at.
func TestSize(t *testing.T) {
	r := rand.New(rand.NewSource(291))
	widths := []int{8, 16, 32}
	for range 3000 {
		var x api.Channel
		for i := range x.Map {
			x.Map[i].Bits = widths[r.Intn(3)]
		}
		if r.Intn(2) == 0 {
			x.Map[r.Intn(api.MaxMap)].Bits = numbers()[r.Intn(len(numbers()))]
		}
		for _, n := range numbers() {
			x.N = n
			want, right := 0, n >= 0 && n <= 8
			for i := 0; right && i < n; i++ {
				want += x.Map[i].Bits / 8
				right = slices.Contains(widths, x.Map[i].Bits)
			}
			if !right {
				want = 0
			}
			if got := prod.Size(x); got != want {
				t.Fatal(x, got, want)
			}
		}
	}
	if prod.Size(api.Channel{}) != 0 {
		t.Fatal("the zero table")
	}
}

// P29.1: each of its parts by itself; the gap, and what is mapped, are not looked at.
func TestSends(t *testing.T) {
	for _, n := range numbers() {
		x := table(10)
		id := n >= 0 && n <= 2047
		check := func(y api.Channel, want bool) {
			t.Helper()
			if prod.Sends(y) != want {
				t.Fatal(n, y)
			}
		}
		y := x
		y.Dir = api.Dir(n)
		check(y, n == 1)
		y = x
		y.Time = n
		check(y, n >= 1 && n <= 65535)
		y = x
		y.Gap = n
		check(y, true)
		y = x
		y.Plain = n
		check(y, id)
		y = x
		y.Turned = n
		check(y, id)
		y.Plain = n // both alike
		check(y, id)
		y = sized(n)
		check(y, n >= 1 && n <= 8)
		y = x
		y.Map[1] = api.Slot{Bits: n}
		check(y, n == 8 || n == 16 || n == 32)
		y = x
		y.Map[2] = api.Slot{Key: api.Key{Index: n, Sub: n}, Bits: n}
		check(y, true)
	}
	for _, x := range others(table(10)) {
		if !prod.Sends(x) {
			t.Fatal(x)
		}
	}
	for _, x := range refused(table(10)) {
		if prod.Sends(x) {
			t.Fatal(x)
		}
	}
}

// P29.1: tables of more bytes than a frame has.
func TestTooLong(t *testing.T) {
	for n := 1; n <= 8; n++ {
		for _, bits := range []int{8, 16, 32} {
			x := sized(n)
			for i := range x.Map {
				x.Map[i].Bits = bits
			}
			size := n * bits / 8
			if prod.Size(x) != size || prod.Sends(x) != (size <= 8) {
				t.Fatal(n, bits)
			}
			k := prod.New()
			if size > 8 {
				silent(t, k, 1, true, x, make([]byte, size))
				silent(t, k, 2, true, x, make([]byte, 8))
				rests(t, k)
			} else {
				sends(t, k, 1, x, make([]byte, size))
			}
		}
	}
}

// P29.1: of all sizes: the pair of what is handed in at the tick; a value of another size puts it to rest.
func TestValues(t *testing.T) {
	r := rand.New(rand.NewSource(292))
	for n := 1; n <= 8; n++ {
		x, k, now := sized(n), prod.New(), 0
		for range 50 {
			sends(t, k, now, x, some(r, n))
			silent(t, k, now+9, true, x, some(r, n))
			now += 10
		}
		sends(t, k, now, x, some(r, n))
		for _, m := range []int{0, 1, 2, 3, 4, 5, 6, 7, 8, 9, 16, 256, 256 + n} {
			if m == n {
				continue
			}
			silent(t, k, now, true, x, some(r, m))
			rests(t, k)
			silent(t, k, now, true, x, nil)
			rests(t, k)
			now++ // sooner than its time: it was at rest
			sends(t, k, now, x, some(r, n))
			next(t, k, now, 10)
		}
	}
}

// P29.1: it was at rest: it is due at once, at each tick, the first and the last one, too.
func TestFirst(t *testing.T) {
	for _, now := range []int{0, 1, 2, 9, 10, 11, 65535, 1 << 20, api.MaxNum - 1, api.MaxNum} {
		k, x := prod.New(), table(10)
		rests(t, k)
		silent(t, k, now, false, x, []byte{1, 2})
		rests(t, k)
		sends(t, k, now, x, []byte{1, 2})
		next(t, k, now, 10)
		silent(t, k, now, true, x, []byte{1, 2})
		next(t, k, now, 10)
	}
}

// P29.1: of all times: at no tick too soon, and at the very tick.
func TestTime(t *testing.T) {
	for _, time := range []int{1, 2, 3, 9, 255, 256, 65534, 65535} {
		k, x, now := prod.New(), table(time), 7
		sends(t, k, now, x, []byte{0, 0})
		for range 3 {
			for tick := now; tick < now+time; tick++ {
				next(t, k, tick, now+time-tick)
				silent(t, k, tick, true, x, []byte{1, 1})
			}
			now += time
			next(t, k, now, 0)
			sends(t, k, now, x, []byte{2, 2})
		}
	}
}

// P29.1: steps that come late: the time is reckoned from the pair that was sent last.
func TestLate(t *testing.T) {
	k, x, b := prod.New(), table(10), []byte{3, 4}
	sends(t, k, 3, x, b)
	next(t, k, 15, 0)
	sends(t, k, 15, x, b)
	next(t, k, 15, 10)
	for now := 15; now < 25; now++ {
		silent(t, k, now, true, x, b)
	}
	sends(t, k, 25, x, b)
	sends(t, k, 1000, x, b)
	silent(t, k, 1009, true, x, b)
	sends(t, k, 1010, x, b)
	if k.Sent() != 5 {
		t.Fatal(k.Sent())
	}
}

// P29.1: it is put to rest by whatever is not right; then it is due at once.
func TestRest(t *testing.T) {
	x, b := table(10), []byte{3, 4}
	k, now := prod.New(), 0
	for _, y := range refused(x) {
		sends(t, k, now, x, b)
		silent(t, k, now+1, true, y, b)
		rests(t, k)
		silent(t, k, now+1, true, y, nil)
		rests(t, k)
		sends(t, k, now+2, x, b)
		silent(t, k, now+3, false, x, b)
		rests(t, k)
		silent(t, k, now+3, false, y, b)
		now += 3 // at the same tick
		rests(t, k)
	}
	sends(t, k, now, x, b)
	silent(t, k, now, false, x, b)
	rests(t, k)
	sends(t, k, now, x, b)
}

// P29.1: a table that is another one in anything at all is sent by at once; and its time counts then.
func TestOtherTable(t *testing.T) {
	x, b := table(10), []byte{3, 4}
	k, now := prod.New(), 5
	for _, y := range others(x) {
		sends(t, k, now, x, b)
		sends(t, k, now, y, b) // at the same tick, even
		silent(t, k, now+1, true, y, b)
		next(t, k, now+1, y.Time-1)
		sends(t, k, now+2, x, b)
		sends(t, k, now+3, y, b)
		now += 3 + y.Time
		silent(t, k, now-1, true, y, b)
		sends(t, k, now, y, b)
		now++
	}
}

// P29.1: what is no tick does nothing: it does not rest, nor send.
func TestNoTicks(t *testing.T) {
	x, b := table(10), []byte{3, 4}
	for _, no := range notTicks() {
		k := prod.New()
		silent(t, k, no, true, x, b)
		rests(t, k)
		sends(t, k, 4, x, b)
		silent(t, k, no, true, x, b)
		silent(t, k, no, false, x, b)
		silent(t, k, no, true, api.Channel{}, nil)
		for _, y := range others(x) {
			silent(t, k, no, true, y, b)
		}
		next(t, k, 4, 10)
		silent(t, k, 13, true, x, b)
		sends(t, k, 14, x, b)
		silent(t, k, 15, false, x, b)
		silent(t, k, no, true, x, b)
		rests(t, k)
	}
}

// P29.2: each tick one less, down to 0, and no lower; P5: nothing goes round, whatever is asked.
func TestNext(t *testing.T) {
	k, x := prod.New(), table(10)
	sends(t, k, 5, x, []byte{1, 2})
	for now := range 40 {
		next(t, k, now, max(0, 15-now))
	}
	next(t, k, api.MaxNum, 0)
	next(t, k, math.MaxInt, 0)
	next(t, k, -1, 16)
	next(t, k, math.MinInt, math.MaxInt)
	next(t, k, math.MinInt+1, math.MaxInt)
	next(t, k, math.MinInt+15, math.MaxInt)
	next(t, k, math.MinInt+16, math.MaxInt)
	next(t, k, math.MinInt+17, math.MaxInt-1)
	k = prod.New()
	sends(t, k, api.MaxNum, table(65535), []byte{1, 2})
	next(t, k, api.MaxNum, 65535)
	next(t, k, 0, api.MaxNum+65535)
	next(t, k, math.MinInt, math.MaxInt)
	next(t, k, math.MaxInt, 0)
	silent(t, k, api.MaxNum, true, table(65535), []byte{1, 2})
}

// P29.2: how many it sent is counted on when it rests, and by other tables.
func TestSent(t *testing.T) {
	k, b := prod.New(), []byte{1, 2}
	if k.Sent() != 0 {
		t.Fatal(k.Sent())
	}
	n := 0
	for _, x := range others(table(1)) {
		for now := range 20 {
			sends(t, k, 20*n+now*x.Time, x, b)
			n++
			silent(t, k, 20*n+now*x.Time, now%2 == 0, api.Channel{}, b)
			if k.Sent() != n {
				t.Fatal(k.Sent(), n)
			}
		}
	}
}

// step is what is handed in at a tick.
type step struct {
	now   int
	on    bool
	table api.Channel
	size  int
}

// right: may it send at that step?
func (s step) right() bool { return s.on && prod.Sends(s.table) && s.size == prod.Size(s.table) }

// due tells of the last of all steps, and of what was sent at those ahead, if it sends.
func due(all []step, sent []bool) bool {
	last := all[len(all)-1]
	if !last.right() {
		return false
	}
	for i := len(all) - 2; i >= 0; i-- {
		if !all[i].right() || all[i].table != last.table {
			return true // it was at rest, or had another table, and sent nothing by this one since
		}
		if sent[i] {
			return last.now-all[i].now >= last.table.Time
		}
	}
	return true
}

// P29.1, P29.2, P29.4: any steps, held against all that was done ahead.
func TestAnySteps(t *testing.T) {
	r := rand.New(rand.NewSource(293))
	for range 1500 {
		x := table(1 + r.Intn(6))
		tables := append(others(x), refused(x)...)
		k, now := prod.New(), r.Intn(50)
		var all []step
		var sent []bool
		n := 0
		for range 40 {
			s := step{now: now, on: r.Intn(12) > 0, table: x, size: 2}
			if r.Intn(12) == 0 {
				s.table = tables[r.Intn(len(tables))]
			}
			if r.Intn(12) == 0 {
				s.size = r.Intn(4)
			}
			b := some(r, s.size)
			all = append(all, s)
			want := due(all, sent)
			sent = append(sent, want)
			got := k.Step(now, s.on, s.table, b)
			if want {
				n++
				two, _ := pair.Make(s.table.Plain, s.table.Turned, b)
				if !slices.Equal(got, two) {
					t.Fatal(all, got)
				}
			}
			_, works := k.Next(now)
			if len(got) > 0 != want || k.Sent() != n || works != s.right() {
				t.Fatal(all, got, k.Sent(), n, works)
			}
			now += r.Intn(3)
		}
	}
}

// P29.2: from the first tick on, up to the last one.
func TestTimes(t *testing.T) {
	for time := 1; time <= 12; time++ {
		x := table(time)
		for from := -3; from < 20; from++ {
			for to := -5; to < 50; to++ {
				var want []int
				for now := max(from, 0); from >= 0 && now <= to; now++ {
					if (now-from)%time == 0 {
						want = append(want, now)
					}
				}
				if got := slices.Collect(prod.Times(x, from, to)); !slices.Equal(got, want) {
					t.Fatal(time, from, to, got)
				}
			}
		}
	}
}

// P29.2, P5: at the greatest ticks, and what is none.
func TestTimesEdges(t *testing.T) {
	of := func(time, from, to int, want ...int) {
		t.Helper()
		if got := slices.Collect(prod.Times(table(time), from, to)); !slices.Equal(got, want) {
			t.Fatal(time, from, to, got)
		}
	}
	of(65535, api.MaxNum-65535, api.MaxNum, api.MaxNum-65535, api.MaxNum)
	of(65535, api.MaxNum-65534, api.MaxNum, api.MaxNum-65534)
	of(1, api.MaxNum-2, api.MaxNum, api.MaxNum-2, api.MaxNum-1, api.MaxNum)
	of(1, api.MaxNum, api.MaxNum, api.MaxNum)
	of(1, api.MaxNum, api.MaxNum-1)
	of(1, 0, 0, 0)
	for _, no := range notTicks() {
		of(10, no, 100)
		of(10, no, api.MaxNum)
		of(10, no, no)
		of(10, 3, no)
		of(10, api.MaxNum, no)
	}
	of(10, math.MinInt, math.MaxInt)
	of(10, math.MaxInt, math.MinInt)
	for _, x := range refused(table(10)) {
		for now := range prod.Times(x, 0, 100) {
			t.Fatal(x, now)
		}
	}
	n := 0
	for now := range prod.Times(table(65535), 0, api.MaxNum) {
		if now != n*65535 {
			t.Fatal(now, n)
		}
		n++
	}
	if n != api.MaxNum/65535+1 {
		t.Fatal(n)
	}
}

// P7: it is told as often as it is ranged over, each time from its beginning; who stops has it told no more.
func TestTimesAgain(t *testing.T) {
	all := prod.Times(table(1), 0, api.MaxNum)
	for stop := range 20 {
		var got []int
		for now := range all {
			got = append(got, now)
			if len(got) > stop {
				break
			}
		}
		if len(got) != stop+1 || got[0] != 0 || got[stop] != stop {
			t.Fatal(stop, got)
		}
	}
	calls := 0
	all(func(int) bool {
		calls++
		return calls < 3
	})
	if calls != 3 {
		t.Fatal(calls)
	}
	few := prod.Times(table(10), 3, 25)
	for range 3 {
		for a := range few {
			if got := slices.Collect(few); !slices.Equal(got, []int{3, 13, 23}) || a < 3 {
				t.Fatal(a, got)
			}
		}
	}
}

// P29.3: on, tick by tick: at the ticks of Times, and at no other ones; each pair with the value of its tick.
func TestTickByTick(t *testing.T) {
	r := rand.New(rand.NewSource(294))
	for range 200 {
		x, from := sized(1+r.Intn(8)), r.Intn(100)
		x.Time = 1 + r.Intn(20)
		to := from + r.Intn(100)
		k := prod.New()
		for now := range from { // it may have been at rest for long
			silent(t, k, now, false, x, some(r, x.N))
		}
		times := slices.Collect(prod.Times(x, from, to))
		for now := from; now <= to; now++ {
			b := some(r, x.N)
			if slices.Contains(times, now) {
				sends(t, k, now, x, b)
			} else {
				silent(t, k, now, true, x, b)
			}
		}
		if k.Sent() != len(times) || len(times) != (to-from)/x.Time+1 {
			t.Fatal(k.Sent(), times)
		}
	}
}

// P29.2, P4: a fork stands alike, and neither is changed by what becomes of the other one.
func TestFork(t *testing.T) {
	x, b := table(10), []byte{1, 2}
	rests(t, prod.New().Fork())
	k := prod.New()
	sends(t, k, 5, x, b)
	f := k.Fork()
	if f == k || f.Sent() != 1 {
		t.Fatal("no fork")
	}
	next(t, f, 6, 9)
	silent(t, f, 6, true, x, b)
	silent(t, f, 14, true, x, b)
	sends(t, f, 15, x, b)
	next(t, f, 15, 10)
	next(t, k, 15, 0)
	if k.Sent() != 1 || f.Sent() != 2 {
		t.Fatal(k.Sent(), f.Sent())
	}
	silent(t, k, 15, false, x, b)
	rests(t, k)
	next(t, f, 15, 10)
	g := k.Fork()
	rests(t, g)
	if g.Sent() != 1 {
		t.Fatal(g.Sent())
	}
	sends(t, g, 16, x, b)
	rests(t, k)
}

// P3: what is handed in stays as it is, and is not kept; each answer is memory of its own.
func TestMemory(t *testing.T) {
	x, k := table(1), prod.New()
	room := []byte{1, 2, 3, 4}
	one := k.Step(0, true, x, room[:2])
	two := k.Step(1, true, x, room[:2])
	if !bytes.Equal(room, []byte{1, 2, 3, 4}) {
		t.Fatal(room)
	}
	room[0] = 9
	one[0].Data[0], one[1].Id = 77, 77
	if want, _ := pair.Make(x.Plain, x.Turned, []byte{1, 2}); !slices.Equal(two, want) {
		t.Fatal(two)
	}
	_ = append(one, api.Frame{Id: 5})
	sends(t, k, 2, x, []byte{1, 2})
}

// P6: two makers have nothing in common.
func TestApart(t *testing.T) {
	x, b := table(10), []byte{1, 2}
	one, two := prod.New(), prod.New()
	sends(t, one, 5, x, b)
	rests(t, two)
	sends(t, two, 7, x, b)
	silent(t, two, 8, false, x, b)
	next(t, one, 8, 7)
	sends(t, one, 15, x, b)
	if one.Sent() != 2 || two.Sent() != 1 {
		t.Fatal(one.Sent(), two.Sent())
	}
}

// P29.2, P1: a nil maker.
func TestNil(t *testing.T) {
	var k *prod.Maker
	for _, now := range append(notTicks(), 0, 1, 10, api.MaxNum) {
		for _, x := range append(refused(table(10)), table(10)) {
			silent(t, k, now, true, x, []byte{1, 2})
			silent(t, k, now, false, x, nil)
		}
	}
	rests(t, k)
	if k.Sent() != 0 || k.Fork() != nil {
		t.Fatal("nil")
	}
}

// P1: no call made it, and nothing panics.
func TestNoCallMadeIt(t *testing.T) {
	for _, now := range append(notTicks(), 0, 1, 10, api.MaxNum) {
		for _, n := range numbers() {
			k, x := &prod.Maker{}, table(n)
			x.N, x.Plain, x.Turned, x.Dir = n, n, n, api.Dir(n)
			k.Step(now, true, x, []byte{1, 2})
			k.Step(now, true, table(n), []byte{1, 2})
			k.Next(now)
			k.Next(n)
			k.Sent()
			k.Fork().Step(n, true, x, nil)
			prod.Size(x)
			prod.Sends(x)
			for range prod.Times(x, now, n) {
				break
			}
		}
	}
}
