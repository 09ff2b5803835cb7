package cons_test

import (
	"bytes"
	"math"
	"math/rand"
	"reflect"
	"slices"
	"testing"

	"tripwire/api"
	"tripwire/cons"
	"tripwire/frame"
	"tripwire/pair"
	"tripwire/prod"
)

// The calls have just these signatures.
var (
	_ func(api.Channel) bool                                = cons.Takes
	_ func() *cons.Taker                                    = cons.New
	_ func(*cons.Taker, int, bool, api.Channel) api.Cause   = (*cons.Taker).Begin
	_ func(*cons.Taker, int, api.Frame) ([]byte, api.Cause) = (*cons.Taker).Hear
	_ func(*cons.Taker) bool                                = (*cons.Taker).Works
	_ func(*cons.Taker) api.Cause                           = (*cons.Taker).Failed
	_ func(*cons.Taker) ([]byte, bool)                      = (*cons.Taker).Value
	_ func(*cons.Taker)                                     = (*cons.Taker).Reset
	_ func(*cons.Taker) *cons.Taker                         = (*cons.Taker).Fork
)

const (
	plainId  = 0x101
	turnedId = 0x102
)

// table is one that takes values of so many bytes.
func table(time, gap, size int) api.Channel {
	x := api.Channel{Dir: api.Takes, Time: time, Gap: gap, Plain: plainId, Turned: turnedId, N: size}
	for i := range x.Map {
		x.Map[i] = api.Slot{Key: api.Key{Index: 0x2100, Sub: i + 1}, Bits: 8}
	}
	return x
}

// changed are tables, each made of one by one of some changes.
func changed(x api.Channel, changes ...func(y *api.Channel)) []api.Channel {
	var l []api.Channel
	for _, by := range changes {
		y := x
		by(&y)
		l = append(l, y)
	}
	return l
}

// others are tables that take values of as many bytes, and are unlike the first one in one thing each.
func others(x api.Channel) []api.Channel {
	return changed(x,
		func(y *api.Channel) { y.Time++ },
		func(y *api.Channel) { y.Gap++ },
		func(y *api.Channel) { y.Plain = 0 },
		func(y *api.Channel) { y.Turned = api.MaxId },
		func(y *api.Channel) { y.Plain, y.Turned = y.Turned, y.Plain },
		func(y *api.Channel) { y.Map[0].Key.Index++ },
		func(y *api.Channel) { y.Map[1].Key.Sub++ },
		func(y *api.Channel) { y.Map[7].Bits = 5 }, // slots behind the first N are a part of it, too
	)
}

// refused are tables that do not take.
func refused(x api.Channel) []api.Channel {
	return append(changed(x,
		func(y *api.Channel) { y.Dir = api.Sends },
		func(y *api.Channel) { y.Dir = api.Off },
		func(y *api.Channel) { y.Time = 0 },
		func(y *api.Channel) { y.Time = 65536 },
		func(y *api.Channel) { y.Gap = 0 },
		func(y *api.Channel) { y.Gap = 65536 },
		func(y *api.Channel) { y.Plain = -1 },
		func(y *api.Channel) { y.Turned = api.MaxId + 1 },
		func(y *api.Channel) { y.Turned = y.Plain },
		func(y *api.Channel) { y.N = 0 },
		func(y *api.Channel) { y.N = 9 },
		func(y *api.Channel) { y.Map[0].Bits = 7 },
	), api.Channel{})
}

// numbers are small ones, and such as are like them in their low bits.
func numbers() []int {
	var l []int
	for i := -20; i <= 20; i++ {
		l = append(l, i)
	}
	return append(l, 255, 256, 257, 264, -255, -256, 2046, 2047, 2048, 2049, 65534, 65535, 65536, 65537, 1<<31, 1<<32, 1<<32+1, 1<<32+8, math.MinInt32, math.MaxInt32, math.MinInt, math.MinInt+1, math.MaxInt)
}

// notTicks are numbers that are no ticks.
func notTicks() []int {
	return []int{-1, -2, -1000, math.MinInt32, math.MinInt, api.MaxNum + 1, 1 << 32, 1<<32 + 1, math.MaxInt}
}

// some is n bytes.
func some(r *rand.Rand, n int) []byte {
	b := make([]byte, n)
	r.Read(b)
	return b
}

// turned is bytes with each bit turned, reckoned in another way.
func turned(b []byte) []byte {
	l := []byte{}
	for _, x := range b {
		l = append(l, 255-x)
	}
	return l
}

// of is a frame.
func of(t *testing.T, id int, b []byte) api.Frame {
	t.Helper()
	f, e := frame.New(id, b...)
	if e != api.OK {
		t.Fatal(id, b, e)
	}
	return f
}

// working is one that works by a table from a tick on.
func working(t *testing.T, now int, x api.Channel) *cons.Taker {
	t.Helper()
	k := cons.New()
	begins(t, k, now, true, x, api.NoCause)
	works(t, k, nil)
	return k
}

// begins: what Begin answers.
func begins(t *testing.T, k *cons.Taker, now int, on bool, x api.Channel, want api.Cause) {
	t.Helper()
	if got := k.Begin(now, on, x); got != want {
		t.Fatalf("Begin(%d, %v): %d, not %d", now, on, got, want)
	}
}

// hears: what Hear answers.
func hears(t *testing.T, k *cons.Taker, now int, f api.Frame, want []byte, cause api.Cause) {
	t.Helper()
	got, c := k.Hear(now, f)
	if !bytes.Equal(got, want) || c != cause {
		t.Fatalf("Hear(%d, %v): %v, %d, not %v, %d", now, f, got, c, want, cause)
	}
}

// first and second: frames of a pair, of which the first one answers nothing.
func first(t *testing.T, k *cons.Taker, now int, b []byte) {
	t.Helper()
	hears(t, k, now, of(t, plainId, b), nil, api.NoCause)
}

func second(t *testing.T, k *cons.Taker, now int, b []byte) {
	t.Helper()
	hears(t, k, now, of(t, turnedId, turned(b)), b, api.NoCause)
}

// stands: how it stands.
func stands(t *testing.T, k *cons.Taker, works bool, cause api.Cause, value []byte) {
	t.Helper()
	for range 2 {
		got, is := k.Value()
		if k.Works() != works || k.Failed() != cause || !bytes.Equal(got, value) || is != (len(value) > 0) {
			t.Fatalf("works %v, failed %d, the value %v, %v; not %v, %d, %v", k.Works(), k.Failed(), got, is, works, cause, value)
		}
	}
}

// works: it is at work, with a value (nil: none).
func works(t *testing.T, k *cons.Taker, value []byte) {
	t.Helper()
	stands(t, k, true, api.NoCause, value)
}

func rests(t *testing.T, k *cons.Taker) {
	t.Helper()
	stands(t, k, false, api.NoCause, nil)
}

func failed(t *testing.T, k *cons.Taker, cause api.Cause) {
	t.Helper()
	stands(t, k, false, cause, nil)
}

// The document's example.
func TestExample(t *testing.T) {
	x, k := table(10, 2, 1), cons.New()
	for now := range 8 {
		begins(t, k, now, now >= 3, x, api.NoCause)
		if now == 5 {
			first(t, k, now, []byte{1})
		}
	}
	begins(t, k, 8, true, x, api.CauseGap)
	failed(t, k, api.CauseGap)
	hears(t, k, 8, of(t, turnedId, []byte{254}), nil, api.NoCause)
	failed(t, k, api.CauseGap)
}

// P30.1: each of its parts by itself; what is behind the first N slots is not looked at.
func TestTakes(t *testing.T) {
	for _, n := range numbers() {
		x := table(10, 2, 2)
		check := func(y api.Channel, want bool) {
			t.Helper()
			if cons.Takes(y) != want {
				t.Fatal(n, y)
			}
		}
		id, limit := n >= 0 && n <= 2047, n >= 1 && n <= 65535
		y := x
		y.Dir = api.Dir(n)
		check(y, n == 2)
		y = x
		y.Time = n
		check(y, limit)
		y = x
		y.Gap = n
		check(y, limit)
		y = x
		y.Plain = n
		check(y, id && n != turnedId)
		y = x
		y.Turned = n
		check(y, id && n != plainId)
		y.Plain = n // both alike
		check(y, false)
		check(table(10, 2, n), n >= 1 && n <= 8)
		y = x
		y.Map[1].Bits = n
		check(y, n == 8 || n == 16 || n == 32)
		y = x
		y.Map[2] = api.Slot{Key: api.Key{Index: n, Sub: n}, Bits: n}
		check(y, true)
	}
	for n := 1; n <= 8; n++ {
		for _, bits := range []int{8, 16, 32} {
			x := table(10, 2, n)
			for i := range x.Map {
				x.Map[i].Bits = bits
			}
			if cons.Takes(x) != (n*bits <= 64) {
				t.Fatal(n, bits)
			}
		}
	}
	for _, x := range others(table(10, 2, 2)) {
		if !cons.Takes(x) {
			t.Fatal(x)
		}
	}
	for _, x := range refused(table(10, 2, 2)) {
		if cons.Takes(x) {
			t.Fatal(x)
		}
	}
}

// P30.1: not on, or by a table that does not take: it is at rest, without a value.
func TestBeginRests(t *testing.T) {
	x, b := table(10, 2, 2), []byte{1, 2}
	for _, y := range append(refused(x), x) {
		on := y != x
		k := cons.New()
		rests(t, k)
		begins(t, k, 3, on, y, api.NoCause)
		rests(t, k)
		begins(t, k, 3, false, y, api.NoCause)
		rests(t, k)
		begins(t, k, 3, true, x, api.NoCause)
		first(t, k, 3, b)
		second(t, k, 4, b)
		works(t, k, b)
		begins(t, k, 5, on, y, api.NoCause)
		rests(t, k)
		hears(t, k, 5, of(t, plainId, b), nil, api.NoCause)
		rests(t, k)
		begins(t, k, 6, true, x, api.NoCause) // from then on, and nothing has come
		works(t, k, nil)
		second(t, fed(t, k, 7, b), 7, b)
		begins(t, k, 16, true, x, api.NoCause)
		k = working(t, 0, x)
		begins(t, k, 11, on, y, api.NoCause) // when it would have failed, too
		rests(t, k)
	}
}

// fed is one that has heard a first frame.
func fed(t *testing.T, k *cons.Taker, now int, b []byte) *cons.Taker {
	t.Helper()
	first(t, k, now, b)
	return k
}

// P30.1: it waits from the tick at which it begins, not from a later Begin by the same table.
func TestBeginTime(t *testing.T) {
	for _, time := range []int{1, 2, 9, 255, 256, 65534, 65535} {
		for _, from := range []int{0, 1, 7, 1 << 20, api.MaxNum - 65536 - 10} {
			x := table(time, 65535, 2)
			k := working(t, from, x)
			for now := from; now <= from+time; now++ {
				begins(t, k, now, true, x, api.NoCause)
			}
			works(t, k, nil)
			f := k.Fork()
			begins(t, k, from+time+1, true, x, api.CauseTime)
			failed(t, k, api.CauseTime)
			begins(t, f, api.MaxNum, true, x, api.CauseTime)
			failed(t, f, api.CauseTime)
		}
	}
}

// P30.1, P30.2: a first frame, and the gap behind it.
func TestBeginGap(t *testing.T) {
	b := []byte{1, 2}
	for _, gap := range []int{1, 2, 9, 255, 256, 65534, 65535} {
		x := table(65535, gap, 2)
		k := working(t, 0, x)
		for now := range 5 {
			begins(t, k, now, true, x, api.NoCause)
		}
		first(t, k, 0, b)
		for now := range gap + 1 {
			begins(t, k, now, true, x, api.NoCause)
		}
		f := k.Fork()
		second(t, f, gap, b)
		begins(t, f, gap+65535, true, x, api.NoCause) // no first frame has come
		begins(t, f, gap+65536, true, x, api.CauseTime)
		want := api.CauseGap
		if gap == 65535 {
			want = api.CauseTime // of both the time's is told
		}
		begins(t, k, gap+1, true, x, want)
		failed(t, k, want)
	}
}

// P30.1, P30.2: a pair, and the time behind its second frame.
func TestPairTime(t *testing.T) {
	r := rand.New(rand.NewSource(301))
	x := table(10, 3, 2)
	k, now := working(t, 5, x), 5
	for range 50 {
		b := some(r, 2)
		now += 10
		half := now - r.Intn(4)
		for tick := now - 9; tick <= now; tick++ {
			begins(t, k, tick, true, x, api.NoCause)
			if tick == half {
				first(t, k, tick, b)
			}
		}
		second(t, k, now, b)
		works(t, k, b)
	}
	first(t, k, now, []byte{7, 7}) // it is not half a pair that is waited for
	begins(t, k, now+3, true, x, api.NoCause)
	works(t, k.Fork(), value(k))
	f := k.Fork()
	begins(t, k, now+4, true, x, api.CauseGap)
	failed(t, k, api.CauseGap)
	begins(t, f, now+11, true, x, api.CauseTime)
	failed(t, f, api.CauseTime)
}

// value is what Value tells.
func value(k *cons.Taker) []byte {
	b, _ := k.Value()
	return b
}

// P30.1: a table that is another one in anything at all: it begins anew, in whatever state it is in.
func TestOtherTable(t *testing.T) {
	x, b := table(10, 2, 2), []byte{1, 2}
	for _, y := range others(x) {
		k := working(t, 0, x)
		first(t, k, 1, b)
		second(t, k, 1, b)
		first(t, k, 2, b)
		works(t, k, b)
		begins(t, k, 20, true, y, api.NoCause) // both times are over by then
		works(t, k, nil)
		hears(t, k, 21, of(t, y.Plain, b), nil, api.NoCause) // of a new pair
		hears(t, k, 21, of(t, y.Turned, turned(b)), b, api.NoCause)
		begins(t, k, 21+y.Time, true, y, api.NoCause)
		works(t, k, b)
		begins(t, k, 22+y.Time, true, x, api.NoCause)
		works(t, k, nil)
		begins(t, k, 32+y.Time, true, x, api.NoCause)
		begins(t, k, 33+y.Time, true, x, api.CauseTime)
		failed(t, k, api.CauseTime)
		begins(t, k, 34+y.Time, true, y, api.NoCause)
		failed(t, k, api.CauseTime)
	}
	k := working(t, 0, x)
	begins(t, k, 1, true, table(10, 2, 3), api.NoCause) // of another size
	hears(t, k, 1, of(t, plainId, b), nil, api.CauseLen)
	failed(t, k, api.CauseLen)
}

// P30.1: what has failed stays so, whatever is begun and heard, till it is reset.
func TestFailedStays(t *testing.T) {
	x, b := table(10, 2, 2), []byte{1, 2}
	for _, cause := range []api.Cause{api.CauseOrder, api.CauseLen, api.CauseUnlike, api.CauseTime, api.CauseGap} {
		k := broken(t, x, cause)
		for _, y := range append(append(refused(x), others(x)...), x) {
			for _, now := range append(notTicks(), 0, 1, 30, api.MaxNum) {
				begins(t, k, now, true, y, api.NoCause)
				begins(t, k, now, false, y, api.NoCause)
				hears(t, k, now, of(t, plainId, b), nil, api.NoCause)
				hears(t, k, now, of(t, turnedId, turned(b)), nil, api.NoCause)
				hears(t, k, now, of(t, turnedId, nil), nil, api.NoCause)
			}
		}
		failed(t, k, cause)
		f := k.Fork()
		k.Reset()
		rests(t, k)
		failed(t, f, cause)
		begins(t, k, 30, true, x, api.NoCause)
		works(t, k, nil)
		second(t, fed(t, k, 32, b), 33, b)
		begins(t, k, 43, true, x, api.NoCause)
		works(t, k, b)
		begins(t, k, 44, true, x, api.CauseTime)
		failed(t, k, api.CauseTime)
	}
}

// broken is one that had a value, and has failed with a cause.
func broken(t *testing.T, x api.Channel, cause api.Cause) *cons.Taker {
	t.Helper()
	k, b := working(t, 0, x), []byte{1, 2}
	second(t, fed(t, k, 1, b), 1, b)
	switch cause {
	case api.CauseOrder:
		hears(t, k, 2, of(t, turnedId, turned(b)), nil, cause)
	case api.CauseLen:
		hears(t, k, 2, of(t, plainId, nil), nil, cause)
	case api.CauseUnlike:
		first(t, k, 2, b)
		hears(t, k, 2, of(t, turnedId, b), nil, cause)
	case api.CauseTime:
		begins(t, k, 12, true, x, cause)
	case api.CauseGap:
		first(t, k, 2, b)
		begins(t, k, 5, true, x, cause)
	}
	failed(t, k, cause)
	return k
}

// P30.1, P30.2: what is no tick does nothing.
func TestNoTicks(t *testing.T) {
	x, b := table(10, 2, 2), []byte{1, 2}
	for _, no := range notTicks() {
		k := cons.New()
		begins(t, k, no, true, x, api.NoCause)
		rests(t, k)
		begins(t, k, 3, true, x, api.NoCause)
		second(t, fed(t, k, 4, b), 4, b)
		for _, y := range append(append(refused(x), others(x)...), x) {
			begins(t, k, no, true, y, api.NoCause)
			begins(t, k, no, false, y, api.NoCause)
		}
		works(t, k, b)
		hears(t, k, no, of(t, turnedId, b), nil, api.NoCause)
		hears(t, k, no, of(t, plainId, []byte{3, 4}), nil, api.NoCause)
		hears(t, k, no, of(t, plainId, nil), nil, api.NoCause)
		works(t, k, b)
		first(t, k, 6, []byte{5, 6})
		hears(t, k, no, of(t, turnedId, turned([]byte{5, 6})), nil, api.NoCause)
		works(t, k, b)
		second(t, k, 8, []byte{5, 6})
		begins(t, k, 18, true, x, api.NoCause)
		begins(t, k, no, true, x, api.NoCause)
		works(t, k, []byte{5, 6})
		begins(t, k, 19, true, x, api.CauseTime)
	}
}

// P30.2: frames that are none of the channel's, that ask for data, or that may not be.
func TestNotHeard(t *testing.T) {
	x, b := table(10, 2, 2), []byte{1, 2}
	for _, half := range []bool{false, true} {
		k := working(t, 0, x)
		second(t, fed(t, k, 1, b), 1, b)
		if half {
			first(t, k, 2, []byte{3, 4})
		}
		for id := range api.MaxId + 1 {
			if id != plainId && id != turnedId {
				hears(t, k, 2, of(t, id, b), nil, api.NoCause)
				hears(t, k, 2, of(t, id, turned(b)), nil, api.NoCause)
			}
		}
		for _, id := range []int{plainId, turnedId} {
			for n := range api.MaxLen + 1 {
				f, e := frame.Ask(id, n)
				if e != api.OK {
					t.Fatal(e)
				}
				hears(t, k, 2, f, nil, api.NoCause)
			}
			for _, n := range numbers() {
				f := of(t, id, b)
				f.Len = n
				if frame.Check(f) != api.OK {
					hears(t, k, 2, f, nil, api.NoCause)
				}
				f = of(t, id, b)
				for _, f.Id = range []int{n, id + n<<11} {
					if f.Id != plainId && f.Id != turnedId {
						hears(t, k, 2, f, nil, api.NoCause)
					}
				}
			}
			f := of(t, id, b)
			f.Data[7] = 1
			hears(t, k, 2, f, nil, api.NoCause)
			hears(t, k, 2, api.Frame{Id: id, Rtr: true, Len: 2, Data: [8]byte{1, 2}}, nil, api.NoCause)
		}
		works(t, k, b)
		if !half {
			first(t, k, 2, []byte{3, 4})
		}
		second(t, k, 2, []byte{3, 4})
		works(t, k, []byte{3, 4})
	}
}

// P30.2: values of all sizes.
func TestValues(t *testing.T) {
	r := rand.New(rand.NewSource(302))
	for size := 1; size <= 8; size++ {
		for _, ids := range [][2]int{{plainId, turnedId}, {turnedId, plainId}, {0, api.MaxId}, {api.MaxId, 0}, {0x17f, 0x180}} {
			x := table(10, 2, size)
			x.Plain, x.Turned = ids[0], ids[1]
			k, last := working(t, 0, x), []byte(nil)
			for now := range 60 {
				b := some(r, size)
				begins(t, k, now, true, x, api.NoCause)
				hears(t, k, now, of(t, x.Plain, b), nil, api.NoCause)
				works(t, k, last) // the one ahead, till the pair is whole
				hears(t, k, now, of(t, x.Turned, turned(b)), b, api.NoCause)
				works(t, k, b)
				last = b
			}
		}
	}
}

// P30.2: each cause that a frame tells, ahead of the first pair, and behind one.
func TestWrongFrames(t *testing.T) {
	r := rand.New(rand.NewSource(303))
	for size := 1; size <= 8; size++ {
		x, b := table(10, 2, size), some(r, size)
		rest := working(t, 0, x)
		half := fed(t, rest.Fork(), 1, b)
		good := half.Fork()
		second(t, good, 1, b)
		again := fed(t, good.Fork(), 1, b)
		says := func(k *cons.Taker, id int, b []byte, cause api.Cause) {
			t.Helper()
			f := k.Fork()
			hears(t, f, 2, of(t, id, b), nil, cause)
			failed(t, f, cause)
		}
		for _, k := range []*cons.Taker{rest, half, good, again} {
			for n := range api.MaxLen + 1 {
				if n != size {
					says(k, plainId, make([]byte, n), api.CauseLen)
					says(k, turnedId, make([]byte, n), api.CauseLen)
				}
			}
		}
		for _, k := range []*cons.Taker{rest, good} {
			says(k, turnedId, turned(b), api.CauseOrder)
			says(k, turnedId, b, api.CauseOrder)
		}
		for _, k := range []*cons.Taker{half, again} {
			says(k, plainId, b, api.CauseOrder)
			says(k, turnedId, b, api.CauseUnlike)
			for bit := range 8 * size {
				c := turned(b)
				c[bit/8] ^= 1 << (bit % 8)
				says(k, turnedId, c, api.CauseUnlike)
			}
		}
		works(t, again, b)
	}
}

// P30.2: what is heard when it is too late, without a Begin at that tick, is heard as told: it is Begin that looks at the time.
func TestNoBegin(t *testing.T) {
	x, b := table(10, 2, 2), []byte{1, 2}
	k := working(t, 0, x)
	first(t, k, 5, b)
	second(t, k, 8, b)
	works(t, k, b)
	first(t, k, 30, b)
	second(t, k, 30, b)
	begins(t, k, 40, true, x, api.NoCause)
	begins(t, k, 4, true, x, api.NoCause) // whether it falls is not looked at
	works(t, k, b)
	begins(t, k, 41, true, x, api.CauseTime)
}

// P30.3: Reset in each state.
func TestReset(t *testing.T) {
	x, b := table(10, 2, 2), []byte{1, 2}
	k := cons.New()
	k.Reset()
	rests(t, k)
	begins(t, k, 3, true, x, api.NoCause)
	second(t, fed(t, k, 3, b), 3, b)
	first(t, k, 4, b)
	k.Reset()
	rests(t, k)
	hears(t, k, 4, of(t, turnedId, turned(b)), nil, api.NoCause)
	rests(t, k)
	begins(t, k, 7, true, x, api.NoCause)
	works(t, k, nil)
	hears(t, k, 7, of(t, turnedId, turned(b)), nil, api.CauseOrder)
	k.Reset()
	k.Reset()
	rests(t, k)
}

// heard is a frame of the channel, by how it was made.
type heard struct {
	now   int
	plain bool
	data  string
}

// book tells of a taker by all that was heard since it began to work; as it fails by whatever is not in order, what was heard is plain and turned in turn.
type book struct {
	works bool
	cause api.Cause
	table api.Channel
	from  int
	all   []heard
}

func (k *book) half() bool { return len(k.all)%2 == 1 }

// waits is the tick from which it waits for the next pair.
func (k *book) waits() int {
	if n := len(k.all) / 2 * 2; n > 0 {
		return k.all[n-1].now
	}
	return k.from
}

func (k *book) value() []byte {
	n := len(k.all) / 2 * 2
	if !k.works || n == 0 {
		return nil
	}
	return []byte(k.all[n-2].data)
}

func (k *book) fail(c api.Cause) api.Cause {
	if c != api.NoCause {
		*k = book{cause: c}
	}
	return c
}

func (k *book) begin(now int, on bool, x api.Channel) api.Cause {
	switch {
	case k.cause != api.NoCause:
		return api.NoCause
	case !on || !cons.Takes(x):
		*k = book{}
		return api.NoCause
	case !k.works || k.table != x:
		*k = book{works: true, table: x, from: now}
		return api.NoCause
	case now > k.waits()+k.table.Time:
		return k.fail(api.CauseTime)
	case k.half() && now > k.all[len(k.all)-1].now+k.table.Gap:
		return k.fail(api.CauseGap)
	}
	return api.NoCause
}

func (k *book) hear(now int, f api.Frame) ([]byte, api.Cause) {
	if !k.works || f.Rtr || f.Id != k.table.Plain && f.Id != k.table.Turned {
		return nil, api.NoCause
	}
	b, plain := frame.Bytes(f), f.Id == k.table.Plain
	switch {
	case len(b) != prod.Size(k.table):
		return nil, k.fail(api.CauseLen)
	case plain == k.half():
		return nil, k.fail(api.CauseOrder)
	case !plain && k.all[len(k.all)-1].data != string(turned(b)):
		return nil, k.fail(api.CauseUnlike)
	}
	k.all = append(k.all, heard{now, plain, string(b)})
	if plain {
		return nil, api.NoCause
	}
	return turned(b), api.NoCause
}

// any is some frame, most often one that is in order.
func (k *book) any(r *rand.Rand) api.Frame {
	b := []byte{byte(r.Intn(2)), 0}
	id := plainId
	if k.half() {
		id, b = turnedId, turned([]byte(k.all[len(k.all)-1].data))
	}
	switch r.Intn(16) {
	case 0:
		id = plainId + r.Intn(4)
	case 1:
		b = b[:r.Intn(3)]
	case 2:
		b[0] ^= byte(r.Intn(2))
	case 3:
		f, _ := frame.Ask(id, 2)
		return f
	}
	f, _ := frame.New(id, b...)
	return f
}

// P30.1 to P30.3: anything at all, held against all that was heard.
func TestAnything(t *testing.T) {
	r := rand.New(rand.NewSource(304))
	seen := map[api.Cause]int{}
	for range 3000 {
		x := table(2+r.Intn(8), 1+r.Intn(4), 2)
		tables := append(others(x), refused(x)...)
		k, b, now := cons.New(), &book{}, r.Intn(20)
		for range 60 {
			now += r.Intn(3)
			y := x
			if r.Intn(30) == 0 {
				y = tables[r.Intn(len(tables))]
			}
			switch r.Intn(20) {
			case 0:
				k.Reset()
				*b = book{}
			case 1:
				k = k.Fork()
			case 2, 3, 4, 5, 6, 7, 8, 9:
				f := b.any(r)
				want, c := b.hear(now, f)
				hears(t, k, now, f, want, c)
				seen[c]++
			default:
				on := r.Intn(30) > 0
				c := b.begin(now, on, y)
				begins(t, k, now, on, y, c)
				seen[c]++
			}
			stands(t, k, b.works, b.cause, b.value())
		}
	}
	if len(seen) != 6 || slices.Contains([]int{seen[1], seen[2], seen[3], seen[4], seen[5]}, 0) {
		t.Fatal("not all causes came", seen)
	}
}

// P30.4: no pair comes in the Time ticks behind a tick at which it works: it has failed at the tick behind these; and not ahead, if it began, or took a pair, at that tick.
func TestNoPair(t *testing.T) {
	r := rand.New(rand.NewSource(305))
	for range 300 {
		x, now := table(1+r.Intn(40), 40, 1), r.Intn(1000)
		k := working(t, now, x)
		if r.Intn(2) == 0 {
			now += r.Intn(x.Time + 1)
			second(t, fed(t, k, now, []byte{5}), now, []byte{5})
		}
		half := now + r.Intn(60) // a frame is no pair
		for tick := now; tick <= now+x.Time; tick++ {
			begins(t, k, tick, true, x, api.NoCause)
			if tick == half {
				first(t, k, tick, []byte{6})
			}
		}
		begins(t, k, now+x.Time+1, true, x, api.CauseTime)
		failed(t, k, api.CauseTime)
	}
}

// P30.4: likewise of a first frame, and its gap.
func TestNoSecond(t *testing.T) {
	r := rand.New(rand.NewSource(306))
	for range 300 {
		x, now := table(100, 1+r.Intn(40), 1), r.Intn(1000)
		k := working(t, now, x)
		half := now + r.Intn(100-x.Gap)
		for tick := now; tick <= half+x.Gap; tick++ {
			begins(t, k, tick, true, x, api.NoCause)
			if tick == half {
				first(t, k, tick, []byte{6})
			}
		}
		begins(t, k, half+x.Gap+1, true, x, api.CauseGap)
		failed(t, k, api.CauseGap)
	}
}

// P30.5: whatever comes: behind what it answers are the plain frame, and the turned one as the next one of the channel, at most Gap ticks apart.
func TestAnswersPairs(t *testing.T) {
	r := rand.New(rand.NewSource(307))
	answers := 0
	for range 2000 {
		x := table(1+r.Intn(20), 1+r.Intn(5), 1)
		k, all := cons.New(), []heard{}
		for now := range 60 {
			k.Begin(now, true, x)
			for range r.Intn(2) {
				b := []byte{byte(r.Intn(2))}
				plain := r.Intn(2) == 0
				if n := len(all); n > 0 && r.Intn(8) > 0 { // most often what is in order
					if plain = !all[n-1].plain; !plain {
						b = turned([]byte(all[n-1].data))
					}
				}
				id := turnedId
				if plain {
					id = plainId
				}
				all = append(all, heard{now, plain, string(b)})
				got, _ := k.Hear(now, of(t, id, b))
				if len(got) == 0 {
					continue
				}
				answers++
				one, two := all[len(all)-2], all[len(all)-1]
				if !one.plain || two.plain || one.data != string(got) || two.data != string(turned(got)) || two.now-one.now > x.Gap {
					t.Fatal(x, all, got)
				}
			}
			if r.Intn(20) == 0 {
				k.Reset()
			}
		}
	}
	if answers < 1000 {
		t.Fatal(answers)
	}
}

// sent is a frame of a pair that is on its way.
type sent struct {
	at int
	f  api.Frame
}

// P30.6: a producer's frames, in order, late by some ticks, the turned one by the gap at most behind the plain one, each pair by the time at most behind the one ahead: it never fails, and answers each value.
func TestProducer(t *testing.T) {
	r := rand.New(rand.NewSource(308))
	for range 300 {
		size, period, gap := 1+r.Intn(8), 5+r.Intn(20), 1+r.Intn(4)
		out := table(period, 1, size)
		out.Dir = api.Sends
		in := table(period+gap, gap, size) // each pair is late by 0 to gap ticks
		k, maker := cons.New(), prod.New()
		var way []sent
		var values, got [][]byte
		start := r.Intn(period)
		for now := range 500 {
			b := some(r, size)
			if two := maker.Step(now, now >= start, out, b); len(two) > 0 {
				late := r.Intn(gap + 1)
				way = append(way, sent{now + r.Intn(late+1), two[0]}, sent{now + late, two[1]})
				values = append(values, b)
			}
			begins(t, k, now, true, in, api.NoCause)
			for len(way) > 0 && way[0].at == now {
				b, c := k.Hear(now, way[0].f)
				if c != api.NoCause {
					t.Fatal(in, now, c)
				}
				if way = way[1:]; len(b) > 0 {
					got = append(got, b)
					works(t, k, b)
				}
			}
			if !k.Works() {
				t.Fatal(in, now)
			}
		}
		n := len(values) - (len(way)+1)/2 // but those that are still on their way, as a whole or by half
		if maker.Sent() != len(values) || !slices.EqualFunc(got, values[:n], bytes.Equal) {
			t.Fatal(len(got), len(values), len(way))
		}
	}
}

// P30.6: each second frame comes at the last tick of the gap, and each pair at the last one of the time.
func TestProducerEdges(t *testing.T) {
	for _, time := range []int{1, 2, 5, 50} {
		for _, gap := range []int{1, 2, 5, 50} {
			x, b := table(time, gap, 1), []byte{9}
			k := working(t, 0, x)
			for n := range 20 {
				now := (n + 1) * time
				half := max(n*time, now-gap)
				for tick := n * time; tick <= now; tick++ {
					begins(t, k, tick, true, x, api.NoCause)
					if tick == half {
						first(t, k, tick, b)
					}
				}
				second(t, k, now, b)
			}
			works(t, k, b)
		}
	}
}

// P5: at the greatest ticks nothing goes round.
func TestGreat(t *testing.T) {
	x, b := table(65535, 65535, 2), []byte{1, 2}
	k := working(t, api.MaxNum, x)
	first(t, k, api.MaxNum, b)
	begins(t, k, api.MaxNum, true, x, api.NoCause)
	begins(t, k, 0, true, x, api.NoCause)
	second(t, k, api.MaxNum, b)
	begins(t, k, api.MaxNum, true, x, api.NoCause)
	works(t, k, b)
	k = working(t, 0, x)
	begins(t, k, api.MaxNum, true, x, api.CauseTime)
}

// P30.3, P4: a fork stands alike, and neither is changed by what becomes of the other one.
func TestFork(t *testing.T) {
	x, b, c := table(10, 2, 2), []byte{1, 2}, []byte{3, 4}
	rests(t, cons.New().Fork())
	k := working(t, 0, x)
	second(t, fed(t, k, 1, b), 1, b)
	first(t, k, 2, c)
	f := k.Fork()
	if f == k {
		t.Fatal("no fork")
	}
	works(t, f, b)
	second(t, f, 3, c)
	works(t, f, c)
	works(t, k, b)
	begins(t, k, 5, true, x, api.CauseGap)
	failed(t, k, api.CauseGap)
	begins(t, f, 13, true, x, api.NoCause)
	g := f.Fork()
	f.Reset()
	rests(t, f)
	works(t, g, c)
	begins(t, g, 14, true, x, api.CauseTime)
	failed(t, g.Fork(), api.CauseTime)
	k = working(t, 0, x)
	f = k.Fork()
	first(t, k, 1, b)
	hears(t, f, 1, of(t, turnedId, turned(b)), nil, api.CauseOrder)
	second(t, k, 1, b)
	h := k.Fork()
	first(t, h, 2, c)
	begins(t, k, 11, true, x, api.NoCause) // no first frame has come to this one
	second(t, h, 4, c)
	begins(t, k, 12, true, x, api.CauseTime)
	begins(t, h, 14, true, x, api.NoCause)
	works(t, h, c)
}

// P3: each answer is memory of its own.
func TestMemory(t *testing.T) {
	x, b := table(10, 2, 2), []byte{1, 2}
	k := working(t, 0, x)
	first(t, k, 1, b)
	got, _ := k.Hear(1, of(t, turnedId, turned(b)))
	one, two := value(k), value(k)
	got[0], one[1] = 77, 78
	if !bytes.Equal(two, b) {
		t.Fatal(two)
	}
	works(t, k, b)
	f := k.Fork()
	value(f)[0] = 79
	works(t, k, b)
	works(t, f, b)
}

// P6: two takers have nothing in common.
func TestApart(t *testing.T) {
	x, b := table(10, 2, 2), []byte{1, 2}
	one, two := working(t, 0, x), working(t, 1, x)
	first(t, one, 2, b)
	hears(t, two, 2, of(t, turnedId, turned(b)), nil, api.CauseOrder)
	works(t, one, nil)
	second(t, one, 3, b)
	two.Reset()
	rests(t, two)
	works(t, one, b)
}

// P30.3, P1: a nil taker.
func TestNil(t *testing.T) {
	var k *cons.Taker
	x := table(10, 2, 2)
	for _, now := range append(notTicks(), 0, 1, 10, api.MaxNum) {
		for _, y := range append(refused(x), x) {
			begins(t, k, now, true, y, api.NoCause)
			begins(t, k, now, false, y, api.NoCause)
		}
		hears(t, k, now, of(t, plainId, []byte{1, 2}), nil, api.NoCause)
		hears(t, k, now, of(t, turnedId, []byte{1}), nil, api.NoCause)
		hears(t, k, now, api.Frame{}, nil, api.NoCause)
	}
	k.Reset()
	rests(t, k)
	if k.Fork() != nil {
		t.Fatal("a fork of nil")
	}
}

// P1: no call made it, and nothing panics.
func TestNoCallMadeIt(t *testing.T) {
	for _, now := range append(notTicks(), 0, 1, 10, api.MaxNum) {
		for _, n := range numbers() {
			k, x := &cons.Taker{}, table(n, n, n)
			x.Plain, x.Turned, x.Dir = n, n, api.Dir(n)
			k.Hear(now, api.Frame{Id: n, Len: n})
			k.Begin(now, true, x)
			k.Begin(now, true, table(n, n, 2))
			k.Hear(now, api.Frame{Id: plainId, Len: n})
			k.Fork().Begin(n, true, table(10, 2, 2))
			k.Value()
			k.Works()
			k.Failed()
			k.Reset()
			cons.Takes(x)
		}
	}
}

// P1: it has the calls that the chapter lists, and none of its parts' own, which would panic of one at rest.
func TestNoOtherCalls(t *testing.T) {
	var names []string
	for i := range reflect.TypeFor[*cons.Taker]().NumMethod() {
		names = append(names, reflect.TypeFor[*cons.Taker]().Method(i).Name)
	}
	if !slices.Equal(names, []string{"Begin", "Failed", "Fork", "Hear", "Reset", "Value", "Works"}) {
		t.Fatal(names)
	}
}

// P27.4, P30.2: what layer 27 makes is taken.
func TestMade(t *testing.T) {
	x, b := table(10, 2, 3), []byte{1, 2, 3}
	two, e := pair.Make(x.Plain, x.Turned, b)
	if e != api.OK {
		t.Fatal(e)
	}
	k := working(t, 0, x)
	hears(t, k, 0, two[0], nil, api.NoCause)
	hears(t, k, 0, two[1], b, api.NoCause)
}
