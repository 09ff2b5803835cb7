package beat_test

import (
	"iter"
	"maps"
	"math"
	"math/rand"
	"slices"
	"testing"

	"tripwire/api"
	"tripwire/beat"
	"tripwire/frame"
)

// The calls have just these signatures.
var (
	_ func(int, api.Mode) (api.Frame, api.Errno)          = beat.Encode
	_ func(api.Frame) (int, api.Mode, api.Errno)          = beat.Decode
	_ func(int) (*beat.Maker, api.Errno)                  = beat.NewMaker
	_ func(*beat.Maker, int, int) api.Errno               = (*beat.Maker).Set
	_ func(*beat.Maker, int, api.Mode) (api.Frame, bool)  = (*beat.Maker).Tick
	_ func() *beat.Watch                                  = beat.NewWatch
	_ func(*beat.Watch, int, int) api.Errno               = (*beat.Watch).Set
	_ func(*beat.Watch, api.Frame, int) (api.Event, bool) = (*beat.Watch).Hear
	_ func(*beat.Watch, int) []int                        = (*beat.Watch).Check
	_ func(*beat.Watch, int) (api.Mode, bool)             = (*beat.Watch).Mode
	_ func(*beat.Watch) iter.Seq2[int, int]               = (*beat.Watch).Nodes
)

// modes are the four.
func modes() []api.Mode { return []api.Mode{0, 4, 5, 127} }

func isMode(m int) bool { return m == 0 || m == 4 || m == 5 || m == 127 }

// numbers are small ones, and such as are like them in their low bits.
func numbers() []int {
	var l []int
	for i := -3; i <= 260; i++ {
		l = append(l, i)
	}
	return append(l, 0x700, 0x705, 1<<11+1, 1<<16+5, 1<<31, 1<<32, 1<<32+1, 1<<32+5, -256, -251, -128, -127, math.MinInt32, math.MaxInt32, math.MinInt, math.MinInt+1, math.MinInt+5, math.MaxInt)
}

// notTicks are numbers that are neither ticks nor times.
func notTicks() []int {
	return []int{-1, -2, -1000, math.MinInt32, math.MinInt, api.MaxNum + 1, 1 << 32, 1<<32 + 1, math.MaxInt}
}

// of is the beat of a node.
func of(t *testing.T, node int, m api.Mode) api.Frame {
	t.Helper()
	f, e := beat.Encode(node, m)
	if e != api.OK {
		t.Fatal(node, m, e)
	}
	return f
}

func maker(t *testing.T, node int) *beat.Maker {
	t.Helper()
	k, e := beat.NewMaker(node)
	if e != api.OK || k == nil {
		t.Fatal(node, e)
	}
	return k
}

// period is a maker with one.
func period(t *testing.T, node, n, now int) *beat.Maker {
	t.Helper()
	k := maker(t, node)
	if e := k.Set(n, now); e != api.OK {
		t.Fatal(n, now, e)
	}
	return k
}

// ticks are those at which a beat comes, from one tick to another one.
func ticks(t *testing.T, k *beat.Maker, node, from, to int) []int {
	t.Helper()
	var l []int
	for now := from; now <= to; now++ {
		f, is := k.Tick(now, api.Ready)
		if is {
			l = append(l, now)
			if f != of(t, node, api.Ready) {
				t.Fatal(f)
			}
		} else if f != (api.Frame{}) {
			t.Fatal("a beat that is none")
		}
	}
	return l
}

// The document's example.
func TestExample(t *testing.T) {
	f, e := beat.Encode(3, api.Operating)
	if s, _ := frame.Text(f); e != api.OK || s != "703#05" {
		t.Fatal(s, e)
	}
	f, _ = frame.Parse("77F#00")
	if node, m, e := beat.Decode(f); node != 127 || m != api.Booting || e != api.OK {
		t.Fatal(node, m, e)
	}
}

// P22.1: the beat of each node in each mode; ErrRange ahead of ErrArg.
func TestEncode(t *testing.T) {
	for _, node := range numbers() {
		for _, m := range numbers() {
			f, e := beat.Encode(node, api.Mode(m))
			want, wantE := api.Frame{}, api.OK
			switch {
			case node < 1 || node > 127:
				wantE = api.ErrRange
			case !isMode(m):
				wantE = api.ErrArg
			default:
				want = api.Frame{Id: 0x700 + node, Len: 1, Data: [8]byte{byte(m)}}
			}
			if f != want || e != wantE {
				t.Fatalf("Encode(%d, %d): %v, %v", node, m, f, e)
			}
			if e != api.OK {
				continue
			}
			if n, got, e := beat.Decode(f); n != node || got != api.Mode(m) || e != api.OK {
				t.Fatalf("%v: %d, %d, %v", f, n, got, e)
			}
		}
	}
}

// P22.1: of frames with one byte just those of a node and a mode are beats.
func TestDecode(t *testing.T) {
	for id := range api.MaxId + 1 {
		for m := range 256 {
			f := api.Frame{Id: id, Len: 1, Data: [8]byte{byte(m)}}
			node, mode, e := beat.Decode(f)
			if id > 0x700 && id <= 0x77f && isMode(m) {
				if node != id-0x700 || mode != api.Mode(m) || e != api.OK {
					t.Fatalf("%v: %d, %d, %v", f, node, mode, e)
				}
			} else if node != 0 || mode != 0 || e != api.ErrForm {
				t.Fatalf("%v: %d, %d, %v", f, node, mode, e)
			}
		}
	}
}

// wrongs are frames that are another one than a beat of the node 5 in something.
func wrongs(m api.Mode) []api.Frame {
	var l []api.Frame
	f := api.Frame{Id: 0x705, Len: 1, Data: [8]byte{byte(m)}}
	for _, id := range []int{5, 0x700, 0x780, 0x785, 0x7ff, 0xf05, 0x705 + 1<<11, 0x705 + 1<<16, 0x705 + 1<<32, -0x705, -1, math.MinInt, math.MinInt + 5, math.MinInt + 0x705, math.MaxInt} {
		g := f
		g.Id = id
		l = append(l, g)
	}
	for _, n := range []int{0, 2, 8, 9, 257, 1<<32 + 1, -1, math.MinInt, math.MaxInt} {
		g := f
		g.Len = n
		l = append(l, g)
	}
	for at := 1; at < 8; at++ {
		g := f
		g.Data[at] = 1
		l = append(l, g)
		g.Len = 8
		l = append(l, g)
	}
	for _, b := range []byte{1, 2, 3, 6, 126, 128, 132, 133, 255} {
		g := f
		g.Data[0] = b
		l = append(l, g)
	}
	g := f
	g.Rtr = true
	h := g
	h.Data[0] = 0
	return append(l, g, h, api.Frame{}, api.Frame{Id: 0x705, Rtr: true, Len: 1})
}

// P22.1: what is another frame in anything is no beat.
func TestDecodeWrong(t *testing.T) {
	for _, m := range modes() {
		for _, f := range wrongs(m) {
			if node, mode, e := beat.Decode(f); node != 0 || mode != 0 || e != api.ErrForm {
				t.Fatalf("%+v: %d, %d, %v", f, node, mode, e)
			}
		}
	}
}

// P22.2: a maker of a node's number; without a period no beat is ever due.
func TestNewMaker(t *testing.T) {
	for _, node := range numbers() {
		k, e := beat.NewMaker(node)
		if node < 1 || node > 127 {
			if k != nil || e != api.ErrRange {
				t.Fatalf("NewMaker(%d): %v, %v", node, k, e)
			}
			continue
		}
		if k == nil || e != api.OK {
			t.Fatalf("NewMaker(%d): %v, %v", node, k, e)
		}
		for _, now := range []int{math.MinInt, -1, 0, 1, 2, 100, api.MaxNum, math.MaxInt} {
			if f, is := k.Tick(now, api.Ready); is || f != (api.Frame{}) {
				t.Fatal(f)
			}
		}
		k.Set(2, 0)
		if got := ticks(t, k, node, 0, 7); !slices.Equal(got, []int{2, 4, 6}) {
			t.Fatal(got)
		}
	}
}

// P22.2: each period from each tick on; a period of 0 is none.
func TestPeriods(t *testing.T) {
	for n := range 9 {
		for now := range 9 {
			k := period(t, 6, n, now)
			var want []int
			for at := now + n; n > 0 && at <= 60; at += n {
				want = append(want, at)
			}
			if got := ticks(t, k, 6, now, 60); !slices.Equal(got, want) {
				t.Fatalf("%d from %d on: %v, not %v", n, now, got, want)
			}
		}
	}
}

// P22.2: Set begins anew, whatever was due.
func TestSetAgain(t *testing.T) {
	for _, c := range []struct {
		n, now int
		want   []int
	}{
		{3, 8, []int{11, 14, 17, 20}},
		{5, 8, []int{13, 18}},
		{1, 18, []int{19, 20}},
		{5, 14, []int{19}},
		{20, 0, []int{20}},
		{0, 8, nil},
		{4, 0, []int{8, 12, 16, 20}}, // it was due at 4, and is told at the first tick behind
		{api.MaxNum, 8, nil},
	} {
		k := period(t, 6, 5, 0)
		if got := ticks(t, k, 6, 0, 7); !slices.Equal(got, []int{5}) {
			t.Fatal(got)
		}
		if e := k.Set(c.n, c.now); e != api.OK {
			t.Fatal(e)
		}
		if got := ticks(t, k, 6, 8, 20); !slices.Equal(got, c.want) {
			t.Fatalf("%d at %d: %v, not %v", c.n, c.now, got, c.want)
		}
	}
}

// P22.2, P2: an error of Set, and all stays as it was.
func TestSetWrong(t *testing.T) {
	k := period(t, 6, 5, 0)
	for _, bad := range notTicks() {
		for _, good := range []int{0, 1, 7, api.MaxNum} {
			if k.Set(bad, good) != api.ErrArg || k.Set(good, bad) != api.ErrArg {
				t.Fatal(bad, good)
			}
		}
		for _, other := range notTicks() {
			if k.Set(bad, other) != api.ErrArg {
				t.Fatal(bad, other)
			}
		}
	}
	if got := ticks(t, k, 6, 0, 20); !slices.Equal(got, []int{5, 10, 15, 20}) {
		t.Fatal(got)
	}
}

// P22.2: a beat is in the mode that is handed in.
func TestTickModes(t *testing.T) {
	for _, node := range []int{1, 64, 127} {
		k := period(t, node, 1, 0)
		for i, m := range modes() {
			f, is := k.Tick(1+i, m)
			if !is || f != (api.Frame{Id: 0x700 + node, Len: 1, Data: [8]byte{byte(m)}}) {
				t.Fatal(node, m, f, is)
			}
		}
	}
}

// P22.2, P2: of what is no mode there is no beat, and it stays due.
func TestTickNoMode(t *testing.T) {
	k := period(t, 6, 5, 0)
	for _, m := range numbers() {
		if isMode(m) {
			continue
		}
		for _, now := range []int{4, 5, 6, 30} {
			if f, is := k.Tick(now, api.Mode(m)); is || f != (api.Frame{}) {
				t.Fatal(m, now, f)
			}
		}
	}
	if got := ticks(t, k, 6, 4, 11); !slices.Equal(got, []int{5, 10}) {
		t.Fatal(got)
	}
}

// P22.2: what is asked for late comes once; the next one is due at a multiple of the period behind.
func TestTickLate(t *testing.T) {
	for _, c := range []struct{ late, next int }{{5, 10}, {6, 10}, {9, 10}, {10, 15}, {11, 15}, {14, 15}, {15, 20}, {52, 55}, {55, 60}, {1000004, 1000005}} {
		k := period(t, 6, 5, 0)
		if _, is := k.Tick(c.late, api.Ready); !is {
			t.Fatal(c)
		}
		if got := ticks(t, k, 6, c.late, c.next+5); !slices.Equal(got, []int{c.next, c.next + 5}) {
			t.Fatal(c, got)
		}
	}
}

// P22.2: ticks that fall ask for what is not due yet.
func TestTickBack(t *testing.T) {
	k := period(t, 6, 5, 10)
	for _, now := range []int{14, 3, 0, -1, math.MinInt, 14} {
		if _, is := k.Tick(now, api.Ready); is {
			t.Fatal(now)
		}
	}
	if got := ticks(t, k, 6, 0, 20); !slices.Equal(got, []int{15, 20}) {
		t.Fatal(got)
	}
	if got := ticks(t, k, 6, 0, 25); !slices.Equal(got, []int{25}) {
		t.Fatal(got)
	}
}

// P22.2, P5: no beat is due above api.MaxNum.
func TestTickEnd(t *testing.T) {
	const most = api.MaxNum
	for _, c := range []struct {
		n, now int
		asked  []int
		want   []int
	}{
		{1, most - 2, []int{most - 2, most - 1, most, most}, []int{most - 1, most}},
		{2, most - 2, []int{most - 2, most - 1, most, most}, []int{most}},
		{3, most - 2, []int{most - 2, most - 1, most, most}, nil},
		{3, most - 5, []int{most - 3, most - 2, most - 1, most}, []int{most - 2}},
		{most, 0, []int{most - 1, most, most}, []int{most}},
		{most, 1, []int{most - 1, most, most}, nil},
		{most, most, []int{most - 1, most, most}, nil},
		{1, 0, []int{most, most}, []int{most}},
		{5, 0, []int{most, most}, []int{most}},
		{2, 1, []int{most - 1, most, most}, []int{most - 1, most}},
	} {
		k := period(t, 6, c.n, c.now)
		var got []int
		for _, now := range c.asked {
			if _, is := k.Tick(now, api.Stopped); is {
				got = append(got, now)
			}
		}
		if !slices.Equal(got, c.want) {
			t.Fatalf("%d from %d on: %v, not %v", c.n, c.now, got, c.want)
		}
	}
	k := period(t, 6, most, 0)
	if _, is := k.Tick(most, api.Ready); !is {
		t.Fatal("due at the last tick")
	}
	if k.Set(2, 8) != api.OK { // where none was due any more it begins anew, too
		t.Fatal("Set")
	}
	if got := ticks(t, k, 6, 8, 12); !slices.Equal(got, []int{10, 12}) {
		t.Fatal(got)
	}
}

// P22.2: whatever is set and asked, by the document's words alone.
func TestMakerRandom(t *testing.T) {
	r := rand.New(rand.NewSource(22))
	for range 300 {
		node := 1 + r.Intn(127)
		k := maker(t, node)
		n, due, now := 0, 0, r.Intn(5)
		for range 80 {
			now += r.Intn(6)
			if r.Intn(9) == 0 {
				n = r.Intn(7)
				due = now + n
				if e := k.Set(n, now); e != api.OK {
					t.Fatal(e)
				}
			}
			m := api.Mode(r.Intn(8))
			want := n > 0 && due <= now && isMode(int(m))
			f, is := k.Tick(now, m)
			if is != want || is && f != of(t, node, m) {
				t.Fatalf("at %d, due at %d: %v, %v", now, due, f, is)
			}
			for is && due <= now {
				due += n
			}
		}
	}
}

// P22.2, P6: two makers of one node have nothing in common.
func TestTwoMakers(t *testing.T) {
	a, b := period(t, 6, 2, 0), period(t, 6, 3, 0)
	if got := ticks(t, a, 6, 0, 9); !slices.Equal(got, []int{2, 4, 6, 8}) {
		t.Fatal(got)
	}
	if got := ticks(t, b, 6, 0, 9); !slices.Equal(got, []int{3, 6, 9}) {
		t.Fatal(got)
	}
}

// nodes are who is watched over, with the times; they must rise.
func nodes(t *testing.T, w *beat.Watch) map[int]int {
	t.Helper()
	all, last := map[int]int{}, 0
	for node, time := range w.Nodes() {
		if node <= last {
			t.Fatalf("%d behind %d", node, last)
		}
		all[node], last = time, node
	}
	return all
}

// watch is one that watches over nodes, all with one time.
func watch(t *testing.T, time int, of ...int) *beat.Watch {
	t.Helper()
	w := beat.NewWatch()
	for _, node := range of {
		if e := w.Set(node, time); e != api.OK {
			t.Fatal(node, time, e)
		}
	}
	return w
}

// hears: the watch hears a beat, and tells that.
func hears(t *testing.T, w *beat.Watch, node int, m api.Mode, now int, want api.EventKind) {
	t.Helper()
	x, is := w.Hear(of(t, node, m), now)
	if !is || x != (api.Event{Kind: want, Node: node, Mode: m}) {
		t.Fatalf("the node %d in the mode %d: %+v, %v, not of the kind %d", node, m, x, is, want)
	}
	if got, is := w.Mode(node); got != m || !is {
		t.Fatalf("it was heard in the mode %d, not in %d", m, got)
	}
}

// unheard: a node has not been heard.
func unheard(t *testing.T, w *beat.Watch, node int) {
	t.Helper()
	if m, is := w.Mode(node); m != 0 || is {
		t.Fatalf("the node %d was heard in the mode %d", node, m)
	}
}

// P22.3: it watches over nobody.
func TestNewWatch(t *testing.T) {
	w := beat.NewWatch()
	if w == nil || w == beat.NewWatch() || len(nodes(t, w)) != 0 {
		t.Fatal("NewWatch")
	}
	for node := range 129 {
		unheard(t, w, node)
	}
	for node := 1; node <= 127; node++ {
		if x, is := w.Hear(of(t, node, api.Ready), 5); is || x != (api.Event{}) {
			t.Fatal(x)
		}
		unheard(t, w, node)
	}
	if l := w.Check(api.MaxNum); len(l) != 0 {
		t.Fatal(l)
	}
}

// P22.3, P22.4: over whom it watches, with which times.
func TestWatchSet(t *testing.T) {
	w, want := beat.NewWatch(), map[int]int{}
	for _, c := range [][2]int{{127, 1}, {1, api.MaxNum}, {64, 7}, {64, 8}, {1, 0}, {2, 0}, {1, 3}, {1, 3}, {64, 0}, {64, 0}, {126, 5}, {127, 0}, {127, 9}} {
		if e := w.Set(c[0], c[1]); e != api.OK {
			t.Fatal(c, e)
		}
		want[c[0]] = c[1]
		if c[1] == 0 {
			delete(want, c[0])
		}
		if got := nodes(t, w); !maps.Equal(got, want) {
			t.Fatal(got, want)
		}
	}
	for node := 1; node <= 127; node++ {
		if e := w.Set(node, 200-node); e != api.OK {
			t.Fatal(node, e)
		}
	}
	if got := nodes(t, w); len(got) != 127 || got[1] != 199 || got[127] != 73 {
		t.Fatal(got)
	}
}

// P22.3, P2: ErrRange ahead of ErrArg, and all stays as it was.
func TestWatchSetWrong(t *testing.T) {
	w := watch(t, 9, 5)
	hears(t, w, 5, api.Ready, 3, api.EvFirst)
	for _, node := range numbers() {
		if node >= 1 && node <= 127 {
			continue
		}
		for _, time := range append(notTicks(), 0, 1, api.MaxNum) {
			if e := w.Set(node, time); e != api.ErrRange {
				t.Fatal(node, time, e)
			}
		}
	}
	for _, time := range notTicks() {
		for _, node := range []int{1, 5, 127} {
			if e := w.Set(node, time); e != api.ErrArg {
				t.Fatal(node, time, e)
			}
		}
	}
	if got := nodes(t, w); !maps.Equal(got, map[int]int{5: 9}) {
		t.Fatal(got)
	}
	hears(t, w, 5, api.Ready, 4, api.EvBeat)
}

// P22.3: what each beat tells, of each mode in which the node was heard ahead.
func TestHear(t *testing.T) {
	for _, node := range []int{1, 64, 127} {
		for _, m := range modes() {
			first := api.EvFirst
			if m == api.Booting {
				first = api.EvBoot
			}
			hears(t, watch(t, 9, node), node, m, 0, first)
			for _, next := range modes() {
				w := watch(t, 9, 1, 64, 127)
				hears(t, w, node, m, 1, first)
				want := api.EvBeat
				if next != m {
					want = api.EvMode
				}
				if next == api.Booting {
					want = api.EvBoot
				}
				hears(t, w, node, next, 2, want)
				for _, other := range []int{1, 64, 127} {
					if other != node {
						unheard(t, w, other)
					}
				}
			}
		}
	}
}

// P22.3: of the mode heard last alone it hangs whether it is another one.
func TestHearRow(t *testing.T) {
	w := watch(t, 9, 5)
	for i, c := range []struct {
		m    api.Mode
		want api.EventKind
	}{
		{api.Ready, api.EvFirst}, {api.Ready, api.EvBeat}, {api.Operating, api.EvMode}, {api.Ready, api.EvMode}, {api.Ready, api.EvBeat},
		{api.Booting, api.EvBoot}, {api.Booting, api.EvBoot}, {api.Ready, api.EvMode}, {api.Stopped, api.EvMode}, {api.Stopped, api.EvBeat},
	} {
		hears(t, w, 5, c.m, i, c.want)
	}
}

// P22.3, P2: what is no beat, of nobody who is watched over, or at no tick, is not heard.
func TestHearWrong(t *testing.T) {
	w := watch(t, 9, 5)
	none := func(f api.Frame, now int) {
		t.Helper()
		if x, is := w.Hear(f, now); is || x != (api.Event{}) {
			t.Fatalf("%+v at %d: %+v", f, now, x)
		}
		unheard(t, w, 5)
	}
	for _, m := range modes() {
		for _, f := range wrongs(m) {
			none(f, 7)
		}
		for _, now := range notTicks() {
			none(of(t, 5, m), now)
		}
		for _, node := range []int{1, 4, 6, 127} {
			none(of(t, node, m), 7)
			unheard(t, w, node)
		}
	}
	hears(t, w, 5, api.Ready, 10, api.EvFirst)
	for _, now := range notTicks() { // nor is it heard again by such
		if _, is := w.Hear(of(t, 5, api.Stopped), now); is {
			t.Fatal(now)
		}
	}
	if m, is := w.Mode(5); m != api.Ready || !is {
		t.Fatal(m, is)
	}
	if l := w.Check(19); len(l) != 0 {
		t.Fatal(l)
	}
	if l := w.Check(20); !slices.Equal(l, []int{5}) {
		t.Fatal(l)
	}
}

// P22.3: lost is who was heard more than its time ahead, once, and till it is heard again.
func TestCheck(t *testing.T) {
	for _, time := range []int{1, 2, 9, 1000} {
		for _, heard := range []int{0, 1, 50, api.MaxNum - 1002} {
			w := watch(t, time, 5)
			if l := w.Check(heard); len(l) != 0 {
				t.Fatal("who was never heard is lost")
			}
			hears(t, w, 5, api.Stopped, heard, api.EvFirst)
			for _, now := range []int{math.MinInt, -1, 0, heard, heard + 1, heard + time} {
				if l := w.Check(now); now <= heard+time && len(l) != 0 {
					t.Fatalf("heard at %d, with the time %d, lost at %d", heard, time, now)
				}
			}
			if m, is := w.Mode(5); m != api.Stopped || !is {
				t.Fatal(m, is)
			}
			if l := w.Check(heard + time + 1); !slices.Equal(l, []int{5}) {
				t.Fatal(l)
			}
			unheard(t, w, 5)
			if l := w.Check(heard + time + 2); len(l) != 0 {
				t.Fatal("lost twice", l)
			}
			if got := nodes(t, w); !maps.Equal(got, map[int]int{5: time}) {
				t.Fatal("it watches over it no more", got)
			}
			hears(t, w, 5, api.Stopped, heard+time+1, api.EvFirst)
		}
	}
}

// P22.3, P5: times up to the end of all ticks.
func TestCheckEnd(t *testing.T) {
	w := watch(t, api.MaxNum, 5)
	hears(t, w, 5, api.Ready, 0, api.EvFirst)
	if l := w.Check(api.MaxNum); len(l) != 0 {
		t.Fatal(l)
	}
	hears(t, w, 5, api.Ready, api.MaxNum, api.EvBeat)
	if l := w.Check(api.MaxNum); len(l) != 0 {
		t.Fatal(l)
	}
	w.Set(6, 1)
	hears(t, w, 6, api.Ready, api.MaxNum, api.EvFirst)
	hears(t, w, 6, api.Ready, api.MaxNum-2, api.EvBeat)
	if l := w.Check(api.MaxNum); !slices.Equal(l, []int{6}) {
		t.Fatal(l)
	}
}

// P22.3: those who are lost are told rising, at whichever tick their times were over.
func TestCheckOrder(t *testing.T) {
	w := watch(t, 3, 1, 9, 64, 127)
	for at, node := range []int{127, 9, 64, 1} {
		hears(t, w, node, api.Ready, at, api.EvFirst)
	}
	if l := w.Check(6); !slices.Equal(l, []int{9, 64, 127}) {
		t.Fatal(l)
	}
	if l := w.Check(100); !slices.Equal(l, []int{1}) {
		t.Fatal(l)
	}
}

// P22.3: each beat begins the time anew.
func TestHearAgain(t *testing.T) {
	w := watch(t, 3, 5)
	hears(t, w, 5, api.Ready, 0, api.EvFirst)
	hears(t, w, 5, api.Ready, 3, api.EvBeat)
	if l := w.Check(6); len(l) != 0 {
		t.Fatal(l)
	}
	hears(t, w, 5, api.Ready, 20, api.EvBeat) // its time was over, but nobody asked
	if l := w.Check(23); len(l) != 0 {
		t.Fatal(l)
	}
	if l := w.Check(24); !slices.Equal(l, []int{5}) {
		t.Fatal(l)
	}
	hears(t, w, 5, api.Booting, 30, api.EvBoot)
	hears(t, w, 5, api.Ready, 31, api.EvMode)
}

// P22.3: who is set has not been heard, whatever was ahead; who is watched over no more is not lost either.
func TestSetForgets(t *testing.T) {
	for _, time := range []int{0, 1, 3, 9} {
		w := watch(t, 3, 4, 5)
		hears(t, w, 4, api.Ready, 2, api.EvFirst)
		hears(t, w, 5, api.Ready, 2, api.EvFirst)
		w.Set(5, time)
		unheard(t, w, 5)
		if m, is := w.Mode(4); m != api.Ready || !is {
			t.Fatal(m, is)
		}
		if l := w.Check(100); !slices.Equal(l, []int{4}) {
			t.Fatal(l)
		}
		if time == 0 {
			if _, is := w.Hear(of(t, 5, api.Ready), 101); is {
				t.Fatal("it watches over it still")
			}
			w.Set(5, 3)
			unheard(t, w, 5)
		}
		hears(t, w, 5, api.Ready, 101, api.EvFirst)
	}
}

// P22.4: of numbers that are none of a node nothing was heard.
func TestModeWrong(t *testing.T) {
	w := beat.NewWatch()
	for node := 1; node <= 127; node++ {
		w.Set(node, 9)
		hears(t, w, node, api.Operating, 1, api.EvFirst)
	}
	for _, node := range numbers() {
		if node < 1 || node > 127 {
			unheard(t, w, node)
		}
	}
}

// P22.4, P7: nodes are told as often as they are ranged over; who stops has no more of them told.
func TestNodes(t *testing.T) {
	w := watch(t, 4, 9, 3, 127, 1)
	seq, want := w.Nodes(), []int{1, 3, 9, 127}
	for range 2 {
		for n := range 4 {
			var got []int
			for node, time := range seq {
				got = append(got, node)
				if time != 4 {
					t.Fatal(time)
				}
				if len(got) > n {
					break
				}
			}
			if !slices.Equal(got, want[:n+1]) {
				t.Fatal(got)
			}
		}
	}
	n := 0
	for range seq {
		for range seq {
			n++
		}
	}
	if n != 16 {
		t.Fatal(n)
	}
}

// P1: who ranges over nodes may change them.
func TestNodesChange(t *testing.T) {
	w := watch(t, 4, 9, 3, 127, 1)
	for node := range w.Nodes() {
		w.Set(node, 0)
	}
	if got := nodes(t, w); len(got) != 0 {
		t.Fatal(got)
	}
}

// heard is what is known of a node, told without the package.
type heard struct {
	time int
	is   bool
	at   int
	mode api.Mode
}

// plain is what a watch should be.
type plain map[int]heard

func (p plain) hear(node int, m api.Mode, now int) (api.Event, bool) {
	x, there := p[node]
	if !there {
		return api.Event{}, false
	}
	e := api.Event{Kind: api.EvBeat, Node: node, Mode: m}
	if x.is && x.mode != m {
		e.Kind = api.EvMode
	}
	if !x.is {
		e.Kind = api.EvFirst
	}
	if m == 0 {
		e.Kind = api.EvBoot
	}
	p[node] = heard{time: x.time, is: true, at: now, mode: m}
	return e, true
}

func (p plain) check(now int) []int {
	var l []int
	for node := range 128 {
		x, there := p[node]
		if there && x.is && now-x.at > x.time {
			l = append(l, node)
			p[node] = heard{time: x.time}
		}
	}
	return l
}

// alike: does a watch tell of itself what it should be?
func alike(t *testing.T, w *beat.Watch, p plain) {
	t.Helper()
	got := nodes(t, w)
	if len(got) != len(p) {
		t.Fatal(got, p)
	}
	for node := range 128 {
		x := p[node]
		if m, is := w.Mode(node); got[node] != x.time || is != x.is || m != x.mode {
			t.Fatalf("the node %d: %d, %v, %d, not %+v", node, got[node], is, m, x)
		}
	}
}

// P22.3, P22.4: whatever is set, heard and checked, by the document's words alone.
func TestWatchRandom(t *testing.T) {
	r := rand.New(rand.NewSource(3))
	lost := 0
	for range 100 {
		w, p, now := beat.NewWatch(), plain{}, 0
		for range 200 {
			now = max(now+r.Intn(5)-1, 0)
			node := 1 + r.Intn(6)*25
			switch r.Intn(8) {
			case 0:
				time := r.Intn(12)
				w.Set(node, time)
				p[node] = heard{time: time}
				if time == 0 {
					delete(p, node)
				}
			case 1, 2:
				got, want := w.Check(now), p.check(now)
				if !slices.Equal(got, want) {
					t.Fatal(got, want)
				}
				lost += len(got)
			default:
				m := modes()[r.Intn(4)]
				got, is := w.Hear(of(t, node, m), now)
				if want, wantIs := p.hear(node, m, now); got != want || is != wantIs {
					t.Fatal(got, want)
				}
			}
			alike(t, w, p)
		}
	}
	if lost < 100 {
		t.Fatal("hardly anyone was lost", lost)
	}
}

// P22.5: who beats at least once in its time is never lost, at whichever ticks that is checked; who beats no more is lost once, as soon as its time is over.
func TestLost(t *testing.T) {
	r := rand.New(rand.NewSource(5))
	for range 200 {
		n := 1 + r.Intn(9)
		k := period(t, 5, n, 0)
		w := watch(t, n+r.Intn(3), 5)
		time, last := nodes(t, w)[5], 0
		for now := range 100 {
			if f, is := k.Tick(now, api.Operating); is {
				if _, is := w.Hear(f, now); !is {
					t.Fatal(now)
				}
				last = now
			}
			if r.Intn(3) > 0 {
				if l := w.Check(now); len(l) != 0 {
					t.Fatalf("a beat each %d ticks, lost with the time %d at %d", n, time, now)
				}
			}
		}
		for now := 100; now < 130; now++ {
			want := []int{}
			if now == max(last+time+1, 100) {
				want = []int{5}
			}
			if l := w.Check(now); !slices.Equal(l, want) {
				t.Fatalf("heard last at %d, with the time %d, at %d: %v", last, time, now, l)
			}
		}
	}
}

// P22.3, P6: two watches have nothing in common.
func TestTwoWatches(t *testing.T) {
	a, b := watch(t, 4, 5), watch(t, 7, 5)
	hears(t, a, 5, api.Ready, 1, api.EvFirst)
	unheard(t, b, 5)
	hears(t, b, 5, api.Stopped, 1, api.EvFirst)
	if l := a.Check(6); !slices.Equal(l, []int{5}) {
		t.Fatal(l)
	}
	if m, is := b.Mode(5); m != api.Stopped || !is {
		t.Fatal(m, is)
	}
	a.Set(5, 0)
	if got := nodes(t, b); !maps.Equal(got, map[int]int{5: 7}) {
		t.Fatal(got)
	}
}

// P3: what Check answers is new memory.
func TestMemory(t *testing.T) {
	w := watch(t, 1, 1, 2, 3)
	for _, node := range []int{1, 2, 3} {
		hears(t, w, node, api.Ready, node, api.EvFirst)
	}
	l := w.Check(4)
	if !slices.Equal(l, []int{1, 2}) {
		t.Fatal(l)
	}
	for i := range l[:cap(l)] {
		l[:cap(l)][i] = 77
	}
	alike(t, w, plain{1: {time: 1}, 2: {time: 1}, 3: {time: 1, is: true, at: 3, mode: api.Ready}})
	hears(t, w, 1, api.Ready, 5, api.EvFirst)
	next := w.Check(7)
	if !slices.Equal(next, []int{1, 3}) || l[0] != 77 || l[1] != 77 {
		t.Fatal(next, l)
	}
}

// P22.4, P1: a nil maker, and a nil watch.
func TestNil(t *testing.T) {
	var k *beat.Maker
	for _, n := range append(notTicks(), 0, 1, 5) {
		if k.Set(n, 1) != api.ErrNil || k.Set(1, n) != api.ErrNil {
			t.Fatal("Set")
		}
		for _, m := range []api.Mode{0, 4, 5, 127, 1, -1} {
			if f, is := k.Tick(n, m); is || f != (api.Frame{}) {
				t.Fatal(f)
			}
		}
	}
	var w *beat.Watch
	for _, n := range numbers() {
		if w.Set(n, 1) != api.ErrNil || w.Set(1, n) != api.ErrNil {
			t.Fatal("Set")
		}
		if x, is := w.Hear(of(t, 5, api.Ready), n); is || x != (api.Event{}) {
			t.Fatal(x)
		}
		if l := w.Check(n); len(l) != 0 {
			t.Fatal(l)
		}
		unheard(t, w, n)
	}
	for node := range w.Nodes() {
		t.Fatal(node)
	}
}

// P1: no call made it, and nothing panics.
func TestNoCallMadeIt(t *testing.T) {
	k := &beat.Maker{}
	k.Set(1, 1)
	k.Tick(2, api.Ready)
	w := &beat.Watch{}
	w.Set(5, 1)
	w.Hear(of(t, 5, api.Ready), 1)
	w.Check(9)
	w.Mode(5)
	for range w.Nodes() {
	}
	w.Set(5, 0)
}
