package filter_test

import (
	"iter"
	"math"
	"math/bits"
	"math/rand"
	"slices"
	"testing"

	"tripwire/api"
	"tripwire/filter"
)

// The calls have just these signatures.
var (
	_ func(int, ...filter.Filter) bool        = filter.Pass
	_ func(filter.Filter, filter.Filter) bool = filter.Meet
	_ func(filter.Filter) int                 = filter.Size
	_ func(...filter.Filter) iter.Seq[int]    = filter.Ids
	_ func(...filter.Filter) int              = filter.Count
	_ func(...int) []filter.Filter            = filter.Pack
	_ struct{ Code, Mask int }                = filter.Filter{}
)

const all = api.MaxId + 1

// wrongIds are numbers that are no identifiers.
func wrongIds() []int {
	return []int{-1, -2, -2047, -2048, all, all + 1, 4095, 4096, 1 << 16, 1 << 32, 1<<32 + 5, math.MaxInt, math.MinInt, math.MaxInt32, math.MinInt32}
}

// passes looks at each of the eleven bits.
func passes(id int, f filter.Filter) bool {
	for k := range 11 {
		if f.Mask>>k&1 == 1 && f.Code>>k&1 != id>>k&1 {
			return false
		}
	}
	return true
}

// some are filters of many kinds, with bits that count and bits that do not.
func some() []filter.Filter {
	l := []filter.Filter{{}, {Code: 5}, {Mask: api.MaxId}, {Code: 291, Mask: api.MaxId}, {Code: 4, Mask: 0x7fc}, {Code: 7, Mask: 0x7fc}, {Code: 0x700, Mask: 0x700}, {Code: 1, Mask: 1}, {Mask: 1}}
	l = append(l, filter.Filter{Code: -1, Mask: -1}, filter.Filter{Code: math.MinInt, Mask: math.MinInt}, filter.Filter{Code: math.MaxInt, Mask: math.MaxInt}, filter.Filter{Code: 1 << 11, Mask: 1 << 11})
	l = append(l, filter.Filter{Code: 1<<40 + 6, Mask: 1<<40 + 7}, filter.Filter{Code: -2, Mask: 3}, filter.Filter{Code: 3, Mask: -4}, filter.Filter{Code: 0x555, Mask: 0x2aa}, filter.Filter{Code: 0x7ff, Mask: 0x400})
	r := rand.New(rand.NewSource(3))
	for range 60 {
		l = append(l, filter.Filter{Code: int(r.Uint64()), Mask: int(r.Uint64() & r.Uint64())}, filter.Filter{Code: r.Intn(all), Mask: r.Intn(all) | r.Intn(all)})
	}
	return l
}

// through is what some filters let pass, rising.
func through(l ...filter.Filter) []int {
	out := []int{}
	for id := range all {
		if slices.ContainsFunc(l, func(f filter.Filter) bool { return passes(id, f) }) {
			out = append(out, id)
		}
	}
	return out
}

// groups are lists of filters: none, one, two, and more.
func groups() [][]filter.Filter {
	l := [][]filter.Filter{nil, {}, some()[2:12], some()[3:9], some()}
	for i, f := range some() {
		l = append(l, []filter.Filter{f}, []filter.Filter{f, f}, []filter.Filter{f, some()[(i*7+3)%len(some())]})
		l = append(l, []filter.Filter{some()[(i*5+1)%len(some())], f, some()[(i*11+4)%len(some())]})
	}
	return l
}

// P6.1: does one of them let it pass?
func TestPass(t *testing.T) {
	for _, l := range groups() {
		want := through(l...)
		for id := range all {
			_, in := slices.BinarySearch(want, id)
			if got := filter.Pass(id, l...); got != in {
				t.Fatalf("Pass(%d, %v): %v", id, l, got)
			}
		}
		for _, id := range wrongIds() {
			if filter.Pass(id, l...) {
				t.Fatalf("Pass(%d, %v)", id, l)
			}
		}
	}
	for _, id := range wrongIds() {
		if filter.Pass(id, filter.Filter{Code: id, Mask: -1}, filter.Filter{Code: id, Mask: id}) {
			t.Fatal(id)
		}
	}
}

// P6.1: is there one that both let pass?
func TestMeet(t *testing.T) {
	for _, a := range some() {
		for _, b := range some() {
			want := slices.ContainsFunc(through(a), func(id int) bool { return passes(id, b) })
			if got := filter.Meet(a, b); got != want || filter.Meet(b, a) != want {
				t.Fatalf("Meet(%v, %v): %v", a, b, got)
			}
		}
	}
	for k := range 64 { // each bit alone: those above the eleven lowest do not count
		a, b := filter.Filter{Code: 1 << k, Mask: 1 << k}, filter.Filter{Mask: 1 << k}
		if filter.Meet(a, b) != (k > 10) || !filter.Meet(a, filter.Filter{}) || !filter.Meet(filter.Filter{}, b) {
			t.Fatal(k)
		}
	}
}

// P6.1: how many one lets pass.
func TestSize(t *testing.T) {
	for _, f := range some() {
		if got := filter.Size(f); got != len(through(f)) {
			t.Fatalf("Size(%v): %d", f, got)
		}
	}
	for mask := range 2 * all {
		want := 1 << (11 - bits.OnesCount16(uint16(mask%all)))
		if got := filter.Size(filter.Filter{Code: mask * 7, Mask: mask}); got != want {
			t.Fatalf("Size of the Mask %d: %d", mask, got)
		}
	}
}

// P6.1, P6.3: all that some let pass, rising, each once; such as do not meet let pass as many as each, added up.
func TestIds(t *testing.T) {
	for _, l := range groups() {
		want := through(l...)
		got := slices.Collect(filter.Ids(l...))
		if !slices.Equal(got, want) {
			t.Fatalf("Ids(%v): %v", l, got)
		}
		if n := filter.Count(l...); n != len(want) {
			t.Fatalf("Count(%v): %d, not %d", l, n, len(want))
		}
		sum, meet := 0, false
		for i, f := range l {
			sum += filter.Size(f)
			for _, g := range l[:i] {
				meet = meet || filter.Meet(f, g)
			}
		}
		if n := filter.Count(l...); n > sum || (n == sum) == meet {
			t.Fatalf("Count(%v): %d of %d", l, n, sum)
		}
	}
}

// P7: told as often as it is ranged over, each time from the beginning; who stops has it told no more.
func TestIdsAgain(t *testing.T) {
	for _, l := range groups() {
		want := through(l...)
		seq := filter.Ids(l...)
		for stop := range min(len(want), 5) {
			got := []int{}
			for id := range seq {
				got = append(got, id)
				if len(got) > stop {
					break
				}
			}
			if !slices.Equal(got, want[:stop+1]) {
				t.Fatalf("Ids(%v): %v", l, got)
			}
		}
		told := 0
		seq(func(int) bool { told++; return false })
		if told != min(len(want), 1) {
			t.Fatalf("told %d times behind a stop", told)
		}
		for range 2 {
			if !slices.Equal(slices.Collect(seq), want) {
				t.Fatal(l)
			}
		}
		for a := range seq { // one within another
			if slices.Equal(slices.Collect(seq), want) && a == want[0] {
				break
			}
			t.Fatal(a)
		}
	}
}

// packed does what the document says, pair by pair, each time from the beginning.
func packed(ids []int) []filter.Filter {
	own := slices.DeleteFunc(slices.Clone(ids), func(id int) bool { return id < 0 || id > api.MaxId })
	slices.Sort(own)
	l := []filter.Filter{}
	for _, id := range slices.Compact(own) {
		l = append(l, filter.Filter{Code: id, Mask: 0x7ff})
	}
	for {
		i, j, found := firstPair(l)
		if !found {
			return l
		}
		unlike := l[i].Code ^ l[j].Code
		l[i].Mask -= unlike
		l[i].Code &^= unlike
		l = slices.Delete(l, j, j+1)
	}
}

func firstPair(l []filter.Filter) (int, int, bool) {
	for i, a := range l {
		for j := i + 1; j < len(l); j++ {
			if b := l[j]; a.Mask == b.Mask && bits.OnesCount(uint(a.Code^b.Code)) == 1 {
				return i, j, true
			}
		}
	}
	return 0, 0, false
}

// lists are lists of identifiers, and of what is none.
func lists() [][]int {
	l := [][]int{nil, {}, {0}, {api.MaxId}, {4, 5, 6, 7}, {7, 6, 5, 4}, {1, 2}, {1, 2, 3}, {0, 1, 2}, {0, 1, 2, 3, 4, 5, 6}, {5, 5, 5}, {0, 1, 3, 7, 15, 31}, {2, 3, 6, 7, 10, 14, 11}}
	l = append(l, wrongIds(), append(wrongIds(), 4, 5, 2047, 1023), append(wrongIds(), wrongIds()...))
	r := rand.New(rand.NewSource(4))
	for i := range 120 {
		most, span := 1+i*2, []int{16, 32, 64, 256, all}[i%5]
		one := []int{}
		for range r.Intn(most) + 1 {
			one = append(one, r.Intn(span)+r.Intn(2)*(all-span))
		}
		l = append(l, one)
	}
	for bit := range 11 {
		l = append(l, through(filter.Filter{Code: 1 << bit, Mask: 1 << bit})[:64], through(filter.Filter{Mask: all - 1<<bit - 1}))
	}
	for x := range 1 << 8 { // each choice of eight neighbours
		one := []int{}
		for k := range 8 {
			if x>>k&1 == 1 {
				one = append(one, 40+k)
			}
		}
		l = append(l, one)
	}
	return l
}

// P6.2, P6.3: just those pass, no more filters than identifiers, and just the filters that the document's steps make.
func TestPack(t *testing.T) {
	for _, ids := range lists() {
		got, want := filter.Pack(ids...), packed(ids)
		if !slices.Equal(got, want) {
			t.Fatalf("Pack(%v): %v, not %v", ids, got, want)
		}
		own := slices.DeleteFunc(slices.Clone(ids), func(id int) bool { return id < 0 || id > api.MaxId })
		slices.Sort(own)
		own = slices.Compact(own)
		if !slices.Equal(through(got...), own) || len(got) > len(own) || filter.Count(got...) != len(own) {
			t.Fatalf("Pack(%v) lets pass %v", ids, through(got...))
		}
	}
}

// P6.2: the examples, and all identifiers that there are.
func TestPackExamples(t *testing.T) {
	if l := filter.Pack(4, 5, 6, 7); !slices.Equal(l, []filter.Filter{{Code: 4, Mask: 0x7fc}}) {
		t.Fatal(l)
	}
	if l := filter.Pack(1, 2); !slices.Equal(l, []filter.Filter{{Code: 1, Mask: 0x7ff}, {Code: 2, Mask: 0x7ff}}) {
		t.Fatal(l)
	}
	every := through(filter.Filter{})
	if l := filter.Pack(every...); !slices.Equal(l, []filter.Filter{{}}) {
		t.Fatal(l)
	}
	slices.Reverse(every)
	if l := filter.Pack(every[:all-1]...); !slices.Equal(l, packed(every[:all-1])) || filter.Count(l...) != all-1 || filter.Pass(0, l...) {
		t.Fatal(l)
	}
	many := []int{}
	for i := range 1 << 20 {
		many = append(many, i*i%5000-700)
	}
	slices.Sort(many)
	many = slices.Insert(slices.Compact(many), 0, 9, 9, 9)
	if got := filter.Pack(many...); !slices.Equal(got, packed(many)) {
		t.Fatal(len(got))
	}
}

// P1, the bound: many filters.
func TestMany(t *testing.T) {
	l := make([]filter.Filter, 1<<18)
	for i := range l {
		l[i] = filter.Filter{Code: i, Mask: -1 - i%2*1024}
	}
	if filter.Count(l...) != all || !filter.Pass(2047, l...) || !filter.Pass(0, l...) || filter.Pass(all, l...) {
		t.Fatal("many")
	}
}

// P3: what is handed in stays as it is, the spare room behind it, too, and is not kept; what is answered is new memory.
func TestHandedInStays(t *testing.T) {
	room := some()
	before := slices.Clone(room)
	for n := range len(room) {
		l := room[:n]
		want := through(l...)
		seq := filter.Ids(l...)
		filter.Pass(5, l...)
		filter.Count(l...)
		if !slices.Equal(room, before) {
			t.Fatal("it was changed", room)
		}
		for i := range room {
			room[i] = filter.Filter{Code: 3, Mask: 2047}
		}
		if !slices.Equal(slices.Collect(seq), want) {
			t.Fatal("what is told hangs on what was handed in")
		}
		copy(room, before)
	}
	ids := []int{7, 6, 5, -4, 4, 4000, 9, 1, 2, 3}
	kept := slices.Clone(ids)
	for n := range ids {
		one, two := filter.Pack(ids[:n]...), filter.Pack(ids[:n]...)
		clear(two[:cap(two)])
		if !slices.Equal(ids, kept) || !slices.Equal(one, packed(kept[:n])) {
			t.Fatal(ids, one)
		}
	}
}

// P6: a call answers the same again, whatever came between.
func TestAgain(t *testing.T) {
	for _, ids := range lists()[:40] {
		first := filter.Pack(ids...)
		filter.Pack(1, 2, 3, 2047)
		filter.Count(first...)
		if !slices.Equal(filter.Pack(ids...), first) {
			t.Fatal(ids)
		}
	}
}
