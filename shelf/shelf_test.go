package shelf_test

import (
	"cmp"
	"iter"
	"maps"
	"math"
	"math/rand"
	"slices"
	"strconv"
	"testing"

	"tripwire/shelf"
)

// The calls have just these signatures.
var (
	_ func() *shelf.Shelf[int, string]                               = shelf.New[int, string]
	_ func(*shelf.Shelf[int, string], int, string) bool              = (*shelf.Shelf[int, string]).Put
	_ func(*shelf.Shelf[string, []byte], string) ([]byte, bool)      = (*shelf.Shelf[string, []byte]).Get
	_ func(*shelf.Shelf[float64, any], float64) (any, bool)          = (*shelf.Shelf[float64, any]).Cut
	_ func(*shelf.Shelf[int, string], int) (int, bool)               = (*shelf.Shelf[int, string]).Place
	_ func(*shelf.Shelf[uint8, string], int) (uint8, string, bool)   = (*shelf.Shelf[uint8, string]).At
	_ func(*shelf.Shelf[int, string]) int                            = (*shelf.Shelf[int, string]).Len
	_ func(*shelf.Shelf[string, int], string) iter.Seq2[string, int] = (*shelf.Shelf[string, int]).From
	_ func(*shelf.Shelf[string, int], string) iter.Seq2[string, int] = (*shelf.Shelf[string, int]).Back
	_ func(*shelf.Shelf[string, int]) iter.Seq2[string, int]         = (*shelf.Shelf[string, int]).All
	_ func(*shelf.Shelf[int, string]) *shelf.Shelf[int, string]      = (*shelf.Shelf[int, string]).Fork
	_ func(*shelf.Shelf[level, struct{}], level, struct{}) bool      = (*shelf.Shelf[level, struct{}]).Put
)

// level is an ordered kind of the tests' own.
type level int8

// pair is a key, and its thing.
type pair[K cmp.Ordered] struct {
	k K
	v int
}

// told is all that is told.
func told[K cmp.Ordered](seq iter.Seq2[K, int]) []pair[K] {
	l := []pair[K]{}
	for k, v := range seq {
		l = append(l, pair[K]{k, v})
	}
	return l
}

// plain is what a table should be, told without the package.
type plain[K cmp.Ordered] map[K]int

// rows are those of which in is true, rising.
func (p plain[K]) rows(in func(K) bool) []pair[K] {
	l := []pair[K]{}
	for k, v := range p {
		if in(k) {
			l = append(l, pair[K]{k, v})
		}
	}
	slices.SortFunc(l, func(a, b pair[K]) int {
		if a.k < b.k {
			return -1
		}
		return 1
	})
	return l
}

// alike: does the table tell of itself what it should be, asked by these keys?
func alike[K cmp.Ordered](t *testing.T, s *shelf.Shelf[K, int], p plain[K], keys []K) {
	t.Helper()
	all := p.rows(func(K) bool { return true })
	if got := told(s.All()); !slices.Equal(got, all) || s.Len() != len(all) {
		t.Fatalf("All: %v, not %v; Len: %d", got, all, s.Len())
	}
	for i := -2; i < len(all)+3; i++ {
		var want pair[K]
		in := 0 <= i && i < len(all)
		if in {
			want = all[i]
		}
		if k, v, there := s.At(i); (pair[K]{k, v}) != want || there != in {
			t.Fatalf("At(%d): %v, %v, %v, not %v, %v", i, k, v, there, want, in)
		}
	}
	for _, k := range keys {
		asked(t, s, p, k)
	}
}

// asked: does it answer what it should of one key?
func asked[K cmp.Ordered](t *testing.T, s *shelf.Shelf[K, int], p plain[K], k K) {
	t.Helper()
	v, in := p[k]
	if got, there := s.Get(k); got != v || there != in {
		t.Fatalf("Get(%v): %d, %v, not %d, %v", k, got, there, v, in)
	}
	less := p.rows(func(x K) bool { return x < k })
	if n, there := s.Place(k); n != len(less) || there != in {
		t.Fatalf("Place(%v): %d, %v, not %d, %v", k, n, there, len(less), in)
	}
	if got, want := told(s.From(k)), p.rows(func(x K) bool { return x >= k }); !slices.Equal(got, want) {
		t.Fatalf("From(%v): %v, not %v", k, got, want)
	}
	back := p.rows(func(x K) bool { return x <= k })
	slices.Reverse(back)
	if got := told(s.Back(k)); !slices.Equal(got, back) {
		t.Fatalf("Back(%v): %v, not %v", k, got, back)
	}
}

// anything does a long row of things to a table of some keys, and to its Forks.
func anything[K cmp.Ordered](t *testing.T, seed int64, keys []K) {
	t.Helper()
	r := rand.New(rand.NewSource(seed))
	for round := range 30 {
		ss, ps := []*shelf.Shelf[K, int]{shelf.New[K, int]()}, []plain[K]{{}}
		for step := range 60 {
			at := r.Intn(len(ss))
			s, p := ss[at], ps[at]
			k := keys[r.Intn(len(keys))]
			v, in := p[k]
			switch r.Intn(8) {
			case 0, 1, 2, 3:
				p[k] = round*100 + step
				if there := s.Put(k, round*100+step); there != in {
					t.Fatalf("Put(%v): %v", k, there)
				}
			case 4, 5, 6:
				delete(p, k)
				if got, there := s.Cut(k); got != v || there != in {
					t.Fatalf("Cut(%v): %d, %v, not %d, %v", k, got, there, v, in)
				}
			case 7:
				if len(ss) < 3 {
					ss, ps = append(ss, s.Fork()), append(ps, maps.Clone(p))
				}
			}
			for i := range ss {
				alike(t, ss[i], ps[i], keys)
			}
		}
	}
}

// P8.1 to P8.3, P4: whatever is put and cut, a table is what it should be, of keys of any ordered kind; so are its Forks.
func TestAnything(t *testing.T) {
	anything(t, 1, []int{math.MinInt, -5, -1, 0, 1, 2, 3, 7, 100, math.MaxInt})
	anything(t, 2, []string{"", "a", "ab", "b", "B", "\x00", "\xff", "\xff\xff", "ä", "a\x00", "10", "9"})
	anything(t, 3, []float64{math.Inf(-1), -math.MaxFloat64, -1.5, 0, math.SmallestNonzeroFloat64, 1, 1.5, math.MaxFloat64, math.Inf(1)})
	anything(t, 4, []uint64{0, 1, 1 << 63, math.MaxUint64, 5, 1<<63 - 1})
	anything(t, 5, []level{-128, -1, 0, 1, 127})
	anything(t, 6, []float32{-1, 0.5, 2})
}

// The document's example.
func TestExample(t *testing.T) {
	s := shelf.New[int, string]()
	if s.Put(5, "a") || s.Put(3, "b") || !s.Put(5, "c") {
		t.Fatal("Put")
	}
	text := ""
	for k, v := range s.All() {
		text += strconv.Itoa(k) + v
	}
	if text != "3b5c" {
		t.Fatal(text)
	}
	if n, there := s.Place(4); n != 1 || there {
		t.Fatal(n, there)
	}
}

// P8.1: an empty table has nothing.
func TestNew(t *testing.T) {
	alike(t, shelf.New[int, int](), plain[int]{}, []int{math.MinInt, -1, 0, 1, math.MaxInt})
	if v, there := shelf.New[int, int]().Cut(0); v != 0 || there {
		t.Fatal(v)
	}
}

// P8.1: a key that is not equal to itself is never there, and is not put.
func TestNoKey(t *testing.T) {
	none := math.NaN()
	for _, have := range []plain[float64]{{}, {1: 10}, {math.Inf(-1): 1, -2: 2, 0: 3, 4: 4, math.Inf(1): 5}} {
		s := shelf.New[float64, int]()
		for k, v := range have {
			s.Put(k, v)
		}
		for range 3 {
			if s.Put(none, 7) {
				t.Fatal("it was there")
			}
			if v, there := s.Get(none); v != 0 || there {
				t.Fatal(v)
			}
			if v, there := s.Cut(none); v != 0 || there {
				t.Fatal(v)
			}
			if n, there := s.Place(none); n != 0 || there { // no key is less
				t.Fatal(n, there)
			}
			if l := told(s.Back(none)); len(l) != 0 {
				t.Fatal(l)
			}
			if l := told(s.From(none)); !slices.Equal(l, told(s.All())) { // all but those that are less
				t.Fatal(l)
			}
			alike(t, s, have, slices.Collect(maps.Keys(have)))
		}
	}
}

// P8.1: two noughts are one key.
func TestNoughts(t *testing.T) {
	less := math.Copysign(0, -1)
	s := shelf.New[float64, int]()
	if s.Put(0, 1) || !s.Put(less, 2) || s.Len() != 1 {
		t.Fatal(s.Len())
	}
	alike(t, s, plain[float64]{0: 2}, []float64{0, less, -1, 1})
	if v, there := s.Cut(less); v != 2 || !there || s.Len() != 0 {
		t.Fatal(v, there)
	}
}

// P8.1: what was cut is there no more, and may be put again.
func TestCutAndPutAgain(t *testing.T) {
	s := shelf.New[string, int]()
	for round := range 5 {
		for _, k := range []string{"b", "a", "c"} {
			if s.Put(k, round) {
				t.Fatal(k)
			}
		}
		for _, k := range []string{"a", "c", "b"} {
			if v, there := s.Cut(k); v != round || !there {
				t.Fatal(k, v)
			}
			if v, there := s.Cut(k); v != 0 || there {
				t.Fatal(k, v)
			}
		}
		if s.Len() != 0 {
			t.Fatal(s.Len())
		}
	}
}

// P8.2: the places that there are, and others.
func TestAtWrongPlaces(t *testing.T) {
	s := shelf.New[string, int]()
	s.Put("a", 1)
	s.Put("b", 2)
	for _, i := range []int{math.MinInt, -2, -1, 2, 3, 1 << 32, math.MaxInt} {
		if k, v, there := s.At(i); k != "" || v != 0 || there {
			t.Fatal(i, k, v)
		}
	}
}

// some is a table of some rows.
func some() (*shelf.Shelf[int, int], plain[int]) {
	s, p := shelf.New[int, int](), plain[int]{}
	for _, k := range []int{40, 10, 30, 60, 20, 50} {
		s.Put(k, k+1)
		p[k] = k + 1
	}
	return s, p
}

// ways are how some's table is ranged over.
func ways(s *shelf.Shelf[int, int]) []iter.Seq2[int, int] {
	return []iter.Seq2[int, int]{s.All(), s.From(20), s.From(25), s.From(-1), s.From(61), s.Back(50), s.Back(45), s.Back(61), s.Back(9)}
}

// acts are what may become of it meanwhile.
func acts() []func(*shelf.Shelf[int, int]) {
	return []func(*shelf.Shelf[int, int]){
		func(s *shelf.Shelf[int, int]) { s.Put(35, 1) },
		func(s *shelf.Shelf[int, int]) { s.Put(1, 1) },
		func(s *shelf.Shelf[int, int]) { s.Put(99, 1) },
		func(s *shelf.Shelf[int, int]) { s.Cut(10) },
		func(s *shelf.Shelf[int, int]) { s.Cut(30); s.Cut(40) },
		func(s *shelf.Shelf[int, int]) { s.Cut(60) },
		func(s *shelf.Shelf[int, int]) { s.Put(30, -1); s.Put(50, -2) },
		func(s *shelf.Shelf[int, int]) {
			for k := range s.All() {
				s.Cut(k)
			}
		},
		func(s *shelf.Shelf[int, int]) {
			for k, v := range s.All() {
				s.Put(k, -v)
				s.Put(k+2, v)
			}
		},
	}
}

// P8.2: what becomes of the table while it is ranged over plays no part.
func TestMeanwhile(t *testing.T) {
	for i, act := range acts() {
		for w := range ways(nil) {
			for at := range 6 {
				s, _ := some()
				seq := ways(s)[w]
				want := told(seq)
				got := []pair[int]{}
				for k, v := range seq {
					if len(got) == at {
						act(s)
					}
					got = append(got, pair[int]{k, v})
				}
				if !slices.Equal(got, want) {
					t.Fatalf("act %d at %d, way %d: %v, not %v", i, at, w, got, want)
				}
			}
		}
	}
}

// P8.2: as it is when it is ranged over, not when that was called.
func TestAsItIsThen(t *testing.T) {
	for i, act := range acts() {
		s, _ := some()
		seqs := ways(s)
		act(s)
		for w, now := range ways(s) {
			if got, want := told(seqs[w]), told(now); !slices.Equal(got, want) {
				t.Fatalf("act %d, way %d: %v, not %v", i, w, got, want)
			}
		}
	}
	s := shelf.New[int, int]()
	seq := s.From(3)
	s.Put(4, 5)
	if got := told(seq); !slices.Equal(got, []pair[int]{{4, 5}}) {
		t.Fatal(got)
	}
}

// P7: told as often as it is ranged over, each time from its beginning; who stops has it told no more.
func TestAgain(t *testing.T) {
	s, _ := some()
	for w, seq := range ways(s) {
		want := told(seq)
		for stop := range want {
			got := []pair[int]{}
			seq(func(k, v int) bool {
				got = append(got, pair[int]{k, v})
				return len(got) <= stop
			})
			if !slices.Equal(got, want[:stop+1]) {
				t.Fatalf("way %d, stopped at %d: %v", w, stop, got)
			}
		}
		for range seq { // one within another
			if got := told(seq); !slices.Equal(got, want) {
				t.Fatalf("way %d: %v", w, got)
			}
		}
	}
}

// P8.2, P4: a Fork stands alike, and what becomes of the one changes nothing of the other one.
func TestFork(t *testing.T) {
	keys := []int{0, 1, 10, 15, 20, 30, 35, 40, 50, 60, 61, 99}
	for i, act := range acts() {
		one, p := some()
		one.Put(70, 1)
		one.Cut(70) // so that there may be spare room behind
		two := one.Fork()
		if one == two {
			t.Fatal("it is the same one")
		}
		alike(t, two, p, keys)
		three := two.Fork()
		act(two)
		alike(t, one, p, keys)
		alike(t, three, p, keys)
		act(one)
		alike(t, three, p, keys)
		if !slices.Equal(told(one.All()), told(two.All())) {
			t.Fatal(i, "a Fork does otherwise")
		}
	}
	one, _ := some()
	one.Cut(60)
	two := one.Fork() // both put into what may be one spare room
	one.Put(71, 1)
	two.Put(72, 2)
	if v, there := one.Get(71); v != 1 || !there {
		t.Fatal(v)
	}
	if v, there := two.Get(72); v != 2 || !there {
		t.Fatal(v)
	}
	if l := told(shelf.New[int, int]().Fork().All()); len(l) != 0 {
		t.Fatal(l)
	}
}

// P8.2, P1: of a nil table: nothing, false, 0.
func TestNil(t *testing.T) {
	var s *shelf.Shelf[string, int]
	if s.Put("a", 1) || s.Put("a", 1) || s.Len() != 0 || s.Fork() != nil {
		t.Fatal("a nil table has something")
	}
	alike(t, s, plain[string]{}, []string{"", "a", "b"})
	if v, there := s.Cut("a"); v != 0 || there {
		t.Fatal(v)
	}
	for _, seq := range []iter.Seq2[string, int]{s.All(), s.From(""), s.From("a"), s.Back(""), s.Back("a")} {
		for range seq {
			t.Fatal("told")
		}
	}
}

// P1: nothing panics of a table that no call made.
func TestNoCallMadeIt(t *testing.T) {
	var s shelf.Shelf[int, int]
	s.Get(1)
	s.Cut(1)
	s.Place(1)
	s.At(0)
	s.Fork().Put(1, 2)
	for _, seq := range ways(&s) {
		told(seq)
	}
	s.Put(1, 2)
	s.Len()
}

// Things are of any kind, such as are not to be compared, too.
func TestAnyKind(t *testing.T) {
	s := shelf.New[string, func() int]()
	s.Put("a", func() int { return 7 })
	s.Put("b", nil)
	if f, there := s.Get("a"); !there || f() != 7 {
		t.Fatal(there)
	}
	if f, there := s.Get("b"); !there || f != nil { // nil is a thing, too
		t.Fatal(there)
	}
	if f, there := s.Get("c"); there || f != nil {
		t.Fatal(there)
	}
	list := []int{1, 2}
	l := shelf.New[int, []int]()
	l.Put(1, list)
	if _, got, there := l.At(0); !there || &got[0] != &list[0] {
		t.Fatal(got)
	}
}

// P1, the bound: many keys, rising, falling, and in no order.
func TestMany(t *testing.T) {
	const n = 1 << 14
	for _, step := range []int{1, n - 1, 5323} {
		s := shelf.New[int, int]()
		for i := range n {
			if k := i * step % n; s.Put(k, i) {
				t.Fatal(k)
			}
		}
		for i := range n {
			k := i * step % n
			if v, there := s.Get(k); v != i || !there {
				t.Fatal(k, v)
			}
			if at, _ := s.Place(k); at != k {
				t.Fatal(at)
			}
		}
		for i := range n {
			if i%2 == 0 {
				s.Cut(i * step % n)
			}
		}
		if s.Len() != n/2 {
			t.Fatal(s.Len())
		}
		if l := told(s.All()); !slices.IsSortedFunc(l, func(a, b pair[int]) int { return a.k - b.k }) {
			t.Fatal("they do not rise")
		}
	}
}
