package bits_test

import (
	"bytes"
	"fmt"
	"iter"
	"math"
	"slices"
	"strings"
	"testing"

	"tripwire/api"
	"tripwire/bits"
)

// The calls have just these signatures.
var (
	_ func(uint32, int) []byte          = bits.Of
	_ func([]byte) (uint32, api.Errno)  = bits.Num
	_ func([]byte) []byte               = bits.Stuff
	_ func([]byte) ([]byte, api.Errno)  = bits.Unstuff
	_ func([]byte) iter.Seq2[byte, int] = bits.Runs
	_ func([]byte, ...int) []byte       = bits.Turn
	_ func([]byte) string               = bits.Text
	_ func(string) ([]byte, api.Errno)  = bits.Parse
)

// row is a row of noughts and ones, made without the package.
func row(text string) []byte {
	l := []byte{}
	for i := range len(text) {
		l = append(l, text[i]-'0')
	}
	return l
}

// noisy is a row whose bytes have other bits set, too: these do not count.
func noisy(text string) []byte {
	l := row(text)
	for i := range l {
		l[i] |= byte(i*38+90) &^ 1
	}
	return l
}

// text is a row's bits; the test fails where one is neither 0 nor 1.
func text(t *testing.T, l []byte) string {
	t.Helper()
	s := make([]byte, len(l))
	for i, x := range l {
		if x > 1 {
			t.Fatalf("place %d: %d is neither 0 nor 1", i, x)
		}
		s[i] = '0' + x
	}
	return string(s)
}

// texts tells all texts of noughts and ones of at most so many bits.
func texts(longest int) iter.Seq[string] {
	return func(yield func(string) bool) {
		for width := range longest + 1 {
			for n := range 1 << width {
				if !yield(fmt.Sprintf("%b", 1<<width+n)[1:]) {
					return
				}
			}
		}
	}
}

// random is a text of so many bits, with runs of many lengths; the same one for one seed.
func random(seed uint64, n int) string {
	l := make([]byte, 0, n)
	for len(l) < n {
		seed = seed*6364136223846793005 + 1442695040888963407
		bit := '0' + byte(seed>>40&1)
		for range min(int(seed>>50&15), n-len(l)) {
			l = append(l, bit)
		}
	}
	return string(l)
}

func longTexts() []string {
	return []string{
		strings.Repeat("0", 100003), strings.Repeat("1", 70000), strings.Repeat("01", 40000),
		"0" + strings.Repeat("00001111", 9999), "1" + strings.Repeat("11110000", 9999),
		random(1, 100000), random(2, 99999), random(3, 65537), random(4, 257), random(5, 1000),
	}
}

// stuffed is what the document says of a stuffed row, bit by bit.
func stuffed(s string) string {
	var l []byte
	for i := range len(s) {
		l = append(l, s[i])
		if bytes.HasSuffix(l, []byte("00000")) {
			l = append(l, '1')
		} else if bytes.HasSuffix(l, []byte("11111")) {
			l = append(l, '0')
		}
	}
	return string(l)
}

// unstuffError is the error of a text that is no stuffed row.
func unstuffError(s string) api.Errno {
	if strings.Contains(s, "000000") || strings.Contains(s, "111111") {
		return api.ErrStuff
	}
	return api.ErrEnd
}

// run is one of a row's runs.
type run struct {
	bit byte
	n   int
}

// runs are a text's runs, made without the package.
func runs(s string) []run {
	var l []run
	for i := range len(s) {
		if i == 0 || s[i] != s[i-1] {
			l = append(l, run{s[i] - '0', 0})
		}
		l[len(l)-1].n++
	}
	return l
}

// told are the runs that are told.
func told(s iter.Seq2[byte, int]) []run {
	var l []run
	for bit, n := range s {
		l = append(l, run{bit, n})
	}
	return l
}

// P1.1: the lowest bits, the highest first; each width has an answer.
func TestOf(t *testing.T) {
	for _, n := range []uint32{0, 1, 2, 5, 0xa5, 0x80, 0x7fffffff, 0x80000000, 0x80000001, 0xdeadbeef, 0x12345678, 0x55555555, math.MaxUint32} {
		all := fmt.Sprintf("%032b", n)
		for width := -3; width <= 70; width++ {
			want := all[32-min(max(width, 0), 32):]
			if got := text(t, bits.Of(n, width)); got != want {
				t.Fatalf("Of(%x, %d): %q, not %q", n, width, got, want)
			}
		}
		for _, width := range []int{math.MinInt, math.MinInt32, -1 << 32, -1 << 8, -32} {
			if l := bits.Of(n, width); len(l) != 0 {
				t.Fatalf("Of(%x, %d): %v", n, width, l)
			}
		}
		for _, width := range []int{128, 256, 1 << 16, math.MaxInt32, 1 << 32, 1<<32 + 1, math.MaxInt} {
			if got := text(t, bits.Of(n, width)); got != all {
				t.Fatalf("Of(%x, %d): %q", n, width, got)
			}
		}
	}
}

// P1.1: the number of at most 32 bits.
func TestNum(t *testing.T) {
	for _, n := range []uint32{0, 1, 5, 0xa5, 0x7fffffff, 0x80000000, 0xdeadbeef, math.MaxUint32} {
		all := fmt.Sprintf("%032b", n)
		for width := 0; width <= 32; width++ {
			want := uint32(uint64(n) & (1<<width - 1))
			for _, l := range [][]byte{row(all[32-width:]), noisy(all[32-width:]), bits.Of(n, width)} {
				if got, e := bits.Num(l); got != want || e != api.OK {
					t.Fatalf("Num(%v): %d, %d; not %d", l, got, e, want)
				}
			}
		}
	}
	if n, e := bits.Num(nil); n != 0 || e != api.OK {
		t.Fatal(n, e)
	}
	if n, e := bits.Num(row("101")); n != 5 || e != api.OK {
		t.Fatal(n, e)
	}
}

// P1.1: what has more than 32 bits is no number, be it noughts alone.
func TestNumLimit(t *testing.T) {
	for _, width := range []int{33, 34, 64, 255, 256, 257, 288, 1 << 16, 1<<16 + 5} {
		for _, l := range [][]byte{make([]byte, width), row(strings.Repeat("1", width)), noisy(strings.Repeat("0", width-1) + "1")} {
			if n, e := bits.Num(l); n != 0 || e != api.ErrLimit {
				t.Fatalf("Num of %d bits: %d, %d", width, n, e)
			}
		}
	}
}

// P1.2: bits that were put between count, too, and one is put behind the last five.
func TestStuff(t *testing.T) {
	for _, c := range [][2]string{
		{"", ""}, {"1", "1"}, {"1111", "1111"}, {"0000", "0000"}, {"00000", "000001"},
		{"11111", "111110"}, {"1111100001", "111110000011"}, {"000001111", "00000111110"},
		{"111111", "1111101"}, {"0000000000", "000001000001"}, {"1111101111", "11111001111"},
		{"11111000011110", "11111000001111100"},
	} {
		if got := text(t, bits.Stuff(row(c[0]))); got != c[1] {
			t.Fatalf("Stuff(%s): %s, not %s", c[0], got, c[1])
		}
	}
	for s := range texts(14) {
		want := stuffed(s)
		for _, l := range [][]byte{row(s), noisy(s)} {
			if got := text(t, bits.Stuff(l)); got != want {
				t.Fatalf("Stuff(%v): %s, not %s", l, got, want)
			}
		}
	}
	if l := bits.Stuff(nil); len(l) != 0 {
		t.Fatal(l)
	}
}

// P1.2: a row comes back just if it was stuffed.
func TestUnstuff(t *testing.T) {
	whole := map[string]string{}
	for s := range texts(15) {
		whole[stuffed(s)] = s
	}
	for b := range texts(15) {
		want, is := whole[b]
		fault := api.OK
		if !is {
			fault = unstuffError(b)
		}
		for _, l := range [][]byte{row(b), noisy(b)} {
			got, e := bits.Unstuff(l)
			if e != fault || text(t, got) != want {
				t.Fatalf("Unstuff(%v): %v, %d; not %q, %d", l, got, e, want, fault)
			}
		}
	}
	if l, e := bits.Unstuff(nil); len(l) != 0 || e != api.OK {
		t.Fatal(l, e)
	}
}

// P1.2: the same bit behind five, or none; of both faults the first one.
func TestUnstuffFaults(t *testing.T) {
	far := strings.Repeat("01", 5000)
	for _, c := range []struct {
		b    string
		e    api.Errno
		want string
	}{
		{"11111", api.ErrEnd, ""}, {"00000", api.ErrEnd, ""},
		{"111110", api.OK, "11111"}, {"000001", api.OK, "00000"}, {"0111110", api.OK, "011111"},
		{"111111", api.ErrStuff, ""}, {"000000", api.ErrStuff, ""}, {"1111111", api.ErrStuff, ""},
		{"1111100000", api.ErrEnd, ""}, {"11111000000", api.ErrStuff, ""}, {"11111000001", api.OK, "111110000"},
		{"111110000010000", api.OK, "1111100000000"}, {"11111100000", api.ErrStuff, ""},
		{far + "111", api.OK, far + "111"}, {far + "1111", api.ErrEnd, ""},
		{far + "11110", api.OK, far + "1111"}, {far + "11111", api.ErrStuff, ""}, {"111111" + far, api.ErrStuff, ""},
	} {
		l, e := bits.Unstuff(row(c.b))
		if e != c.e || text(t, l) != c.want {
			t.Fatalf("Unstuff(%s): %v, %d; not %q, %d", c.b, l, e, c.want, c.e)
		}
	}
}

// P1.3: each run, in order; of bytes the lowest bit alone counts.
func TestRuns(t *testing.T) {
	for s := range texts(12) {
		for _, l := range [][]byte{row(s), noisy(s)} {
			if got := told(bits.Runs(l)); !slices.Equal(got, runs(s)) {
				t.Fatalf("Runs(%v): %v, not %v", l, got, runs(s))
			}
		}
	}
	for _, s := range longTexts() {
		if got := told(bits.Runs(noisy(s))); !slices.Equal(got, runs(s)) {
			t.Fatalf("the runs of a row of %d bits", len(s))
		}
	}
	for bit, n := range bits.Runs(nil) {
		t.Fatal(bit, n)
	}
}

// P7: runs are told as often as they are ranged over, each time from the beginning; who stops is told no more.
func TestRunsAgain(t *testing.T) {
	const s = "110001011111110"
	want := runs(s)
	seq := bits.Runs(row(s))
	for stop := range len(want) + 1 {
		var got []run
		seq(func(bit byte, n int) bool {
			got = append(got, run{bit, n})
			return len(got) < stop
		})
		if !slices.Equal(got, want[:max(stop, 1)]) {
			t.Fatalf("stopped at %d: %v", stop, got)
		}
		if got := told(seq); !slices.Equal(got, want) {
			t.Fatalf("again, behind a stop at %d: %v", stop, got)
		}
	}
	var outer []run
	for bit, n := range seq {
		outer = append(outer, run{bit, n})
		if got := told(seq); !slices.Equal(got, want) {
			t.Fatalf("within another range: %v", got)
		}
	}
	if !slices.Equal(outer, want) {
		t.Fatalf("around another range: %v", outer)
	}
}

// P3: what was handed in is not kept: whoever changes it later changes no run.
func TestRunsKeepNothing(t *testing.T) {
	const s = "1110010"
	b := row(s)
	seq := bits.Runs(b)
	clear(b)
	if got := told(seq); !slices.Equal(got, runs(s)) {
		t.Fatalf("changed ahead of the range: %v", got)
	}
	b = row(s)
	var got []run
	for bit, n := range bits.Runs(b) {
		got = append(got, run{bit, n})
		for i := range b {
			b[i] ^= 1
		}
	}
	if !slices.Equal(got, runs(s)) {
		t.Fatalf("changed within the range: %v", got)
	}
}

// P1.3: each place as often as it is told; what is no place counts for nothing.
func TestTurn(t *testing.T) {
	for _, c := range []struct {
		b    string
		at   []int
		want string
	}{
		{"", nil, ""}, {"", []int{0, -1, 1}, ""}, {"101", nil, "101"}, {"101", []int{0}, "001"},
		{"101", []int{1}, "111"}, {"101", []int{2}, "100"}, {"101", []int{2, 0, 1}, "010"},
		{"101", []int{0, 0}, "101"}, {"101", []int{0, 1, 0}, "111"}, {"101", []int{1, 1, 1}, "111"},
		{"101", []int{3, -1, 4, -2, -3}, "101"}, {"101", []int{3, 0, -1}, "001"},
		{"101", []int{math.MinInt, math.MaxInt, 256, 1 << 32, -1 << 32, 1 << 16}, "101"},
	} {
		for _, l := range [][]byte{row(c.b), noisy(c.b)} {
			at := slices.Clone(c.at)
			if got := text(t, bits.Turn(l, at...)); got != c.want {
				t.Fatalf("Turn(%v, %v): %s, not %s", l, c.at, got, c.want)
			}
			if !slices.Equal(at, c.at) {
				t.Fatalf("Turn(%v, %v): the places are %v behind it", l, c.at, at)
			}
		}
	}
	if l := bits.Turn(nil); len(l) != 0 {
		t.Fatal(l)
	}
	if l := bits.Turn(nil, 0, 5); len(l) != 0 {
		t.Fatal(l)
	}
}

func TestTurnOften(t *testing.T) {
	for n := range 600 {
		at := slices.Repeat([]int{300}, n)
		b := make([]byte, 1000)
		want := make([]byte, 1000)
		want[300] = byte(n % 2)
		if got := bits.Turn(b, at...); !bytes.Equal(got, want) {
			t.Fatalf("turned %d times: %d", n, got[300])
		}
	}
	s := random(6, 70000)
	at := make([]int, len(s))
	for i := range at {
		at[i] = len(s) - 1 - i
	}
	l := bits.Turn(row(s), at...)
	for i := range s {
		if l[i] != '1'-s[i] {
			t.Fatalf("all places turned: %d at %d", l[i], i)
		}
	}
}

// P1.4: a 0 or a 1 for each bit, and back.
func TestTextAndParse(t *testing.T) {
	for s := range texts(11) {
		for _, l := range [][]byte{row(s), noisy(s)} {
			if got := bits.Text(l); got != s {
				t.Fatalf("Text(%v): %q, not %q", l, got, s)
			}
		}
		if l, e := bits.Parse(s); e != api.OK || text(t, l) != s {
			t.Fatalf("Parse(%q): %v, %d", s, l, e)
		}
	}
	for x := range 256 {
		if got := bits.Text([]byte{byte(x)}); got != string('0'+rune(x%2)) {
			t.Fatalf("Text of %d: %q", x, got)
		}
	}
	if s := bits.Text(nil); s != "" {
		t.Fatal(s)
	}
}

// P1.4: another byte, wherever it stands.
func TestParseForm(t *testing.T) {
	for x := range 256 {
		if x == '0' || x == '1' {
			continue
		}
		for _, around := range [][2]string{{"", ""}, {"01", ""}, {"", "10"}, {"0110", "1"}, {"11111111111111111", "0"}} {
			s := around[0] + string([]byte{byte(x)}) + around[1]
			if l, e := bits.Parse(s); e != api.ErrForm || len(l) != 0 {
				t.Fatalf("Parse(%q): %v, %d", s, l, e)
			}
		}
	}
	for _, s := range []string{"0é1", "０", "1\x00", " 0", "0\n", "0b1", "+1", "-0", "\xff", "1_0"} {
		if l, e := bits.Parse(s); e != api.ErrForm || len(l) != 0 {
			t.Fatalf("Parse(%q): %v, %d", s, l, e)
		}
	}
}

// P1.5: there and back, no run of six, at most a fourth longer.
func TestStuffThereAndBack(t *testing.T) {
	look := func(s string) {
		b := bits.Stuff(row(s))
		if strings.Contains(text(t, b), "000000") || strings.Contains(text(t, b), "111111") {
			t.Fatalf("Stuff(%s): %v has a run of six", s, b)
		}
		if 4*(len(b)-len(s)) > len(s) {
			t.Fatalf("Stuff(%s): %d bits of %d", s, len(b), len(s))
		}
		if l, e := bits.Unstuff(b); e != api.OK || text(t, l) != s {
			t.Fatalf("Unstuff(Stuff(%s)): %v, %d", s, l, e)
		}
	}
	for s := range texts(13) {
		look(s)
		if l, e := bits.Unstuff(row(s)); e == api.OK && text(t, bits.Stuff(l)) != s {
			t.Fatalf("Stuff(Unstuff(%s)): %v", s, bits.Stuff(l))
		}
	}
	for _, s := range longTexts() {
		look(s)
		if got := text(t, bits.Stuff(noisy(s))); got != stuffed(s) {
			t.Fatalf("a row of %d bits", len(s))
		}
	}
}

// P1.6: the runs are together the row; neighbours are unlike.
func TestRunsTogether(t *testing.T) {
	look := func(s string) {
		var l []byte
		last := byte(2)
		for bit, n := range bits.Runs(row(s)) {
			if bit == last || n < 1 {
				t.Fatalf("Runs(%s): %d times %d behind %d", s, n, bit, last)
			}
			last = bit
			l = append(l, bytes.Repeat([]byte{bit}, n)...)
		}
		if text(t, l) != s {
			t.Fatalf("Runs(%s): together %v", s, l)
		}
	}
	for s := range texts(12) {
		look(s)
	}
	for _, s := range longTexts() {
		look(s)
	}
}

// calls are all that take a row and answer one.
func calls() map[string]func([]byte) []byte {
	return map[string]func([]byte) []byte{
		"Stuff":   bits.Stuff,
		"Unstuff": func(b []byte) []byte { l, _ := bits.Unstuff(b); return l },
		"Turn":    func(b []byte) []byte { return bits.Turn(b) },
		"Turn 0":  func(b []byte) []byte { return bits.Turn(b, 0, 3) },
		"Of":      func(b []byte) []byte { return bits.Of(5, len(b)) },
		"Parse":   func(b []byte) []byte { l, _ := bits.Parse(bits.Text(b)); return l },
		"Num":     func(b []byte) []byte { n, _ := bits.Num(b); return bits.Of(n, len(b)) },
		"Runs": func(b []byte) []byte {
			var l []byte
			for bit, n := range bits.Runs(b) {
				l = append(l, bit, byte(n))
			}
			return l
		},
	}
}

// P3: what is handed in stays as it is, and the spare room behind it, too.
func TestHandedInStays(t *testing.T) {
	for name, call := range calls() {
		for _, s := range []string{"", "1", "11111", "0000010", "111110000011", "1111111", "10100111000"} {
			room := append(noisy(s), bytes.Repeat([]byte{0xc7}, 64)...)
			before := slices.Clone(room)
			call(room[:len(s)])
			if !bytes.Equal(room, before) {
				t.Fatalf("%s of %s: %v behind it, %v ahead", name, s, room, before)
			}
		}
	}
}

// P3, P6: what is answered is new memory, and the same each time.
func TestAnswersAreNew(t *testing.T) {
	for name, call := range calls() {
		for _, s := range []string{"1", "1010", "0000010", "111110000011"} {
			b := row(s)
			one := call(b)
			want := slices.Clone(one)
			two := call(b)
			for i := range two[:cap(two)] {
				two[:cap(two)][i] = 0x55
			}
			if !bytes.Equal(one, want) || !bytes.Equal(b, row(s)) {
				t.Fatalf("%s of %s: an answer lies in another one, or in what was handed in", name, s)
			}
			if three := call(b); !bytes.Equal(three, want) {
				t.Fatalf("%s of %s: %v, then %v", name, s, want, three)
			}
			for i := range b {
				b[i] ^= 1
			}
			if !bytes.Equal(one, want) {
				t.Fatalf("%s of %s: the answer changes with what was handed in", name, s)
			}
		}
	}
}
