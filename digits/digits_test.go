package digits_test

import (
	"math"
	"math/big"
	"math/rand"
	"slices"
	"strings"
	"testing"

	"steelyard/api"
	"steelyard/digits"
	"steelyard/mul"
	"steelyard/nat"
)

const (
	full = math.MaxUint32
	// mark fills memory that a call has to leave as it is.
	mark = 0xdeadbeef
	// most is how long a text may be, and how far powers of ten go.
	most = 2000
)

// edges tells the limbs at which digits and carries turn.
func edges() []uint32 {
	return []uint32{0, 1, 9, 10, 999999999, 1000000000, 1 << 31, full}
}

// numbers tells all lists of at most so many limbs that are made of edges, those with limbs of 0 at the end included.
func numbers(limbs int) []api.Nat {
	all := []api.Nat{nil, {}}
	last := []api.Nat{{}}
	for range limbs {
		var longer []api.Nat
		for _, a := range last {
			for _, limb := range edges() {
				longer = append(longer, append(slices.Clone(a), limb))
			}
		}
		all = append(all, longer...)
		last = longer
	}
	return all
}

// long tells a number of n limbs that are all v.
func long(n int, v uint32) api.Nat {
	return slices.Repeat(api.Nat{v}, n)
}

// random tells a number of n limbs, about half of them edges.
func random(r *rand.Rand, n int) api.Nat {
	out := make(api.Nat, n)
	for i := range out {
		out[i] = r.Uint32()
		if r.Intn(2) == 0 {
			out[i] = edges()[r.Intn(len(edges()))]
		}
	}
	return out
}

func toBig(a api.Nat) *big.Int {
	out := new(big.Int)
	for _, limb := range slices.Backward(a) {
		out.Lsh(out, 32)
		out.Or(out, big.NewInt(int64(limb)))
	}
	return out
}

func fromBig(v *big.Int) api.Nat {
	var out api.Nat
	mask := big.NewInt(full)
	for rest := new(big.Int).Set(v); rest.Sign() > 0; rest.Rsh(rest, 32) {
		out = append(out, uint32(new(big.Int).And(rest, mask).Uint64()))
	}
	return out
}

// check holds a's text against the library's, and asks whether it is read as a again.
func check(t *testing.T, a api.Nat) {
	t.Helper()
	text := digits.Text(a)
	if want := toBig(a).String(); text != want {
		t.Errorf("Text(%v) = %q, want %q", a, text, want)
	}
	back, ok := digits.Parse(text)
	if len(text) > most {
		wantNone(t, text)
	} else if !ok || !slices.Equal(back, nat.Trim(a)) {
		t.Errorf("Parse(%q) = %v, %v, want %v", text, back, ok, a)
	}
}

// wantNumber holds what Parse answers of digits against the library's answer.
func wantNumber(t *testing.T, s string) {
	t.Helper()
	v, _ := new(big.Int).SetString(s, 10)
	if a, ok := digits.Parse(s); !ok || !slices.Equal(a, fromBig(v)) {
		t.Errorf("Parse(%q) = %v, %v, want %v", s, a, ok, fromBig(v))
	}
}

func wantNone(t *testing.T, s string) {
	t.Helper()
	if a, ok := digits.Parse(s); ok || len(a) != 0 {
		t.Errorf("Parse(%.60q), of %d bytes, = %v, %v, want nothing", s, len(s), a, ok)
	}
}

// ten tells 1 and so many noughts.
func ten(n int) string {
	return "1" + strings.Repeat("0", n)
}

func TestText(t *testing.T) {
	for _, c := range []struct {
		a    api.Nat
		want string
	}{
		{nil, "0"},
		{api.Nat{}, "0"},
		{api.Nat{0}, "0"},
		{api.Nat{0, 0, 0}, "0"},
		{long(5000, 0), "0"},
		{api.Nat{1}, "1"},
		{api.Nat{9}, "9"},
		{api.Nat{10}, "10"},
		{api.Nat{10, 0, 0}, "10"},
		{api.Nat{999999999}, "999999999"},
		{api.Nat{1000000000}, "1000000000"},
		{api.Nat{1000000001}, "1000000001"},
		{api.Nat{4000000000}, "4000000000"},
		{api.Nat{full}, "4294967295"},
		{api.Nat{0, 1}, "4294967296"},
		{api.Nat{1, 1, 0}, "4294967297"},
		{api.Nat{full, full}, "18446744073709551615"},
		{api.Nat{0, 0, 1}, "18446744073709551616"},
	} {
		if got := digits.Text(c.a); got != c.want {
			t.Errorf("Text(%v) = %q, want %q", c.a, got, c.want)
		}
	}
}

func TestParse(t *testing.T) {
	for _, c := range []struct {
		s    string
		want api.Nat
	}{
		{"0", nil},
		{"00", nil},
		{"000000000", nil},
		{"0000000000", nil},
		{"7", api.Nat{7}},
		{"007", api.Nat{7}},
		{"000000007", api.Nat{7}},
		{"0000000007", api.Nat{7}},
		{"010", api.Nat{10}},
		{"999999999", api.Nat{999999999}},
		{"1000000000", api.Nat{1000000000}},
		{"4294967295", api.Nat{full}},
		{"4294967296", api.Nat{0, 1}},
		{"04294967297", api.Nat{1, 1}},
		{"18446744073709551615", api.Nat{full, full}},
		{"18446744073709551616", api.Nat{0, 0, 1}},
	} {
		if got, ok := digits.Parse(c.s); !ok || !slices.Equal(got, c.want) {
			t.Errorf("Parse(%q) = %v, %v, want %v", c.s, got, ok, c.want)
		}
	}
}

func TestFewLimbs(t *testing.T) {
	for v := range uint64(3000) {
		check(t, nat.Of(v))
	}
	for _, a := range numbers(4) {
		check(t, a)
	}
}

// All numbers beside each power of ten, those that a limb holds and those far above.
func TestAboutPowersOfTen(t *testing.T) {
	one := nat.Of(1)
	for n := range 700 {
		power, _ := new(big.Int).SetString(ten(n), 10)
		a := fromBig(power)
		below, _ := nat.Sub(a, one)
		for _, b := range []api.Nat{below, a, nat.Add(a, one)} {
			check(t, b)
			check(t, append(b, 0, 0))
		}
	}
}

func TestEdgesOfLimbs(t *testing.T) {
	one := nat.Of(1)
	for n := 1; n <= 5*api.MaxLimbs; n++ {
		check(t, long(n, full))
		check(t, append(long(n, 0), 1))
		check(t, nat.Add(append(long(n, 0), 1), one))
		check(t, append(long(n, full), 0))
	}
}

// Noughts in the midst of a number, wherever they begin and end.
func TestNoughtsInside(t *testing.T) {
	for before := 1; before <= 20; before++ {
		for between := range 30 {
			for behind := range 20 {
				s := strings.Repeat("9", before) + strings.Repeat("0", between) + strings.Repeat("8", behind)
				wantNumber(t, s)
				if a, _ := digits.Parse(s); digits.Text(a) != s {
					t.Errorf("Text(%v) = %q, want %q", a, digits.Text(a), s)
				}
			}
		}
	}
}

func TestManyLimbs(t *testing.T) {
	for _, n := range []int{api.MaxLimbs - 1, api.MaxLimbs, api.MaxLimbs + 1, 207, 208, 209, 4 * api.MaxLimbs, 4*api.MaxLimbs + 1, 3001} {
		for _, v := range edges() {
			check(t, long(n, v))
			check(t, append(long(n-1, 0), v))
			check(t, append(long(n-1, full), v, 0))
		}
	}
}

func TestRandomNumbers(t *testing.T) {
	r := rand.New(rand.NewSource(14))
	for range 4000 {
		check(t, random(r, r.Intn(12)))
	}
	for range 200 {
		check(t, random(r, r.Intn(400)))
	}
}

func TestRandomTexts(t *testing.T) {
	r := rand.New(rand.NewSource(15))
	for range 3000 {
		text := make([]byte, 1+r.Intn(60))
		for i := range text {
			text[i] = "0000123456789999"[r.Intn(16)]
		}
		wantNumber(t, string(text))
	}
}

// As many digits as may be, and one more, whatever they are.
func TestLongTexts(t *testing.T) {
	for n := 1; n <= most; n++ {
		wantNumber(t, strings.Repeat("9", n))
	}
	for _, n := range []int{most - 1, most, most + 1, most + 8, most + 9, 3 * most, 1 << 20} {
		for _, s := range []string{
			strings.Repeat("0", n),
			strings.Repeat("1", n),
			strings.Repeat("9", n),
			strings.Repeat("0", n-1) + "5",
			strings.Repeat("0", n-11) + "12345678901",
			ten(n - 1),
		} {
			if n > most {
				wantNone(t, s)
			} else {
				wantNumber(t, s)
			}
		}
	}
}

func TestParseOfTextIsTheNumberUpToItsMost(t *testing.T) {
	power, _ := new(big.Int).SetString(ten(most), 10)
	above := fromBig(power)
	greatest, _ := nat.Sub(above, nat.Of(1))
	if back, ok := digits.Parse(digits.Text(greatest)); !ok || !slices.Equal(back, greatest) {
		t.Errorf("the greatest number of %d digits is read as %v, %v", most, back, ok)
	}
	wantNone(t, digits.Text(above))
	check(t, append(greatest, 0))
	check(t, append(above, 0))
}

func TestParseOfWhatHasNoDigits(t *testing.T) {
	for _, s := range []string{"", " ", "-", "+", "a", "x", ".", "/", ":", "_", "\x00", "\x80", "\xff", "٣", "３", "½"} {
		wantNone(t, s)
	}
}

func TestParseOfOtherNumbers(t *testing.T) {
	for _, s := range []string{"-0", "-1", "+1", "1-", " 1", "1 ", "1\n", "\t1", "1.0", ".5", "5.", "1e5", "1E5", "0x10", "0b1", "0o7", "1_000", "1,000", "_1", "1_", "ff", "1\x00", "1٣", "inf", "NaN"} {
		wantNone(t, s)
	}
}

// others tells bytes that are no digits: those beside the digits, those of other ways to write numbers, and those above all ASCII.
func others() string {
	return "/:+- _.,eExXaAfF\x00\t\n\x7f\x80\xb2\xff"
}

// One byte that is no digit is found wherever it stands, at the least and at the most digits.
func TestParseOfOneOtherByte(t *testing.T) {
	for _, n := range []int{1, 8, 9, 10, 18, 19, 40} {
		for at := range n {
			for c := range 256 {
				text := []byte(strings.Repeat("3", n))
				text[at] = byte(c)
				if c >= '0' && c <= '9' {
					wantNumber(t, string(text))
				} else {
					wantNone(t, string(text))
				}
			}
		}
	}
	for at := range most {
		text := []byte(strings.Repeat("0", most))
		text[at] = others()[at%len(others())]
		wantNone(t, string(text))
	}
	for _, c := range []byte(others()) {
		for _, at := range []int{0, 8, 9, 998, 1997, 1998, 1999} {
			text := []byte(strings.Repeat("7", most))
			text[at] = c
			wantNone(t, string(text))
		}
	}
}

func TestParseOfVeryLongTexts(t *testing.T) {
	for _, s := range []string{"0", "1", "-", "\xff", " 1", "9_"} {
		wantNone(t, strings.Repeat(s, 1<<24))
	}
}

func TestTen(t *testing.T) {
	for _, c := range []struct {
		n    int
		want api.Nat
	}{
		{0, api.Nat{1}},
		{1, api.Nat{10}},
		{8, api.Nat{100000000}},
		{9, api.Nat{1000000000}},
		{10, api.Nat{1410065408, 2}},
		{18, api.Nat{2808348672, 232830643}},
	} {
		if got, ok := digits.Ten(c.n); !ok || !slices.Equal(got, c.want) {
			t.Errorf("Ten(%d) = %v, %v, want %v", c.n, got, ok, c.want)
		}
	}
}

func TestAllTens(t *testing.T) {
	want := nat.Of(1)
	for n := range most + 1 {
		got, ok := digits.Ten(n)
		if !ok || !slices.Equal(got, want) || digits.Text(got) != ten(n) {
			t.Errorf("Ten(%d) = %v, %v, want %v", n, got, ok, want)
		}
		if back, ok := digits.Parse(ten(n)); ok != (n < most) || ok && !slices.Equal(back, want) {
			t.Errorf("Parse of 1 and %d noughts = %v, %v", n, back, ok)
		}
		want = mul.Small(want, 10)
	}
}

func TestTenBelowAndBeyond(t *testing.T) {
	for _, n := range []int{math.MinInt, math.MinInt + 1, math.MinInt32, -2001, -2000, -10, -9, -1, 2001, 2002, 2009, 1 << 20, math.MaxInt32, math.MaxInt - 1, math.MaxInt} {
		if got, ok := digits.Ten(n); ok || len(got) != 0 {
			t.Errorf("Ten(%d) = %v, %v, want nothing", n, got, ok)
		}
	}
}

// roomy tells a with spare room, and all its memory.
func roomy(a api.Nat) (list, memory api.Nat) {
	memory = append(slices.Clone(a), mark, mark, mark)
	return memory[:len(a):len(memory)], memory
}

// scribble changes all memory of a list, its spare room too.
func scribble(a api.Nat) {
	a = a[:cap(a)]
	for i := range a {
		a[i] = ^a[i]
	}
}

func TestTextLeavesItsArgument(t *testing.T) {
	for _, list := range append(numbers(3), long(70, full), append(long(300, 0), 1, 0, 0)) {
		a, whole := roomy(list)
		text := digits.Text(a)
		if !slices.Equal(whole, append(slices.Clone(list), mark, mark, mark)) {
			t.Errorf("Text(%v) changed its argument", list)
		}
		before := strings.Clone(text)
		scribble(a)
		if text != before {
			t.Errorf("Text(%v) keeps its argument's memory", list)
		}
	}
}

// checkOwn asks whether a call's answers are memory of their own: nothing that is done to one is seen in another, nor in a later one.
func checkOwn(t *testing.T, what string, call func() (api.Nat, bool)) {
	t.Helper()
	first, ok := call()
	if !ok {
		t.Errorf("%s: nothing", what)
	}
	want := slices.Clone(first)
	second, _ := call()
	scribble(second)
	if !slices.Equal(first, want) {
		t.Errorf("%s: two answers share memory", what)
	}
	scribble(first)
	if third, _ := call(); !slices.Equal(third, want) {
		t.Errorf("%s: %v, after an answer was changed, want %v", what, third, want)
	}
}

func TestAnswersShareNothing(t *testing.T) {
	for n := range 40 {
		checkOwn(t, "Ten", func() (api.Nat, bool) { return digits.Ten(n) })
		checkOwn(t, "Parse", func() (api.Nat, bool) { return digits.Parse(ten(n)) })
		checkOwn(t, "Parse", func() (api.Nat, bool) { return digits.Parse(strings.Repeat("0", n+1)) })
	}
	checkOwn(t, "Ten", func() (api.Nat, bool) { return digits.Ten(most) })
	checkOwn(t, "Parse", func() (api.Nat, bool) { return digits.Parse(strings.Repeat("9", most)) })
}

// What is done to the answers of one function is not seen in those of another, so no table is handed out.
func TestAnswersShareNoTable(t *testing.T) {
	for n := range most + 1 {
		a, _ := digits.Ten(n)
		scribble(a)
		b, _ := digits.Parse(strings.Repeat("9", n))
		scribble(b)
	}
	for n := range most {
		a, ok := digits.Ten(n)
		b, read := digits.Parse(ten(n))
		if !ok || !read || !slices.Equal(a, b) || digits.Text(a) != ten(n) {
			t.Errorf("10 to the %d: Ten %v, %v, Parse %v, %v, Text %q", n, a, ok, b, read, digits.Text(a))
		}
	}
}
