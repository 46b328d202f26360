package whole_test

import (
	"math"
	"math/big"
	"math/rand"
	"slices"
	"strings"
	"testing"

	"steelyard/api"
	"steelyard/nat"
	"steelyard/whole"
)

const (
	full = math.MaxUint32
	// mark fills memory that a call has to leave as it is.
	mark = 0xdeadbeef
	// most is how many digits a text may have, the "-" not among them.
	most = 2000
)

// zeros tells 0 in all forms in which it may be handed in.
func zeros() []api.Int {
	var all []api.Int
	for _, mag := range []api.Nat{nil, {}, {0}, {0, 0, 0}, long(5*api.MaxLimbs, 0)} {
		all = append(all, api.Int{Mag: mag}, api.Int{Neg: true, Mag: mag})
	}
	return all
}

// numbers tells all numbers of at most so many limbs that are made of those at which carries and borrows turn, of both signs, those with limbs of 0 at the end and those that are 0 and say that they are below it included.
func numbers(limbs int) []api.Int {
	sizes := []api.Nat{nil, {}}
	last := []api.Nat{{}}
	for range limbs {
		var longer []api.Nat
		for _, a := range last {
			for _, limb := range []uint32{0, 1, 2, 1 << 31, full} {
				longer = append(longer, append(slices.Clone(a), limb))
			}
		}
		sizes = append(sizes, longer...)
		last = longer
	}
	return bothSigns(sizes)
}

func bothSigns(sizes []api.Nat) []api.Int {
	var all []api.Int
	for _, mag := range sizes {
		all = append(all, api.Int{Mag: mag}, api.Int{Neg: true, Mag: mag})
	}
	return all
}

// long tells a size of n limbs that are all v.
func long(n int, v uint32) api.Nat {
	return slices.Repeat(api.Nat{v}, n)
}

// parting tells sizes of n limbs that part from the first in one limb: the lowest, the midmost or the highest.
func parting(n int) []api.Nat {
	base := long(n, 7)
	all := []api.Nat{base, append(slices.Clone(base), 0, 0)}
	for _, at := range []int{0, n / 2, n - 1} {
		for _, limb := range []uint32{6, 8, full} {
			a := slices.Clone(base)
			a[at] = limb
			all = append(all, a)
		}
	}
	return all
}

// random tells a number of at most n limbs, about half of them edges.
func random(r *rand.Rand, n int) api.Int {
	mag := make(api.Nat, r.Intn(n+1))
	for i := range mag {
		mag[i] = r.Uint32()
		if r.Intn(2) == 0 {
			mag[i] = []uint32{0, 1, full}[r.Intn(3)]
		}
	}
	return api.Int{Neg: r.Intn(2) == 0, Mag: mag}
}

// limits tells the int64s at which sizes and signs turn.
func limits() []int64 {
	return []int64{
		math.MinInt64, math.MinInt64 + 1, math.MinInt64 + 2,
		-1<<62 - 1, -1 << 62, -1<<33 - 1, -1 << 33, -1<<32 - 1, -1 << 32, -1<<32 + 1, -1 << 31, -1<<31 + 1,
		-10, -3, -2, -1, 0, 1, 2, 3, 10,
		1<<31 - 1, 1 << 31, 1<<32 - 1, 1 << 32, 1<<32 + 1, 1<<33 - 1, 1 << 33, 1<<62 - 1, 1 << 62,
		math.MaxInt64 - 2, math.MaxInt64 - 1, math.MaxInt64,
	}
}

func toBig(a api.Int) *big.Int {
	out := new(big.Int)
	for _, limb := range slices.Backward(a.Mag) {
		out.Lsh(out, 32)
		out.Or(out, big.NewInt(int64(limb)))
	}
	if a.Neg {
		out.Neg(out)
	}
	return out
}

// fromBig tells v as the document wants it told: no limbs of 0 at the end, and 0 not below 0.
func fromBig(v *big.Int) api.Int {
	var mag api.Nat
	mask := big.NewInt(full)
	for rest := new(big.Int).Abs(v); rest.Sign() > 0; rest.Rsh(rest, 32) {
		mag = append(mag, uint32(new(big.Int).And(rest, mask).Uint64()))
	}
	return api.Int{Neg: v.Sign() < 0, Mag: mag}
}

// same asks whether two answers are one, limbs of 0 at the end and the sign of a 0 too.
func same(a, b api.Int) bool {
	return a.Neg == b.Neg && slices.Equal(a.Mag, b.Mag)
}

// want holds an answer against the library's.
func want(t *testing.T, got api.Int, v *big.Int, what string, of ...api.Int) {
	t.Helper()
	if !same(got, fromBig(v)) {
		t.Errorf("%s of %v = %v, want %v", what, of, got, fromBig(v))
	}
}

func checkOne(t *testing.T, a api.Int) {
	t.Helper()
	x := toBig(a)
	want(t, whole.Trim(a), x, "Trim", a)
	want(t, whole.Neg(a), new(big.Int).Neg(x), "Neg", a)
	checkText(t, a)
}

// checkText holds a's text against the library's, and asks whether it is read as a again.
func checkText(t *testing.T, a api.Int) {
	t.Helper()
	x := toBig(a)
	text := whole.Text(a)
	if text != x.String() {
		t.Errorf("Text(%v) = %q, want %q", a, text, x.String())
	}
	if len(strings.TrimPrefix(text, "-")) > most {
		wantNone(t, text)
	} else if back, ok := whole.Parse(text); !ok || !same(back, fromBig(x)) {
		t.Errorf("Parse(%q) = %v, %v, want %v", text, back, ok, fromBig(x))
	}
}

func checkPair(t *testing.T, a, b api.Int) {
	t.Helper()
	x, y := toBig(a), toBig(b)
	if got := whole.Cmp(a, b); got != x.Cmp(y) {
		t.Errorf("Cmp(%v, %v) = %d, want %d", a, b, got, x.Cmp(y))
	}
	want(t, whole.Add(a, b), new(big.Int).Add(x, y), "Add", a, b)
	want(t, whole.Mul(a, b), new(big.Int).Mul(x, y), "Mul", a, b)
}

// wantNumber holds what Parse answers of a number against the library's answer.
func wantNumber(t *testing.T, s string) {
	t.Helper()
	v, _ := new(big.Int).SetString(s, 10)
	if a, ok := whole.Parse(s); !ok || !same(a, fromBig(v)) {
		t.Errorf("Parse(%q) = %v, %v, want %v", s, a, ok, fromBig(v))
	}
}

func wantNone(t *testing.T, s string) {
	t.Helper()
	if a, ok := whole.Parse(s); ok || a.Neg || len(a.Mag) != 0 {
		t.Errorf("Parse(%.60q), of %d bytes, = %v, %v, want nothing", s, len(s), a, ok)
	}
}

func TestOf(t *testing.T) {
	for _, c := range []struct {
		v    int64
		want api.Int
	}{
		{0, api.Int{}},
		{1, api.Int{Mag: api.Nat{1}}},
		{-1, api.Int{Neg: true, Mag: api.Nat{1}}},
		{full, api.Int{Mag: api.Nat{full}}},
		{-full, api.Int{Neg: true, Mag: api.Nat{full}}},
		{1 << 32, api.Int{Mag: api.Nat{0, 1}}},
		{-1 << 32, api.Int{Neg: true, Mag: api.Nat{0, 1}}},
		{math.MaxInt64, api.Int{Mag: api.Nat{full, full >> 1}}},
		{math.MaxInt64 - 1, api.Int{Mag: api.Nat{full - 1, full >> 1}}},
		{math.MinInt64, api.Int{Neg: true, Mag: api.Nat{0, 1 << 31}}},
		{math.MinInt64 + 1, api.Int{Neg: true, Mag: api.Nat{full, full >> 1}}},
	} {
		if got := whole.Of(c.v); !same(got, c.want) {
			t.Errorf("Of(%d) = %v, want %v", c.v, got, c.want)
		}
	}
	for _, v := range limits() {
		want(t, whole.Of(v), big.NewInt(v), "Of")
	}
}

func TestTrim(t *testing.T) {
	for _, c := range []struct{ a, want api.Int }{
		{api.Int{Mag: api.Nat{5}}, api.Int{Mag: api.Nat{5}}},
		{api.Int{Neg: true, Mag: api.Nat{5}}, api.Int{Neg: true, Mag: api.Nat{5}}},
		{api.Int{Neg: true, Mag: api.Nat{5, 0}}, api.Int{Neg: true, Mag: api.Nat{5}}},
		{api.Int{Mag: api.Nat{0, 5, 0, 0}}, api.Int{Mag: api.Nat{0, 5}}},
		{api.Int{Neg: true, Mag: api.Nat{0, 0, 1}}, api.Int{Neg: true, Mag: api.Nat{0, 0, 1}}},
	} {
		if got := whole.Trim(c.a); !same(got, c.want) {
			t.Errorf("Trim(%v) = %v, want %v", c.a, got, c.want)
		}
	}
}

// A 0 is one number, whatever its limbs and its sign are, and no answer says that it is below itself.
func TestZeros(t *testing.T) {
	others := append(zeros(), whole.Of(3), whole.Of(-3), api.Int{Neg: true, Mag: append(long(200, full), 0)})
	for _, a := range zeros() {
		checkOne(t, a)
		if got := whole.Text(a); got != "0" {
			t.Errorf("Text(%v) = %q", a, got)
		}
		for _, b := range others {
			checkPair(t, a, b)
			checkPair(t, b, a)
		}
	}
}

func TestFewLimbs(t *testing.T) {
	all := numbers(2)
	for _, a := range all {
		checkOne(t, a)
		for _, b := range all {
			checkPair(t, a, b)
		}
	}
	for _, a := range numbers(4) {
		checkOne(t, a)
	}
}

func TestInt64s(t *testing.T) {
	for _, v := range limits() {
		a := whole.Of(v)
		checkOne(t, a)
		for _, w := range limits() {
			checkPair(t, a, whole.Of(w))
		}
	}
}

func TestManyLimbs(t *testing.T) {
	var all []api.Int
	for _, n := range []int{1, 2, 3, api.MaxLimbs - 1, api.MaxLimbs, api.MaxLimbs + 1, 4 * api.MaxLimbs, 4*api.MaxLimbs + 1} {
		all = append(all, bothSigns([]api.Nat{long(n, full), append(long(n, 0), 1), append(long(n, full), 0, 0)})...)
	}
	for _, a := range all {
		checkOne(t, a)
		for _, b := range all {
			checkPair(t, a, b)
		}
	}
}

func TestSizesThatPartInOneLimb(t *testing.T) {
	for _, n := range []int{1, 2, 3, api.MaxLimbs, 3*api.MaxLimbs + 1} {
		all := bothSigns(parting(n))
		for _, a := range all {
			for _, b := range all {
				checkPair(t, a, b)
			}
		}
	}
}

func TestVeryLongNumbers(t *testing.T) {
	a := api.Int{Neg: true, Mag: append(long(1<<20, full), 0)}
	b := api.Int{Mag: append(long(1<<20, 0), 1)}
	one := whole.Of(1)
	if got := whole.Add(a, b); !same(got, one) {
		t.Errorf("Add has %d limbs, Neg %v", len(got.Mag), got.Neg)
	}
	if got := whole.Add(whole.Neg(a), one); !same(got, b) {
		t.Errorf("Add has %d limbs, Neg %v", len(got.Mag), got.Neg)
	}
	if whole.Cmp(a, b) != -1 || whole.Cmp(b, a) != 1 || whole.Cmp(whole.Neg(a), b) != -1 || whole.Cmp(a, whole.Neg(b)) != 1 {
		t.Error("Cmp")
	}
	if got := whole.Mul(a, whole.Of(-1)); !same(got, whole.Neg(a)) || got.Neg || len(got.Mag) != 1<<20 {
		t.Errorf("Mul has %d limbs, Neg %v", len(got.Mag), got.Neg)
	}
	checkText(t, api.Int{Neg: true, Mag: append(long(3000, full), 0)})
}

func TestRandomNumbers(t *testing.T) {
	r := rand.New(rand.NewSource(17))
	for range 4000 {
		a, b := random(r, 6), random(r, 6)
		checkOne(t, a)
		checkPair(t, a, b)
	}
	for range 200 {
		a, b := random(r, 300), random(r, 300)
		checkOne(t, a)
		checkPair(t, a, b)
	}
}

func lawNumbers() []api.Int {
	r := rand.New(rand.NewSource(18))
	all := append(numbers(1), zeros()[6:]...)
	for range 6 {
		all = append(all, random(r, 5), random(r, 90))
	}
	return append(all, whole.Of(math.MinInt64), whole.Of(math.MaxInt64))
}

func TestLawsOfOne(t *testing.T) {
	zero, one := whole.Of(0), whole.Of(1)
	for _, a := range append(lawNumbers(), numbers(3)...) {
		itself := whole.Trim(a)
		for name, pair := range map[string][2]api.Int{
			"Add of Neg":         {whole.Add(a, whole.Neg(a)), zero},
			"Add of Neg ahead":   {whole.Add(whole.Neg(a), a), zero},
			"Neg of Neg":         {whole.Neg(whole.Neg(a)), itself},
			"Trim of Trim":       {whole.Trim(itself), itself},
			"Add of 0":           {whole.Add(a, zero), itself},
			"Add to 0":           {whole.Add(zero, a), itself},
			"Mul by 1":           {whole.Mul(a, one), itself},
			"Mul of 1":           {whole.Mul(one, a), itself},
			"Mul by 0":           {whole.Mul(a, zero), zero},
			"Mul of 0":           {whole.Mul(zero, a), zero},
			"Mul by -1":          {whole.Mul(a, whole.Of(-1)), whole.Neg(a)},
			"Add of itself":      {whole.Add(a, a), whole.Mul(a, whole.Of(2))},
			"Mul of both as Neg": {whole.Mul(whole.Neg(a), whole.Neg(a)), whole.Mul(a, a)},
		} {
			if !same(pair[0], pair[1]) {
				t.Errorf("%s: %v: %v, want %v", name, a, pair[0], pair[1])
			}
		}
		if whole.Cmp(a, a) != 0 || whole.Cmp(a, itself) != 0 || whole.Cmp(itself, a) != 0 {
			t.Errorf("%v is not as itself", a)
		}
		if whole.Cmp(a, whole.Neg(a)) != whole.Cmp(a, zero) || whole.Cmp(whole.Neg(a), a) != whole.Cmp(zero, a) {
			t.Errorf("%v stands wrong against its negative", a)
		}
	}
}

func TestLawsOfTwoAndThree(t *testing.T) {
	all := lawNumbers()
	for _, a := range all {
		for _, b := range all {
			sum, product := whole.Add(a, b), whole.Mul(a, b)
			if !same(sum, whole.Add(b, a)) || !same(product, whole.Mul(b, a)) {
				t.Errorf("%v, %v: not the same both ways", a, b)
			}
			if !same(whole.Add(sum, whole.Neg(b)), whole.Trim(a)) {
				t.Errorf("%v, %v: the sum less one is not the other", a, b)
			}
			if !same(whole.Mul(whole.Neg(a), b), whole.Neg(product)) || !same(whole.Mul(a, whole.Neg(b)), whole.Neg(product)) {
				t.Errorf("%v, %v: a negative's product is not the product's negative", a, b)
			}
			if c := whole.Cmp(a, b); c != -whole.Cmp(b, a) || c != whole.Cmp(whole.Add(a, whole.Neg(b)), whole.Of(0)) {
				t.Errorf("Cmp(%v, %v) = %d", a, b, c)
			}
			for _, c := range all {
				checkThree(t, a, b, c, sum, product)
			}
		}
	}
}

func checkThree(t *testing.T, a, b, c, sum, product api.Int) {
	t.Helper()
	if !same(whole.Add(sum, c), whole.Add(a, whole.Add(b, c))) {
		t.Errorf("%v, %v, %v: sums", a, b, c)
	}
	if !same(whole.Mul(product, c), whole.Mul(a, whole.Mul(b, c))) {
		t.Errorf("%v, %v, %v: products", a, b, c)
	}
	if !same(whole.Mul(sum, c), whole.Add(whole.Mul(a, c), whole.Mul(b, c))) {
		t.Errorf("%v, %v, %v: products of sums", a, b, c)
	}
}

func TestText(t *testing.T) {
	for v, want := range map[int64]string{
		0: "0", 1: "1", -1: "-1", 10: "10", -10: "-10",
		999999999: "999999999", -1000000000: "-1000000000",
		1 << 32: "4294967296", -1 << 32: "-4294967296",
		math.MaxInt64:     "9223372036854775807",
		math.MinInt64 + 1: "-9223372036854775807",
		math.MinInt64:     "-9223372036854775808",
	} {
		if got := whole.Text(whole.Of(v)); got != want {
			t.Errorf("Text of %d = %q", v, got)
		}
	}
	if got := whole.Text(api.Int{Neg: true, Mag: api.Nat{7, 0, 0}}); got != "-7" {
		t.Errorf("limbs of 0: %q", got)
	}
}

func TestParse(t *testing.T) {
	for s, want := range map[string]api.Int{
		"0": {}, "00": {}, "000000000000": {},
		"1": whole.Of(1), "-1": whole.Of(-1), "01": whole.Of(1), "-01": whole.Of(-1), "-007": whole.Of(-7), "-10": whole.Of(-10),
		"-0000000000001":         whole.Of(-1),
		"4294967295":             whole.Of(full),
		"-4294967295":            whole.Of(-full),
		"-4294967296":            whole.Of(-1 << 32),
		"9223372036854775807":    whole.Of(math.MaxInt64),
		"9223372036854775808":    {Mag: api.Nat{0, 1 << 31}},
		"-9223372036854775808":   whole.Of(math.MinInt64),
		"-9223372036854775809":   {Neg: true, Mag: api.Nat{1, 1 << 31}},
		"-18446744073709551616":  {Neg: true, Mag: api.Nat{0, 0, 1}},
		"-018446744073709551615": {Neg: true, Mag: api.Nat{full, full}},
	} {
		if got, ok := whole.Parse(s); !ok || !same(got, want) {
			t.Errorf("Parse(%q) = %v, %v, want %v", s, got, ok, want)
		}
	}
}

func TestParseOfNoNumber(t *testing.T) {
	for _, s := range []string{
		"", "-", "--", "-0", "-00", "-000000000000", "--1", "---1", "--0", "+", "+1", "-+1", "+-1", "+0",
		"1-", "-1-", "1-1", "0-1", "-1-1", "0-", " ", " 1", " -1", "- 1", "-1 ", "1 ", "-1\n", "\t-1",
		"1.0", "-1.0", "-.5", "-5.", "-1e5", "-0x10", "-1_000", "-_1", "a", "-a", "-ff",
		"\x80", "\xff", "-\x80", "-\xff", "1\x80", "-1\xff", "\x001", "-1\x00", "−1", "–1", "\u20111", "-٣", "-１", "½", "-inf", "NaN",
	} {
		wantNone(t, s)
	}
}

// One byte that is no digit is found wherever it stands; a "-" is right ahead alone.
func TestParseOfOneOtherByte(t *testing.T) {
	for _, s := range []string{"3", "-3", "33", "-33", "33333333333", "-33333333333", "0", "-0"} {
		for at := range len(s) {
			for c := range 256 {
				text := []byte(s)
				text[at] = byte(c)
				checkAnyText(t, string(text))
			}
		}
	}
}

// checkAnyText holds Parse against the document's words, read byte by byte.
func checkAnyText(t *testing.T, s string) {
	t.Helper()
	rest := strings.TrimPrefix(s, "-")
	digitsAlone := rest != "" && strings.Trim(rest, "0123456789") == ""
	noughts := strings.Trim(rest, "0") == ""
	if !digitsAlone || len(rest) > most || noughts && rest != s {
		wantNone(t, s)
	} else {
		wantNumber(t, s)
	}
}

func TestParseOfShortTexts(t *testing.T) {
	const signs = "-+0129 \x80"
	last := []string{""}
	for range 5 {
		var longer []string
		for _, s := range last {
			checkAnyText(t, s)
			for i := range len(signs) {
				longer = append(longer, s+signs[i:i+1])
			}
		}
		last = longer
	}
}

// As many digits as may be, and one more, with a "-" ahead and without.
func TestLongTexts(t *testing.T) {
	for _, n := range []int{most - 2, most - 1, most, most + 1, most + 2, 3 * most, 1 << 20} {
		for _, digits := range []string{
			strings.Repeat("0", n),
			strings.Repeat("9", n),
			"1" + strings.Repeat("0", n-1),
			strings.Repeat("0", n-1) + "5",
			strings.Repeat("7", n-1) + "-",
			strings.Repeat("7", n-1) + "\xff",
		} {
			checkAnyText(t, digits)
			checkAnyText(t, "-"+digits)
			checkAnyText(t, "--"+digits)
		}
	}
	wantNone(t, strings.Repeat("-", 1<<24))
}

func TestParseOfTextIsTheNumberUpToItsMost(t *testing.T) {
	for _, sign := range []string{"", "-"} {
		greatest := sign + strings.Repeat("9", most)
		a, ok := whole.Parse(greatest)
		if !ok || whole.Text(a) != greatest {
			t.Errorf("%.5q.. is read as %v, %v", greatest, a, ok)
		}
		beyond := whole.Add(a, whole.Of(1))
		if sign == "-" {
			beyond = whole.Add(a, whole.Of(-1))
		}
		if got := whole.Text(beyond); got != sign+"1"+strings.Repeat("0", most) {
			t.Errorf("beyond %.5q..: %.5q.., of %d bytes", greatest, got, len(got))
		}
		wantNone(t, whole.Text(beyond))
		checkText(t, api.Int{Neg: a.Neg, Mag: append(a.Mag, 0)})
	}
}

// calls tells every call that answers a number, as one of two numbers.
func calls() map[string]func(a, b api.Int) api.Int {
	return map[string]func(a, b api.Int) api.Int{
		"Of":    func(a, _ api.Int) api.Int { return whole.Of(int64(len(a.Mag))<<33 - 3) },
		"Trim":  func(a, _ api.Int) api.Int { return whole.Trim(a) },
		"Neg":   func(a, _ api.Int) api.Int { return whole.Neg(a) },
		"Add":   whole.Add,
		"Mul":   whole.Mul,
		"Parse": func(a, _ api.Int) api.Int { out, _ := whole.Parse(whole.Text(a)); return out },
	}
}

func memoryPairs() [][2]api.Int {
	sizes := []api.Nat{nil, {}, {0}, {0, 0}, {1}, {5, 6}, {5, 6, 0, 0}, {5, 7}, {full, full}, {0, 0, 1}, long(70, full)}
	var all [][2]api.Int
	for _, a := range bothSigns(sizes) {
		for _, b := range bothSigns(sizes) {
			all = append(all, [2]api.Int{a, b})
		}
	}
	return all
}

// roomy tells a with spare room, and all its memory.
func roomy(a api.Int) (number api.Int, memory api.Nat) {
	memory = append(slices.Clone(a.Mag), mark, mark, mark)
	return api.Int{Neg: a.Neg, Mag: memory[:len(a.Mag):len(memory)]}, memory
}

// scribble changes all memory of a number, its spare room too.
func scribble(a api.Int) {
	mag := a.Mag[:cap(a.Mag)]
	for i := range mag {
		mag[i] = ^mag[i]
	}
}

func TestArgumentsAreLeftAndNotShared(t *testing.T) {
	for name, call := range calls() {
		for _, p := range memoryPairs() {
			a, wholeA := roomy(p[0])
			b, wholeB := roomy(p[1])
			beforeA, beforeB := slices.Clone(wholeA), slices.Clone(wholeB)
			first := call(a, b)
			want := slices.Clone(first.Mag)
			if !slices.Equal(wholeA, beforeA) || !slices.Equal(wholeB, beforeB) {
				t.Errorf("%s(%v, %v) changed an argument", name, p[0], p[1])
			}
			second := call(a, b)
			scribble(second)
			if !slices.Equal(first.Mag, want) {
				t.Errorf("%s(%v, %v): two answers share memory", name, p[0], p[1])
			}
			if !slices.Equal(wholeA, beforeA) || !slices.Equal(wholeB, beforeB) {
				t.Errorf("%s(%v, %v): an answer shares an argument's memory", name, p[0], p[1])
			}
			scribble(a)
			scribble(b)
			if !slices.Equal(first.Mag, want) {
				t.Errorf("%s(%v, %v) keeps an argument's memory", name, p[0], p[1])
			}
		}
	}
}

func TestQuestionsLeaveArguments(t *testing.T) {
	for _, p := range memoryPairs() {
		a, wholeA := roomy(p[0])
		b, wholeB := roomy(p[1])
		beforeA, beforeB := slices.Clone(wholeA), slices.Clone(wholeB)
		whole.Cmp(a, b)
		text := whole.Text(a)
		if !slices.Equal(wholeA, beforeA) || !slices.Equal(wholeB, beforeB) {
			t.Errorf("%v, %v: an argument was changed", p[0], p[1])
		}
		before := strings.Clone(text)
		scribble(a)
		if text != before {
			t.Errorf("Text(%v) keeps its argument's memory", p[0])
		}
	}
}

// One list in both arguments, with one sign and with two.
func TestOneListAsBothArguments(t *testing.T) {
	a, memory := roomy(api.Int{Mag: api.Nat{full, 1, 0}})
	before := slices.Clone(memory)
	opposite := api.Int{Neg: true, Mag: a.Mag}
	answers := []api.Int{whole.Add(a, a), whole.Add(a, opposite), whole.Add(opposite, a), whole.Mul(a, opposite), whole.Neg(opposite)}
	for i, v := range []int64{(1<<33 - 1) * 2, 0, 0} {
		if !same(answers[i], whole.Of(v)) {
			t.Errorf("answer %d: %v, want %d", i, answers[i], v)
		}
	}
	if !same(answers[3], fromBig(new(big.Int).Mul(toBig(a), toBig(opposite)))) || !same(answers[4], whole.Trim(a)) {
		t.Errorf("Mul %v, Neg %v", answers[3], answers[4])
	}
	if whole.Cmp(a, opposite) != 1 || whole.Cmp(opposite, a) != -1 {
		t.Error("Cmp")
	}
	for _, answer := range answers {
		scribble(answer)
	}
	if !slices.Equal(memory, before) {
		t.Errorf("changed: %v", memory)
	}
}

// What is done to an answer is not seen in a later one.
func TestLaterAnswersAreAsTheFirst(t *testing.T) {
	for _, v := range limits() {
		text := whole.Text(whole.Of(v))
		scribble(whole.Of(v))
		read, _ := whole.Parse(text)
		scribble(read)
		again, ok := whole.Parse(text)
		if !same(whole.Of(v), fromBig(big.NewInt(v))) || !ok || !same(again, whole.Of(v)) {
			t.Errorf("%d: Of %v, Parse %v", v, whole.Of(v), again)
		}
	}
}

// No answer has limbs of 0 at its end, and none is 0 and below 0.
func TestAnswersAreTrimmed(t *testing.T) {
	for _, a := range numbers(2) {
		for name, call := range calls() {
			for _, b := range numbers(1) {
				out := call(a, b)
				if !slices.Equal(out.Mag, nat.Trim(out.Mag)) || out.Neg && len(out.Mag) == 0 {
					t.Errorf("%s(%v, %v) = %v", name, a, b, out)
				}
			}
		}
	}
}
