package literal_test

import (
	"math/big"
	"math/rand"
	"strconv"
	"strings"
	"testing"

	"steelyard/api"
	"steelyard/digits"
)

func TestLength(t *testing.T) {
	for _, c := range []struct {
		s    string
		want int
	}{
		{"", 0},
		{" ", 0}, {"x", 0}, {".", 0}, {"e", 0}, {"-", 0}, {"+", 0},
		{".5", 0}, {"-1", 0}, {"+1", 0}, {"e5", 0}, {"e-5", 0}, {" 1", 0}, {"x1", 0}, {"..1", 0}, {"-.5", 0}, {"--1", 0},
		{"0", 1}, {"1", 1}, {"9", 1}, {"00", 2}, {"007", 3}, {"0123456789", 10},
		{"1.", 1}, {"1..5", 1}, {"1. 5", 1}, {"1.x", 1}, {"1.-5", 1}, {"12.", 2}, {"1.5", 3}, {"0.0", 3}, {"1.500", 5}, {"12.345", 6},
		{"1.5.2", 3}, {"1.5.", 3}, {"1.5..", 3}, {"1.5.e1", 3}, {"1.2.3.4", 3},
		{"1e", 1}, {"1ee5", 1}, {"1e.5", 1}, {"1e x", 1}, {"1e 5", 1}, {"12ex", 2}, {"1.5e", 3}, {"1.5ex", 3},
		{"1e-", 1}, {"1e--5", 1}, {"1e-x", 1}, {"1e-.5", 1}, {"1e-e5", 1}, {"1.5e-", 3},
		{"1e+5", 1}, {"1e+", 1}, {"1e-+5", 1}, {"1e+-5", 1}, {"1.5e+5", 3},
		{"1E5", 1}, {"1E-5", 1}, {"1.5E5", 3}, {"1.5E", 3},
		{"1.e5", 1}, {"1.e", 1}, {"1.e-5", 1}, {"12.e999", 2},
		{"1e0", 3}, {"1e5", 3}, {"1e05", 4}, {"1e55", 4}, {"1e005", 5}, {"1e555", 5}, {"1e5555", 5}, {"1e0000", 5}, {"1e00005", 5}, {"9e999", 5},
		{"1e-0", 4}, {"1e-5", 4}, {"1e-05", 5}, {"1e-55", 5}, {"1e-005", 6}, {"1e-555", 6}, {"1e-5555", 6}, {"1e-0000", 6}, {"9e-999", 6},
		{"1.5e5", 5}, {"1.5e-5", 6}, {"12.50e-1", 8}, {"1.5e5555", 7}, {"1.5e-5555", 8},
		{"1e5.5", 3}, {"1e5.", 3}, {"1e5e5", 3}, {"1e5-5", 3}, {"1e5-", 3}, {"1e555.5", 5}, {"1e-5.5", 4}, {"1.5e2x", 5}, {"1.5e2.5", 5}, {"1.5e-2e3", 6},
		{"1-5", 1}, {"1-", 1}, {"1.5-2", 3}, {"1 2", 1}, {"1 ", 1}, {"1\t", 1}, {"1\n", 1}, {"1\x00", 1}, {"1,5", 1}, {"1/2", 1}, {"1_000", 1}, {"0x10", 1}, {"0b1", 1}, {"0o7", 1}, {"1p5", 1}, {"1f", 1}, {"1inf", 1},
		{"1\x80", 1}, {"1.5\xff", 3}, {"\xb1", 0}, {"\xe5", 0}, {"1\xae5", 1}, {"1\xe55", 1}, {"1e\xad5", 1}, {"1e\xb5", 1}, {"1.\xb5", 1}, {"\u0661", 0}, {"1\u0661", 1}, {"1\u20145", 1}, {"\uff11", 0}, {"1\uff0e5", 1},
	} {
		checkLength(t, c.s, c.want)
	}
}

func TestParse(t *testing.T) {
	for _, c := range []struct {
		s           string
		top, bottom int64
	}{
		{"0", 0, 1}, {"1", 1, 1}, {"7", 7, 1}, {"10", 10, 1}, {"100", 100, 1}, {"4294967296", 1 << 32, 1}, {"9223372036854775807", 1<<63 - 1, 1},
		{"007", 7, 1}, {"00", 0, 1}, {"010", 10, 1}, {"0010.0100", 1001, 100},
		{"0.5", 1, 2}, {"1.5", 3, 2}, {"0.25", 1, 4}, {"0.125", 1, 8}, {"0.2", 1, 5}, {"0.1", 1, 10}, {"3.7", 37, 10}, {"0.3", 3, 10}, {"12.5", 25, 2}, {"007.50", 15, 2}, {"1.0", 1, 1}, {"10.00", 10, 1}, {"0.001", 1, 1000}, {"100.001", 100001, 1000},
		{"1e0", 1, 1}, {"1e-0", 1, 1}, {"3e00", 3, 1}, {"3e-00", 3, 1}, {"3e000", 3, 1}, {"1e1", 10, 1}, {"1e3", 1000, 1}, {"1e03", 1000, 1}, {"1e003", 1000, 1}, {"1e010", 10000000000, 1}, {"12e3", 12000, 1}, {"1e18", 1000000000000000000, 1},
		{"1e-1", 1, 10}, {"1e-3", 1, 1000}, {"1e-03", 1, 1000}, {"1e-003", 1, 1000}, {"1e-010", 1, 10000000000}, {"5e-1", 1, 2}, {"2e-1", 1, 5}, {"10e-1", 1, 1}, {"100e-1", 10, 1}, {"125e-003", 1, 8}, {"1e-18", 1, 1000000000000000000},
		{"12.50e-1", 5, 4}, {"12.50e1", 125, 1}, {"2.5e1", 25, 1}, {"2.5e0", 5, 2}, {"2.5e-0", 5, 2}, {"2.5e2", 250, 1}, {"2.55e1", 51, 2}, {"0.01e2", 1, 1}, {"0.01e1", 1, 10}, {"0.01e3", 10, 1}, {"123.456e3", 123456, 1}, {"123.456e2", 123456, 10}, {"123.456e-2", 123456, 100000},
		{"0e0", 0, 1}, {"0e-0", 0, 1}, {"0.0", 0, 1}, {"0.0e5", 0, 1}, {"0.0e-5", 0, 1}, {"000.000e000", 0, 1}, {"0e999", 0, 1}, {"0e-999", 0, 1}, {"0.000e-999", 0, 1}, {"000.0e999", 0, 1},
		{noughts(396) + "e999", 0, 1}, {noughts(395) + "e-999", 0, 1}, {"0." + noughts(394) + "e999", 0, 1}, {"0." + noughts(393) + "e-999", 0, 1}, {noughts(most), 0, 1}, {"0." + noughts(most-2), 0, 1},
		{noughts(most-1) + "7", 7, 1}, {"7." + noughts(most-2), 7, 1},
		{"0." + noughts(390) + "1e391", 1, 1}, {"0." + noughts(389) + "1e391", 10, 1}, {"0." + noughts(390) + "25e391", 5, 2}, {"1" + noughts(390) + "e-390", 1, 1}, {"1" + noughts(390) + "e-391", 1, 10}, {"25" + noughts(390) + "e-393", 1, 40},
	} {
		if !isGood(c.s) {
			t.Errorf("%q is no good literal", c.s)
		}
		wantNumber(t, c.s, big.NewRat(c.top, c.bottom))
	}
	for _, s := range plain() {
		check(t, s)
	}
}

// All texts of few bytes of a kind each, of which the longest literal is known from those that are a byte shorter.
func TestEveryShortText(t *testing.T) {
	for _, c := range []struct {
		alphabet string
		length   int
	}{
		{"1.e-", 9},
		{"05.e-", 7},
		{"09.e-+E \x00\xe5", 5},
	} {
		everyText(t, "", 0, c.alphabet, c.length)
	}
}

func everyText(t *testing.T, s string, length int, alphabet string, left int) {
	if literals.MatchString(s) {
		length = len(s)
	}
	checkLength(t, s, length)
	checkNumber(t, s)
	if left == 0 {
		return
	}
	for _, b := range []byte(alphabet) {
		everyText(t, s+string([]byte{b}), length, alphabet, left-1)
	}
}

// Every byte, alone, behind a literal, in it at each place, and in the place of each of its bytes.
func TestEveryByte(t *testing.T) {
	for v := range 256 {
		b := string([]byte{byte(v)})
		check(t, b)
		check(t, b+b)
		for _, s := range []string{"7", "12", "1.5", "12.34", "1e5", "1e-5", "1e123", "1e-123", "12.50e-1", "12.50e12", "007.50e007"} {
			for i := range len(s) + 1 {
				check(t, s[:i]+b+s[i:])
			}
			for i := range len(s) {
				check(t, s[:i]+b+s[i+1:])
			}
		}
	}
}

// Literals of just as many bytes as may be, and of one or more beyond, the last part of the text longer each time.
func TestLongestLiterals(t *testing.T) {
	for _, c := range []struct{ ahead, digit, behind string }{
		{"", "0", ""}, {"", "1", ""}, {"", "9", ""}, {"1", "0", ""},
		{"", "3", ".5"}, {"", "3", ".50"}, {"0.", "0", ""}, {"0.", "9", ""}, {"12.", "7", ""},
		{"", "4", "e1"}, {"", "4", "e-1"}, {"", "4", "e99"}, {"", "4", "e-99"}, {"", "4", "e-999"}, {"", "0", "e999"}, {"", "0", "e-999"},
		{"5.", "4", "e1"}, {"5.", "4", "e-1"}, {"5.", "0", "e99"}, {"0.", "0", "1e999"}, {"5.", "4", "e-000"}, {"", "4", ".2e007"},
	} {
		for _, n := range []int{most - 10, most - 1, most} {
			s := c.ahead + strings.Repeat(c.digit, n-len(c.ahead)-len(c.behind)) + c.behind
			checkLength(t, s, n)
			checkNumber(t, s)
		}
		for _, n := range []int{most + 1, most + 2, 2 * most, 2000, 2001, 4000, 1 << 16, 1<<16 + 5} {
			s := c.ahead + strings.Repeat(c.digit, n-len(c.ahead)-len(c.behind)) + c.behind
			checkLength(t, s, n)
			wantError(t, s, api.ErrSyntax)
		}
	}
}

// Other bytes behind a literal count for nothing but in Good.
func TestLongTexts(t *testing.T) {
	ones := strings.Repeat("1", 1<<20)
	for _, c := range []struct {
		s    string
		want int
	}{
		{ones, 1 << 20},
		{ones + ".", 1 << 20},
		{ones + "e", 1 << 20},
		{ones + "." + ones, 2<<20 + 1},
		{ones + "." + ones + "e-" + ones, 2<<20 + 6},
		{ones + "e" + ones, 1<<20 + 4},
		{"1e" + ones, 5},
		{"1e-" + ones, 6},
		{"1.5e" + ones, 7},
		{"1." + ones, 1<<20 + 2},
		{"1 " + ones, 1},
		{" " + ones, 0},
		{"." + ones, 0},
		{strings.Repeat(".", 1<<20), 0},
		{strings.Repeat("e", 1<<20), 0},
		{strings.Repeat("-", 1<<20), 0},
		{strings.Repeat("\x00", 1<<20), 0},
		{strings.Repeat("\xff", 1<<20), 0},
		{"1" + strings.Repeat(".", 1<<20), 1},
		{"1" + strings.Repeat("e", 1<<20), 1},
		{"1e" + strings.Repeat("-", 1<<20), 1},
		{strings.Repeat("1.5e-2", 1<<17), 7},
		{"1" + strings.Repeat(" ", most-1), 1},
		{"1" + strings.Repeat("x", most), 1},
	} {
		checkLength(t, c.s, c.want)
		wantError(t, c.s, api.ErrSyntax)
	}
}

// Only the number itself is held against the limit, not its digits, nor its power of ten.
func TestSmallNumbersOfGreatParts(t *testing.T) {
	for _, c := range []struct {
		s   string
		ten int
	}{
		{"1" + noughts(394) + "e-999", -605},
		{"1" + noughts(393) + "e-999", -606},
		{"1" + noughts(383) + "e-999", -616},
		{"1" + noughts(390) + "e-390", 0},
		{"1" + noughts(394) + "e-789", -395},
		{"1" + noughts(390) + ".0e-999", -609},
		{tenth(391) + "e999", 607},
		{tenth(382) + "e999", 616},
		{tenth(391) + "e392", 0},
		{tenth(391) + "e700", 308},
		{"1." + noughts(391) + "e616", 616},
		{"1." + noughts(391) + "e-616", -616},
	} {
		want := new(big.Rat).SetInt(power(10, max(c.ten, -c.ten)))
		if c.ten < 0 {
			want.Inv(want)
		}
		wantNumber(t, c.s, want)
	}
	for _, s := range []string{"1" + noughts(382) + "e-999", tenth(381) + "e999", "1.0e617", "10e616", "1.0e-617", "0.1e-616", "1" + noughts(394) + "e999", tenth(391) + "e-999", "1e999", "1e-999", "9e999", "9e-999"} {
		wantError(t, s, api.ErrLimit)
	}
}

// Each exponent that may be, of few digits.
func TestEveryExponent(t *testing.T) {
	for _, number := range []string{"1", "2", "5", "7", "8.0", "0.3", "00", "625", "1024", "999999999", "1.000000001", "123456789012345678901234567890.5"} {
		for n := range farthest + 1 {
			for _, minus := range []string{"e", "e-"} {
				checkNumber(t, number+minus+strconv.Itoa(n))
			}
		}
	}
}

// A number whose top has just as many limbs as may be, and the next one, by whatever digits and exponents that is so.
func TestTopAtTheLimit(t *testing.T) {
	for n := 221; n <= 616; n++ {
		great := new(big.Int).Lsh(big.NewInt(1), mostBits)
		last := new(big.Int).Div(great.Sub(great, big.NewInt(1)), power(10, n))
		wantTop(t, last.String(), n, true)
		next := new(big.Int).Add(last, big.NewInt(1))
		wantTop(t, next.String(), n, false)
	}
}

// wantTop asks whether the number of some digits times 10 to the n may be, its point moved and not.
func wantTop(t *testing.T, text string, n int, fits bool) {
	t.Helper()
	for _, s := range []string{
		text + exponent(n),
		text[:1] + "." + text[1:] + "0" + exponent(n+len(text)-1),
		"0." + text + exponent(n+len(text)),
		"0.00" + text + exponent(n+len(text)+2),
	} {
		if len(s) > most {
			continue
		}
		if !fits {
			wantError(t, s, api.ErrLimit)
			continue
		}
		a := parsed(t, s)
		if want := text + noughts(n); digits.Text(a.Top.Mag) != want || digits.Text(a.Bottom) != "1" || len(a.Top.Mag) != api.MaxLimbs {
			t.Errorf("Parse(%q) = %v, want %s", s, a, want)
		}
	}
}

// A number whose bottom has just as many limbs as may be, and one more, by powers of 10, of 5 and of 2 with 5.
func TestBottomAtTheLimit(t *testing.T) {
	for _, v := range []int64{1, 3, 7, 9, 11, 999} {
		wantBottom(t, big.NewInt(v), 616, power(10, 616))
		wantBottom(t, big.NewInt(v), 617, nil)
	}
	wantBottom(t, power(2, 882), 882, power(5, 882))
	wantBottom(t, power(2, 883), 883, nil)
	wantBottom(t, power(2, 880), 881, new(big.Int).Lsh(power(5, 881), 1))
	wantBottom(t, power(2, 881), 882, nil)
	wantBottom(t, power(5, 548), farthest, new(big.Int).Lsh(power(5, farthest-548), farthest))
	wantBottom(t, power(5, 547), farthest, nil)
	wantBottom(t, power(5, 560), farthest, new(big.Int).Lsh(power(5, farthest-560), farthest))
}

// wantBottom asks for the bottom of v times 10 to the negative of n, or, if it is nil, for ErrLimit, by an exponent, by places, and by both.
func wantBottom(t *testing.T, v *big.Int, n int, bottom *big.Int) {
	t.Helper()
	text := v.String()
	for places := 0; places < 300; places += 23 {
		s := text
		if places > 0 {
			s = noughts(max(0, places+1-len(text))) + text
			s = s[:len(s)-places] + "." + s[len(s)-places:]
		}
		s += exponent(places - n)
		if len(s) > most {
			continue
		}
		if bottom == nil {
			wantError(t, s, api.ErrLimit)
			continue
		}
		if a := parsed(t, s); digits.Text(a.Bottom) != bottom.String() {
			t.Errorf("Parse(%q) = %v, want the bottom %v", s, a, bottom)
		}
	}
}

// As many digits as may be, with a point and without, are no number that is too great.
func TestDigitsAlone(t *testing.T) {
	for _, digit := range []string{"1", "5", "9"} {
		for _, n := range []int{350, 398, 399, most} {
			checkNumber(t, strings.Repeat(digit, n))
			parsed(t, strings.Repeat(digit, n))
		}
		for n := 1; n <= most-2; n += 3 {
			s := strings.Repeat(digit, n) + "." + strings.Repeat(digit, most-1-n)
			checkNumber(t, s)
			parsed(t, s)
		}
	}
	parsed(t, "0."+noughts(most-3)+"1")
}

// Literals of any make, and texts that are nearly such.
func TestRandomTexts(t *testing.T) {
	r := rand.New(rand.NewSource(9))
	for range 20000 {
		s := randomLiteral(r)
		if !literals.MatchString(s) {
			t.Fatalf("%q is no literal", s)
		}
		check(t, s)
		i, j := r.Intn(len(s)), r.Intn(len(s)+1)
		check(t, s[i:])
		check(t, s[:j]+string([]byte{byte(r.Intn(256))})+s[j:])
		check(t, s[:i]+string([]byte{"0123456789..ee--+E "[r.Intn(19)]})+s[i+1:])
		check(t, s+randomLiteral(r))
	}
}

func randomLiteral(r *rand.Rand) string {
	s := randomDigits(r)
	if r.Intn(2) == 0 {
		s += "." + randomDigits(r)
	}
	switch r.Intn(3) {
	case 0:
		s += "e" + strconv.Itoa(r.Intn(1000))
	case 1:
		s += "e-" + noughts(r.Intn(2)) + strconv.Itoa(r.Intn(100))
	}
	return s
}

func randomDigits(r *rand.Rand) string {
	n := 1 + r.Intn(8)
	if r.Intn(20) == 0 {
		n = 1 + r.Intn(120)
	}
	text := make([]byte, n)
	for i := range text {
		text[i] = "00012345678999"[r.Intn(14)]
	}
	return string(text)
}
