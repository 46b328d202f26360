package decimal_test

import (
	"math"
	"math/big"
	"math/rand"
	"strings"
	"testing"

	"steelyard/api"
	"steelyard/decimal"
)

func TestExact(t *testing.T) {
	for _, c := range []struct {
		top, bottom int64
		want        string
	}{
		{0, 1, "0"}, {0, 7, "0"}, {1, 1, "1"}, {-1, 1, "-1"}, {10, 1, "10"}, {-100, 1, "-100"}, {6, 3, "2"}, {-6, 3, "-2"},
		{1, 2, "1/2"}, {-1, 2, "-1/2"}, {6, 4, "3/2"}, {-6, 4, "-3/2"}, {1, 10, "1/10"}, {10, 3, "10/3"}, {-1, 3, "-1/3"}, {1, 11, "1/11"}, {11, 10, "11/10"},
		{1000000000, 1, "1000000000"}, {1, 1000000000, "1/1000000000"}, {-1000000001, 1000000000, "-1000000001/1000000000"}, {1 << 32, 1, "4294967296"}, {1, 1 << 32, "1/4294967296"}, {math.MinInt64, 1, "-9223372036854775808"}, {math.MaxInt64, 2, "9223372036854775807/2"},
	} {
		if s := decimal.Exact(frac(c.top, c.bottom)); s != c.want {
			t.Errorf("Exact of %d by %d = %q, want %q", c.top, c.bottom, s, c.want)
		}
	}
	for _, a := range right() {
		checkExact(t, a)
	}
}

func TestParse(t *testing.T) {
	for _, c := range []struct {
		s           string
		top, bottom int64
	}{
		{"0", 0, 1}, {"1", 1, 1}, {"-1", -1, 1}, {"7", 7, 1}, {"10", 10, 1}, {"-100", -100, 1}, {"9223372036854775807", math.MaxInt64, 1}, {"-9223372036854775808", math.MinInt64, 1},
		{"1/2", 1, 2}, {"-1/2", -1, 2}, {"3/2", 3, 2}, {"-10/3", -10, 3}, {"1/10", 1, 10}, {"11/10", 11, 10}, {"1/4294967296", 1, 1 << 32}, {"-4294967295/4294967296", -full, 1 << 32},
	} {
		wantNumber(t, c.s, big.NewRat(c.top, c.bottom))
	}
}

func TestEveryShortText(t *testing.T) {
	everyText(t, "", "0136-/", 6)
	everyText(t, "", "2/-+. e_\x00\n\xb2\xff", 4)
}

func everyText(t *testing.T, s, alphabet string, left int) {
	checkParse(t, s)
	if left == 0 {
		return
	}
	for _, b := range []byte(alphabet) {
		everyText(t, s+string([]byte{b}), alphabet, left-1)
	}
}

// Every byte, alone, at each place of a number's text, and in the place of each of its bytes.
func TestEveryByte(t *testing.T) {
	for v := range 256 {
		b := string([]byte{byte(v)})
		checkParse(t, b)
		checkParse(t, b+b)
		for _, s := range []string{"0", "7", "-7", "12", "-120", "1/2", "-3/4", "12/35", "-123/1000", "4294967296/4294967297", "1000000000000000000001"} {
			for i := range len(s) + 1 {
				checkParse(t, s[:i]+b+s[i:])
			}
			for i := range len(s) {
				checkParse(t, s[:i]+b+s[i+1:])
			}
		}
	}
}

// Tops and bottoms of just as many limbs as may be, and of one more.
func TestTextsAtTheLimit(t *testing.T) {
	least, beyond := twoTo(mostBits-1, 0), twoTo(mostBits, 0)
	for _, v := range []*big.Int{least, greatest(), twoTo(mostBits, -2), twoTo(mostBits-32, 0), twoTo(mostBits-32, -1), power(10, 616)} {
		for _, other := range []string{"", "1/", "7/", "1000003/", greatest().String() + "/", twoTo(mostBits, -2).String() + "/"} {
			checkParse(t, other+v.String())
			checkParse(t, "-"+other+v.String())
		}
		for _, other := range []string{"/2", "/7", "/1000003", "/" + twoTo(mostBits, -5).String()} {
			checkParse(t, v.String()+other)
			checkParse(t, "-"+v.String()+other)
		}
	}
	wantNumber(t, greatest().String(), new(big.Rat).SetInt(greatest()))
	wantNumber(t, "-1/"+greatest().String(), new(big.Rat).SetFrac(big.NewInt(-1), greatest()))
	wantNumber(t, greatest().String()+"/"+least.String(), new(big.Rat).SetFrac(greatest(), least))
	for _, v := range []*big.Int{beyond, twoTo(mostBits, 1), twoTo(mostBits+31, 7), twoTo(mostBits+32, -1), power(10, 617), power(10, 1999), power(3, 2*mostBits)} {
		for _, s := range []string{v.String(), "-" + v.String(), "1/" + v.String(), "-1/" + v.String(), v.String() + "/7", v.String() + "/" + v.String(), v.String() + "/" + greatest().String(), greatest().String() + "/" + v.String()} {
			wantSyntax(t, s)
		}
	}
	// Without the divisor in common it would not be too great, but it is not that number's text.
	wantSyntax(t, new(big.Int).Mul(greatest(), big.NewInt(7)).String()+"/14")
	wantSyntax(t, beyond.String()+"/2")
	wantSyntax(t, "3/"+new(big.Int).Mul(greatest(), big.NewInt(3)).String())
}

func TestLongTexts(t *testing.T) {
	for _, n := range []int{617, 618, 1000, 1999, 2000, 2001, 2002, 5000, 1 << 16, 1 << 22} {
		for _, s := range []string{strings.Repeat("9", n), noughts(n), noughts(n) + "7", "1/" + noughts(n) + "7", "7." + noughts(n), strings.Repeat("-", n), strings.Repeat("/", n), strings.Repeat(" ", n) + "7", "7" + strings.Repeat(" ", n), strings.Repeat("\xff", n), strings.Repeat("1/", n) + "2"} {
			wantSyntax(t, s)
			wantSyntax(t, "-"+s)
			wantSyntax(t, "1/"+s)
			wantSyntax(t, s+"/7")
		}
	}
}

func TestPlaces(t *testing.T) {
	for _, c := range []struct {
		top, bottom    int64
		places         int
		down, up, near string
		floor          int64
	}{
		{-1, 3, 2, "-0.34", "-0.33", "-0.33", -34},
		{1, 3, 2, "0.33", "0.34", "0.33", 33},
		{2, 3, 2, "0.66", "0.67", "0.67", 66},
		{-2, 3, 2, "-0.67", "-0.66", "-0.67", -67},
		{2, 3, 0, "0", "1", "1", 0},
		{-2, 3, 0, "-1", "0", "-1", -1},
		{1, 3, 0, "0", "1", "0", 0},
		{-1, 3, 0, "-1", "0", "0", -1},
		{0, 1, 0, "0", "0", "0", 0},
		{0, 1, 1, "0.0", "0.0", "0.0", 0},
		{0, 1, 5, "0.00000", "0.00000", "0.00000", 0},
		{7, 1, 0, "7", "7", "7", 7},
		{-7, 1, 0, "-7", "-7", "-7", -7},
		{7, 1, 3, "7.000", "7.000", "7.000", 7000},
		{-120, 1, 1, "-120.0", "-120.0", "-120.0", -1200},
		{-1200, 1, 0, "-1200", "-1200", "-1200", -1200},
		{1, 10, 1, "0.1", "0.1", "0.1", 1},
		{-1, 10, 1, "-0.1", "-0.1", "-0.1", -1},
		{1, 100, 1, "0.0", "0.1", "0.0", 0},
		{-1, 100, 1, "-0.1", "0.0", "0.0", -1},
		{9, 100, 1, "0.0", "0.1", "0.1", 0},
		{-9, 100, 1, "-0.1", "0.0", "-0.1", -1},
		{1, 100, 2, "0.01", "0.01", "0.01", 1},
		{-1, 100, 2, "-0.01", "-0.01", "-0.01", -1},
		{1, 100, 3, "0.010", "0.010", "0.010", 10},
		{-5, 4, 2, "-1.25", "-1.25", "-1.25", -125},
		{-5, 4, 3, "-1.250", "-1.250", "-1.250", -1250},
		{1, 1000000007, 9, "0.000000000", "0.000000001", "0.000000001", 0},
		{1, 2000000001, 9, "0.000000000", "0.000000001", "0.000000000", 0},
		{-1, 2000000001, 9, "-0.000000001", "0.000000000", "0.000000000", -1},
		{355, 113, 6, "3.141592", "3.141593", "3.141593", 3141592},
		{-355, 113, 6, "-3.141593", "-3.141592", "-3.141593", -3141593},
		{12345, 1000, 2, "12.34", "12.35", "12.34", 1234},
		{12355, 1000, 2, "12.35", "12.36", "12.36", 1235},
		{math.MinInt64, 1, 0, "-9223372036854775808", "-9223372036854775808", "-9223372036854775808", math.MinInt64},
	} {
		a := frac(c.top, c.bottom)
		wantTexts(t, a, c.places, c.down, c.up, c.near)
		wantFloor(t, a, c.places, big.NewInt(c.floor))
	}
}

// In the middle between two the even one is told, whichever of both that is, above and below 0.
func TestMiddles(t *testing.T) {
	for _, c := range []struct {
		top, bottom    int64
		places         int
		down, up, near string
	}{
		{1, 2, 0, "0", "1", "0"}, {3, 2, 0, "1", "2", "2"}, {5, 2, 0, "2", "3", "2"}, {7, 2, 0, "3", "4", "4"}, {19, 2, 0, "9", "10", "10"}, {21, 2, 0, "10", "11", "10"}, {199, 2, 0, "99", "100", "100"},
		{-1, 2, 0, "-1", "0", "0"}, {-3, 2, 0, "-2", "-1", "-2"}, {-5, 2, 0, "-3", "-2", "-2"}, {-7, 2, 0, "-4", "-3", "-4"}, {-19, 2, 0, "-10", "-9", "-10"}, {-21, 2, 0, "-11", "-10", "-10"}, {-199, 2, 0, "-100", "-99", "-100"},
		{1, 20, 1, "0.0", "0.1", "0.0"}, {3, 20, 1, "0.1", "0.2", "0.2"}, {-1, 20, 1, "-0.1", "0.0", "0.0"}, {-3, 20, 1, "-0.2", "-0.1", "-0.2"}, {19, 20, 1, "0.9", "1.0", "1.0"}, {-19, 20, 1, "-1.0", "-0.9", "-1.0"}, {21, 20, 1, "1.0", "1.1", "1.0"}, {-21, 20, 1, "-1.1", "-1.0", "-1.0"},
		{1, 8, 2, "0.12", "0.13", "0.12"}, {3, 8, 2, "0.37", "0.38", "0.38"}, {-1, 8, 2, "-0.13", "-0.12", "-0.12"}, {-3, 8, 2, "-0.38", "-0.37", "-0.38"},
	} {
		wantTexts(t, frac(c.top, c.bottom), c.places, c.down, c.up, c.near)
	}
	for places := range mostPlaces + 1 {
		for _, v := range []*big.Int{big.NewInt(1), big.NewInt(3), big.NewInt(999), big.NewInt(1001), big.NewInt(1<<33 - 1), new(big.Int).Sub(power(10, 70), big.NewInt(1)), new(big.Int).Add(power(10, 70), big.NewInt(1))} {
			checkBeside(t, new(big.Rat).SetFrac(v, new(big.Int).Lsh(power(10, places), 1)), places)
		}
	}
}

// checkBeside checks r, what is just beside it, and their negatives.
func checkBeside(t *testing.T, r *big.Rat, places int) {
	t.Helper()
	for _, more := range []*big.Rat{new(big.Rat), new(big.Rat).SetFrac(big.NewInt(1), power(10, 90)), big.NewRat(1, 1<<62), new(big.Rat).SetFrac(big.NewInt(1), power(3, 300))} {
		for _, v := range []*big.Rat{new(big.Rat).Add(r, more), new(big.Rat).Sub(r, more)} {
			check(t, form(v), places)
			check(t, minus(form(v)), places)
		}
	}
}

// Rounding carries through all digits, or leaves the lowest of so many.
func TestCarries(t *testing.T) {
	for _, c := range []struct {
		top, bottom    int64
		places         int
		down, up, near string
	}{
		{99999, 1000, 2, "99.99", "100.00", "100.00"}, {-99999, 1000, 2, "-100.00", "-99.99", "-100.00"},
		{999, 1000, 0, "0", "1", "1"}, {-999, 1000, 0, "-1", "0", "-1"}, {999, 1000, 2, "0.99", "1.00", "1.00"}, {-999, 1000, 1, "-1.0", "-0.9", "-1.0"},
		{9999999999, 1000000000, 8, "9.99999999", "10.00000000", "10.00000000"}, {4294967295999, 1000, 0, "4294967295", "4294967296", "4294967296"}, {-4294967295999, 1000, 0, "-4294967296", "-4294967295", "-4294967296"},
		{100001, 1000, 2, "100.00", "100.01", "100.00"}, {-100001, 1000, 2, "-100.01", "-100.00", "-100.00"},
	} {
		wantTexts(t, frac(c.top, c.bottom), c.places, c.down, c.up, c.near)
	}
	for places := range mostPlaces + 1 {
		for _, n := range []int{0, 1, 9, 10, 60, 300} {
			checkBeside(t, new(big.Rat).SetInt(power(10, n)), places)
			checkBeside(t, new(big.Rat).SetFrac(big.NewInt(1), power(10, n)), places)
		}
		checkBeside(t, new(big.Rat).SetFrac(twoTo(200, 0), power(10, places)), places)
		checkBeside(t, new(big.Rat).SetFrac(twoTo(64, 0), power(10, places)), places)
	}
}

func TestEverySmallNumber(t *testing.T) {
	for bottom := int64(1); bottom <= 50; bottom++ {
		for top := int64(-60); top <= 60; top++ {
			a := frac(top, bottom)
			checkExact(t, a)
			for _, places := range []int{0, 1, 2, 3, 10} {
				check(t, a, places)
			}
		}
	}
}

func TestAllPlaces(t *testing.T) {
	for _, a := range right() {
		for places := -2; places <= mostPlaces+2; places++ {
			check(t, a, places)
		}
	}
}

// A number of as many limbs as may be has, with as many places as may be, a text of all its digits: no other limit is named.
func TestLongestNumbers(t *testing.T) {
	text := greatest().String()
	for _, c := range []struct {
		a              api.Rat
		down, up, near string
	}{
		{bigWhole(greatest()), text + "." + noughts(mostPlaces), text + "." + noughts(mostPlaces), text + "." + noughts(mostPlaces)},
		{minus(bigWhole(greatest())), "-" + text + "." + noughts(mostPlaces), "-" + text + "." + noughts(mostPlaces), "-" + text + "." + noughts(mostPlaces)},
		{bigFrac(big.NewInt(1), greatest()), "0." + noughts(mostPlaces), "0." + noughts(mostPlaces-1) + "1", "0." + noughts(mostPlaces)},
		{bigFrac(big.NewInt(-1), greatest()), "-0." + noughts(mostPlaces-1) + "1", "0." + noughts(mostPlaces), "0." + noughts(mostPlaces)},
		{bigFrac(twoTo(mostBits, -2), greatest()), "0." + strings.Repeat("9", mostPlaces), "1." + noughts(mostPlaces), "1." + noughts(mostPlaces)},
		{bigFrac(new(big.Int).Neg(greatest()), twoTo(mostBits, -2)), "-1." + noughts(mostPlaces-1) + "1", "-1." + noughts(mostPlaces), "-1." + noughts(mostPlaces)},
	} {
		wantTexts(t, c.a, mostPlaces, c.down, c.up, c.near)
		check(t, c.a, mostPlaces)
		check(t, c.a, 0)
	}
	wantFloor(t, bigWhole(greatest()), mostPlaces, new(big.Int).Mul(greatest(), power(10, mostPlaces)))
	wantFloor(t, minus(bigWhole(greatest())), mostPlaces, new(big.Int).Mul(new(big.Int).Neg(greatest()), power(10, mostPlaces)))
}

func TestRandomNumbers(t *testing.T) {
	r := rand.New(rand.NewSource(10))
	for i := range 2400 {
		limbs := []int{1, 2, 5, api.MaxLimbs}[i%4]
		a := random(r, limbs)
		checkExact(t, a)
		check(t, a, r.Intn(mostPlaces+1))
		check(t, a, r.Intn(4))
		// What is a whole number, or nearly, at the last place.
		places := r.Intn(mostPlaces + 1)
		checkBeside(t, new(big.Rat).SetFrac(randomSize(r, limbs/2+1), power(10, places)), places)
	}
}
