package decimal_test

import (
	"math/rand"
	"testing"

	"steelyard/api"
)

// Of what may not be there is no text, and ErrArg with any places, those that there cannot be too.
func TestWrongNumbers(t *testing.T) {
	for _, a := range wrong() {
		if mayBe(a) {
			t.Fatalf("%v may be", a)
		}
		checkExact(t, a)
		for places := -2; places <= mostPlaces+2; places++ {
			wantArg(t, a, places)
		}
		for _, places := range wrongPlaces() {
			wantArg(t, a, places)
		}
	}
}

func TestWrongPlaces(t *testing.T) {
	for _, a := range right() {
		for _, places := range wrongPlaces() {
			wantArg(t, a, places)
		}
	}
}

// The places at both ends may be, and those beside them may not.
func TestPlacesAtTheEnds(t *testing.T) {
	a := frac(-1, 3)
	wantArg(t, a, -1)
	wantTexts(t, a, 0, "-1", "0", "0")
	wantTexts(t, a, 1, "-0.4", "-0.3", "-0.3")
	threes := "-0."
	for range mostPlaces - 1 {
		threes += "3"
	}
	wantTexts(t, a, mostPlaces-1, threes[:len(threes)-1]+"4", threes, threes)
	wantTexts(t, a, mostPlaces, threes+"4", threes+"3", threes+"3")
	wantArg(t, a, mostPlaces+1)
}

func TestNoNumbersTexts(t *testing.T) {
	for _, s := range []string{
		"", "/", "//", "1/", "/1", "/2", "-/2", "1//2", "1/2/", "/1/2", "1/2/3", "1/2/3/4", "0/", "/0",
		"01", "00", "007", "-01", "-007", "01/2", "-01/2", "1/02", "1/002", "3/04", "00/1", "0/01",
		"-", "--", "-0", "-00", "-0/1", "-0/2", "--1", "--1/2", "1-", "1-2", "-1-", "-/", "-/1",
		"+", "+1", "+0", "+1/2", "1/+2", "-+1", "+-1", "1+",
		"1/-2", "-1/-2", "1/-", "1/--2", "0/-1", "-/-",
		"1/0", "0/0", "-1/0", "7/00", "1/-0", "1/1", "0/1", "-1/1", "12/1", "0/2", "0/7",
		"2/4", "-2/4", "2/2", "-3/3", "10/5", "6/4", "4294967296/2", "2/4294967296", "-9/6", "1001/7",
		".", "0.0", "1.", ".5", "1.5", "-1.5", "1.0", "1/2.0", "1.0/2", "1,5", "1e5", "1e0", "1/2e1",
		" ", " 1", "1 ", "1 2", "1 /2", "1/ 2", "1/2 ", " 1/2", "- 1", "\t1", "1\n", "1/2\n", "1\r\n", "\x001", "1\x00", "1\x00/2", "1/\x002",
		"x", "ten", "0x10", "0b1", "1_000", "1/1_0", "1i", "NaN", "Inf", "-Inf", "1f", "1\x80", "\xb1", "\xff", "1/\xb2", "\u0661", "1/\u0662", "\uff11", "\u22121", "1\u20442", "1\u22152", "\ufeff1",
	} {
		wantSyntax(t, s)
	}
}

// Whatever it is given, each call ends, and none panics.
func TestAnyLimbs(t *testing.T) {
	sizes := []api.Nat{nil, {}, {0}, {0, 0, 0}, {1}, {1, 0}, {2}, {3}, {10}, {10, 0}, {full}, {0, 1}, {1, 1}, {0, 0, 1}, {full, full}, {full, full, 0}}
	for _, top := range sizes {
		for _, bottom := range sizes {
			for _, neg := range []bool{false, true} {
				a := api.Rat{Top: api.Int{Neg: neg, Mag: top}, Bottom: bottom}
				checkExact(t, a)
				for _, places := range append(wrongPlaces(), 0, 1, 2, 9, 59, 60) {
					check(t, a, places)
				}
			}
		}
	}
	r := rand.New(rand.NewSource(100))
	for range 3000 {
		limbs := []int{3, 3, 3, api.MaxLimbs + 4}[r.Intn(4)]
		a := api.Rat{Top: api.Int{Neg: r.Intn(2) == 0, Mag: randomLimbs(r, limbs)}, Bottom: randomLimbs(r, limbs)}
		checkExact(t, a)
		check(t, a, r.Intn(mostPlaces+3)-1)
		check(t, a, int(r.Uint64())>>r.Intn(64))
	}
}

func TestAnyTexts(t *testing.T) {
	r := rand.New(rand.NewSource(101))
	for range 30000 {
		text := make([]byte, r.Intn(12))
		for i := range text {
			text[i] = "0123456789--//. +"[r.Intn(17)]
			if r.Intn(20) == 0 {
				text[i] = byte(r.Intn(256))
			}
		}
		checkParse(t, string(text))
	}
}

func randomLimbs(r *rand.Rand, most int) api.Nat {
	out := make(api.Nat, r.Intn(most+1))
	for i := range out {
		out[i] = r.Uint32() >> r.Intn(33)
	}
	return out
}
