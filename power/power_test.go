package power_test

import (
	"math"
	"math/big"
	"math/rand"
	"testing"

	"steelyard/api"
	"steelyard/power"
)

func TestOf(t *testing.T) {
	for _, c := range []struct {
		a    api.Rat
		n    int
		want api.Rat
	}{
		{frac(2, 3), -2, frac(9, 4)},
		{frac(2, 3), -1, frac(3, 2)},
		{frac(2, 3), 0, frac(1, 1)},
		{frac(2, 3), 1, frac(2, 3)},
		{frac(2, 3), 2, frac(4, 9)},
		{frac(2, 3), 3, frac(8, 27)},
		{frac(-2, 3), -3, frac(-27, 8)},
		{frac(-2, 3), -2, frac(9, 4)},
		{frac(-2, 3), -1, frac(-3, 2)},
		{frac(-2, 3), 0, frac(1, 1)},
		{frac(-2, 3), 1, frac(-2, 3)},
		{frac(-2, 3), 2, frac(4, 9)},
		{frac(-2, 3), 3, frac(-8, 27)},
		{frac(7, 1), 2, frac(49, 1)},
		{frac(7, 1), -2, frac(1, 49)},
		{frac(-7, 1), -1, frac(-1, 7)},
		{frac(-7, 1), 3, frac(-343, 1)},
		{frac(1, 7), 2, frac(1, 49)},
		{frac(1, 7), -2, frac(49, 1)},
		{frac(-1, 7), -3, frac(-343, 1)},
		{frac(-1, 7), 4, frac(1, 2401)},
		{frac(2, 1), 62, frac(1<<62, 1)},
		{frac(-2, 1), 61, frac(-1<<61, 1)},
		{frac(10, 1), 18, frac(1000000000000000000, 1)},
		{frac(10, 1), -18, frac(1, 1000000000000000000)},
		{frac(3, 1), 39, frac(4052555153018976267, 1)},
		{frac(0, 1), 0, frac(1, 1)},
		{frac(0, 1), 1, frac(0, 1)},
		{frac(0, 1), 2, frac(0, 1)},
		{frac(0, 1), 7, frac(0, 1)},
		{frac(0, 1), mostPower, frac(0, 1)},
	} {
		got, e := power.Of(c.a, c.n)
		if e != api.OK || !alike(got, c.want) {
			t.Errorf("Of(%v, %d) = %v, %d, want %v", c.a, c.n, got, e, c.want)
		}
	}
}

// 1 and -1 are all that is not too great by any exponent that may be.
func TestPowersOfOne(t *testing.T) {
	for n := -mostPower; n <= mostPower; n++ {
		if got, e := power.Of(frac(1, 1), n); e != api.OK || !alike(got, frac(1, 1)) {
			t.Errorf("Of(1, %d) = %v, %d", n, got, e)
		}
		want := frac(1, 1)
		if n%2 != 0 {
			want = frac(-1, 1)
		}
		if got, e := power.Of(frac(-1, 1), n); e != api.OK || !alike(got, want) {
			t.Errorf("Of(-1, %d) = %v, %d, want %v", n, got, e, want)
		}
	}
}

func TestOfAllExponents(t *testing.T) {
	for _, a := range right() {
		for n := -mostPower - 3; n <= mostPower+3; n++ {
			checkOf(t, a, n)
		}
		for _, n := range extremes() {
			checkOf(t, a, n)
		}
	}
}

func TestOfSmallNumbers(t *testing.T) {
	for bottom := int64(1); bottom <= 12; bottom++ {
		for top := int64(-12); top <= 12; top++ {
			for n := -20; n <= 20; n++ {
				checkOf(t, frac(top, bottom), n)
			}
		}
	}
}

// For each exponent: the greatest number whose power has as many limbs as may be, and the next one, that is too great.
func TestOfAtTheLimit(t *testing.T) {
	one := big.NewInt(1)
	for n := 1; n <= mostPower; n++ {
		fits := floorRoot(greatest(), n)
		if limbs := len(fromBig(new(big.Int).Exp(fits, big.NewInt(int64(n)), nil))); limbs != api.MaxLimbs {
			t.Fatalf("%v to the %d has %d limbs", fits, n, limbs)
		}
		over, under := new(big.Int).Add(fits, one), new(big.Int).Sub(fits, one)
		for _, a := range []api.Rat{bigWhole(fits), bigFrac(fits, under), bigFrac(under, fits)} {
			checkBothWays(t, a, n, api.OK)
		}
		if n == 1 {
			continue // One more than the greatest number may not be.
		}
		for _, a := range []api.Rat{bigWhole(over), bigFrac(over, fits), bigFrac(fits, over), bigFrac(over, big.NewInt(1<<16+3))} {
			checkBothWays(t, a, n, api.ErrLimit)
		}
	}
}

// checkBothWays holds the powers of a and of what it makes with other signs and as a divisor against the library's, and asks whether they end so.
func checkBothWays(t *testing.T, a api.Rat, n int, want api.Errno) {
	t.Helper()
	for _, b := range signs(a) {
		for _, k := range []int{n, -n} {
			checkOf(t, b, k)
			got, e := power.Of(b, k)
			if e != want {
				t.Errorf("Of(%v, %d): error %d, want %d", b, k, e, want)
			}
			if limbs := max(len(got.Top.Mag), len(got.Bottom)); e == api.OK && limbs != api.MaxLimbs {
				t.Errorf("Of(%v, %d) has %d limbs", b, k, limbs)
			}
		}
	}
}

func TestScale(t *testing.T) {
	for _, c := range []struct {
		a    api.Rat
		n    int
		want api.Rat
	}{
		{frac(5, 4), 2, frac(125, 1)},
		{frac(5, 4), 1, frac(25, 2)},
		{frac(5, 4), 0, frac(5, 4)},
		{frac(5, 4), -1, frac(1, 8)},
		{frac(5, 4), -2, frac(1, 80)},
		{frac(-5, 4), 2, frac(-125, 1)},
		{frac(-5, 4), -2, frac(-1, 80)},
		{frac(-3, 7), 0, frac(-3, 7)},
		{frac(-3, 7), 1, frac(-30, 7)},
		{frac(-3, 7), -1, frac(-3, 70)},
		{frac(-1, 1000), 3, frac(-1, 1)},
		{frac(-1, 1000), 2, frac(-1, 10)},
		{frac(-1, 1000), 4, frac(-10, 1)},
		{frac(3000, 7), -3, frac(3, 7)},
		{frac(3000, 7), -4, frac(3, 70)},
		{frac(1, 8), 3, frac(125, 1)},
		{frac(1, 125), 3, frac(8, 1)},
		{frac(8, 1), -3, frac(1, 125)},
		{frac(-125, 1), -3, frac(-1, 8)},
		{frac(1, 1), 18, frac(1000000000000000000, 1)},
		{frac(1, 1), -18, frac(1, 1000000000000000000)},
		{frac(0, 1), 0, frac(0, 1)},
		{frac(0, 1), 1, frac(0, 1)},
		{frac(0, 1), -1, frac(0, 1)},
		{frac(0, 1), mostScale, frac(0, 1)},
		{frac(0, 1), -mostScale, frac(0, 1)},
		{frac(1, 1), mostScale, bigWhole(bigPower(10, mostScale))},
		{frac(-1, 1), -mostScale, inverse(bigWhole(new(big.Int).Neg(bigPower(10, mostScale))))},
		{bigWhole(bigPower(10, mostScale)), -mostScale, frac(1, 1)},
		{inverse(bigWhole(bigPower(10, mostScale))), mostScale, frac(1, 1)},
		{bigWhole(bigPower(2, mostScale)), -mostScale, inverse(bigWhole(bigPower(5, mostScale)))},
		{inverse(bigWhole(bigPower(5, mostScale))), mostScale, bigWhole(bigPower(2, mostScale))},
	} {
		got, e := power.Scale(c.a, c.n)
		if e != api.OK || !alike(got, c.want) {
			t.Errorf("Scale(%v, %d) = %v, %d, want %v", c.a, c.n, got, e, c.want)
		}
	}
}

func TestScaleAllExponents(t *testing.T) {
	for i, a := range right() {
		for n := -mostScale - 3; n <= mostScale+3; n++ {
			// Every exponent by some numbers, and the ends by all.
			if i%9 == 0 || max(n, -n)%23 == 0 || max(n, -n) <= 4 || max(n, -n) >= mostScale-4 {
				checkScale(t, a, n)
			}
		}
		for _, n := range extremes() {
			checkScale(t, a, n)
		}
	}
}

// Tops and bottoms that have factors of 2, of 5 and of 10 in common with the power of ten: fewer than it, as many, and more.
func TestScaleOfFactorsInCommon(t *testing.T) {
	exponents := []int{0, 1, 2, 30, 31, 32, 33, 64, 200, 259, 260, 261}
	for _, v := range []int64{2, 5, 10} {
		for _, k := range exponents {
			for _, times := range []int64{1, 3, 7, 1 << 40, 1000003} {
				whole := bigWhole(new(big.Int).Mul(bigPower(v, k), big.NewInt(times)))
				for _, a := range signs(whole) {
					for _, n := range exponents {
						checkScale(t, a, n)
						checkScale(t, a, -n)
					}
				}
			}
		}
	}
}

// For each exponent: the greatest number that is not too great once scaled, and the next one, that is.
func TestScaleAtTheLimit(t *testing.T) {
	for n := 1; n <= mostScale; n++ {
		fits := new(big.Int).Quo(greatest(), bigPower(10, n))
		over := new(big.Int).Add(fits, big.NewInt(1))
		wantScale(t, bigWhole(fits), n, api.OK)
		wantScale(t, bigWhole(over), n, api.ErrLimit)
		wantScale(t, inverse(bigWhole(fits)), -n, api.OK)
		wantScale(t, inverse(bigWhole(over)), -n, api.ErrLimit)
		wantScale(t, minus(bigWhole(fits)), n, api.OK)
		wantScale(t, minus(bigWhole(over)), n, api.ErrLimit)
		wantScale(t, minus(inverse(bigWhole(fits))), -n, api.OK)
		wantScale(t, minus(inverse(bigWhole(over))), -n, api.ErrLimit)
	}
}

// What counts is how many limbs are left, when no divisor is in common.
func TestScaleAtTheLimitOfWhatIsLeft(t *testing.T) {
	for _, factors := range [][2]int64{{2, 5}, {5, 2}} {
		gone, left := factors[0], factors[1]
		for n := 1; n <= mostScale; n += 7 {
			fits := new(big.Int).Quo(greatest(), bigPower(left, n))
			for new(big.Int).GCD(nil, nil, fits, big.NewInt(10)).Cmp(big.NewInt(1)) != 0 {
				fits.Sub(fits, big.NewInt(1))
			}
			over := new(big.Int).Add(fits, big.NewInt(10))
			wantScale(t, bigFrac(fits, bigPower(gone, n)), n, api.OK)
			wantScale(t, bigFrac(over, bigPower(gone, n)), n, api.ErrLimit)
			wantScale(t, bigFrac(bigPower(gone, n), fits), -n, api.OK)
			wantScale(t, bigFrac(bigPower(gone, n), over), -n, api.ErrLimit)
		}
	}
	for _, top := range []*big.Int{greatest(), twoTo(mostBits-1, 1)} {
		for _, n := range []int{1, 2, 100, mostScale - 1, mostScale} {
			a := bigFrac(top, bigPower(10, n))
			wantScale(t, a, n, api.OK)
			wantScale(t, inverse(a), -n, api.OK)
			if n < mostScale {
				wantScale(t, a, n+1, api.ErrLimit)
				wantScale(t, inverse(a), -n-1, api.ErrLimit)
			}
		}
	}
}

// wantScale holds Scale's answer against the library's, and asks whether it ends so.
func wantScale(t *testing.T, a api.Rat, n int, want api.Errno) {
	t.Helper()
	checkScale(t, a, n)
	if _, e := power.Scale(a, n); e != want {
		t.Errorf("Scale(%v, %d): error %d, want %d", a, n, e, want)
	}
}

func TestRandomNumbers(t *testing.T) {
	r := rand.New(rand.NewSource(8))
	for range 3000 {
		a := randomRight(r, 1+r.Intn(4))
		checkOf(t, a, r.Intn(2*mostPower+11)-mostPower-5)
		checkOf(t, a, r.Intn(41)-20)
		checkScale(t, a, r.Intn(2*mostScale+11)-mostScale-5)
		checkScale(t, a, r.Intn(41)-20)
	}
	for range 300 {
		a := randomRight(r, api.MaxLimbs)
		checkOf(t, a, r.Intn(9)-4)
		checkScale(t, a, r.Intn(2*mostScale+11)-mostScale-5)
		checkOf(t, a, int(r.Uint64()))
		checkScale(t, a, int(r.Uint64()))
	}
}

// random tells limbs, at most n, about half of them such at which carries turn, and perhaps limbs of 0 at the end.
func random(r *rand.Rand, n int) api.Nat {
	out := make(api.Nat, r.Intn(n+1))
	for i := range out {
		out[i] = r.Uint32()
		if r.Intn(2) == 0 {
			out[i] = []uint32{0, 1, math.MaxUint32}[r.Intn(3)]
		}
	}
	return out
}

// randomRight tells a number that may be, with at most n limbs at the top and at the bottom.
func randomRight(r *rand.Rand, n int) api.Rat {
	for {
		top, bottom := toBig(random(r, n)), toBig(random(r, n))
		if r.Intn(2) == 0 {
			top.Neg(top)
		}
		if bottom.Sign() != 0 {
			return bigFrac(top, bottom)
		}
	}
}
