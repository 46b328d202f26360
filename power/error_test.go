package power_test

import (
	"math/big"
	"math/rand"
	"testing"

	"steelyard/api"
	"steelyard/power"
)

// exponents tells those at which an answer's kind turns, and others.
func exponents() []int {
	return append([]int{
		0, 1, -1, 2, -2, 3, -3, 64, -64, mostPower - 1, mostPower, mostPower + 1, 1 - mostPower, -mostPower, -mostPower - 1,
		256, -256, 500, -500, mostScale - 1, mostScale, mostScale + 1, 1 - mostScale, -mostScale, -mostScale - 1,
	}, extremes()...)
}

// Of what may not be ErrArg is told ahead of every other error, whatever the exponent is.
func TestWrongNumbers(t *testing.T) {
	for _, a := range wrong() {
		if mayBe(a) {
			t.Fatalf("%v may be", a)
		}
		for _, n := range exponents() {
			got, e := power.Of(a, n)
			wantError(t, got, e, api.ErrArg, "Of", a, n)
			got, e = power.Scale(a, n)
			wantError(t, got, e, api.ErrArg, "Scale", a, n)
		}
	}
}

func TestExponentsThatAreTooGreat(t *testing.T) {
	ends := append(extremes(), mostScale+1, mostScale+2, -mostScale-1, -mostScale-2)
	for _, a := range right() {
		for _, n := range append(ends, mostPower+1, mostPower+2, -mostPower-1, -mostPower-2, mostScale, -mostScale) {
			got, e := power.Of(a, n)
			wantError(t, got, e, api.ErrLimit, "Of", a, n)
		}
		for _, n := range ends {
			got, e := power.Scale(a, n)
			wantError(t, got, e, api.ErrLimit, "Scale", a, n)
		}
	}
}

// An exponent that is too far below 0 is told ahead of the 0 that it is of; one that is not too far is told of 0 alone, by Of alone.
func TestZero(t *testing.T) {
	zero := frac(0, 1)
	for n := -mostPower - 5; n < 0; n++ {
		want := api.ErrZero
		if n < -mostPower {
			want = api.ErrLimit
		}
		got, e := power.Of(zero, n)
		wantError(t, got, e, want, "Of", zero, n)
	}
	got, e := power.Of(zero, 0)
	if e != api.OK || !alike(got, frac(1, 1)) {
		t.Errorf("Of(0, 0) = %v, %d", got, e)
	}
	for n := 1; n <= mostPower; n++ {
		got, e := power.Of(zero, n)
		if e != api.OK || !alike(got, zero) {
			t.Errorf("Of(0, %d) = %v, %d", n, got, e)
		}
	}
	for n := -mostScale; n <= mostScale; n++ {
		got, e := power.Scale(zero, n)
		if e != api.OK || !alike(got, zero) {
			t.Errorf("Scale(0, %d) = %v, %d", n, got, e)
		}
	}
	// A 0's limbs may be an empty list as well as none.
	empty := api.Rat{Top: api.Int{Mag: api.Nat{}}, Bottom: api.Nat{1}}
	for _, n := range exponents() {
		checkOf(t, empty, n)
		checkScale(t, empty, n)
	}
}

// Numbers that are too great by far, at the top, at the bottom or at both, by any exponent.
func TestNumbersThatAreTooGreat(t *testing.T) {
	great := greatest()
	for _, whole := range []*big.Int{great, twoTo(mostBits-1, 0), twoTo(mostBits/2, 0), twoTo(700, 1)} {
		for _, other := range []*big.Int{big.NewInt(1), twoTo(mostBits, -2), twoTo(40, -3)} {
			for _, a := range signs(bigFrac(whole, other)) {
				for n := 3; n <= mostPower; n++ {
					for _, k := range []int{n, -n} {
						got, e := power.Of(a, k)
						wantError(t, got, e, api.ErrLimit, "Of", a, k)
					}
				}
			}
		}
	}
	for _, a := range signs(bigFrac(great, twoTo(mostBits, -2))) {
		for _, n := range []int{1, 2, 9, 100, mostScale} {
			for _, k := range []int{n, -n} {
				got, e := power.Scale(a, k)
				wantError(t, got, e, api.ErrLimit, "Scale", a, k)
			}
		}
	}
}

// Whatever it is given, each call ends, and none panics.
func TestAnyLimbs(t *testing.T) {
	sizes := []api.Nat{nil, {}, {0}, {0, 0, 0}, {1}, {1, 0}, {2}, {3}, {10}, {10, 0}, {full}, {0, 1}, {1, 1}, {0, 0, 1}, {full, full}, {full, full, 0}}
	for _, top := range sizes {
		for _, bottom := range sizes {
			for _, neg := range []bool{false, true} {
				for _, n := range exponents() {
					checkOf(t, api.Rat{Top: api.Int{Neg: neg, Mag: top}, Bottom: bottom}, n)
					checkScale(t, api.Rat{Top: api.Int{Neg: neg, Mag: top}, Bottom: bottom}, n)
				}
			}
		}
	}
	r := rand.New(rand.NewSource(88))
	for range 2000 {
		a := api.Rat{Top: api.Int{Neg: r.Intn(2) == 0, Mag: random(r, 5)}, Bottom: random(r, 5)}
		checkOf(t, a, int(r.Uint64())>>r.Intn(64))
		checkScale(t, a, int(r.Uint64())>>r.Intn(64))
		a = api.Rat{Top: api.Int{Neg: r.Intn(2) == 0, Mag: random(r, api.MaxLimbs+8)}, Bottom: random(r, api.MaxLimbs+8)}
		checkOf(t, a, r.Intn(7)-3)
		checkScale(t, a, r.Intn(2*mostScale)-mostScale)
	}
}
