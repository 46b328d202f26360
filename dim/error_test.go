package dim_test

import (
	"math"
	"math/big"
	"testing"

	"steelyard/api"
	"steelyard/dim"
)

// wantError holds an answer against an error, beside which there is the zero dimension.
func wantError(t *testing.T, got api.Dim, e, want api.Errno, what string, of ...any) {
	t.Helper()
	if e != want || got != none {
		t.Errorf("%s of %v = %v, %d, want error %d alone", what, of, got, e, want)
	}
}

// The first, the second or both may not be; with some of them what comes, reckoned exactly or within an int, would be such as may be.
func TestWrongDims(t *testing.T) {
	for _, a := range wrong() {
		for _, b := range append([]api.Dim{a, all(math.MaxInt), all(math.MinInt), alone(6, most+1)}, right()...) {
			got, e := dim.Mul(a, b)
			wantError(t, got, e, api.ErrArg, "Mul", a, b)
			got, e = dim.Mul(b, a)
			wantError(t, got, e, api.ErrArg, "Mul", b, a)
			got, e = dim.Div(a, b)
			wantError(t, got, e, api.ErrArg, "Div", a, b)
			got, e = dim.Div(b, a)
			wantError(t, got, e, api.ErrArg, "Div", b, a)
		}
	}
}

func TestPowOfWrongDims(t *testing.T) {
	for _, a := range wrong() {
		for _, n := range append(within(), beyond()...) {
			got, e := dim.Pow(a, n)
			wantError(t, got, e, api.ErrArg, "Pow", a, n)
		}
	}
}

// At each place, beside others that stay what may be: just what may be, and one more, either way.
func TestLimitOfSumsAndDifferences(t *testing.T) {
	for place := range api.Dims {
		for _, others := range []api.Dim{none, {1, 1, -2}, {1, 2, 3, 4, 5, 6, 7}} {
			for _, x := range []int{1, 2, 3, 99, 100, 101, most - 1, most} {
				fits, minus := put(others, place, most-x), put(others, place, x-most)
				wantFits(t, fits, alone(place, x), place, most, dim.Mul)
				wantFits(t, minus, alone(place, -x), place, -most, dim.Mul)
				wantFits(t, fits, alone(place, -x), place, most, dim.Div)
				wantFits(t, minus, alone(place, x), place, -most, dim.Div)
			}
		}
	}
}

// wantFits asks that the exponent at that place comes to just what may be, and that one more, on either side, is too great.
func wantFits(t *testing.T, a, b api.Dim, place, end int, do func(a, b api.Dim) (api.Dim, api.Errno)) {
	t.Helper()
	got, e := do(a, b)
	if e != api.OK || got != put(a, place, end) {
		t.Errorf("of %v and %v: %v, %d", a, b, got, e)
	}
	if farther := b[place] + sign(b[place]); farther >= -most && farther <= most {
		got, e = do(a, put(b, place, farther))
		wantError(t, got, e, api.ErrLimit, "one more", a, b, place)
	}
	got, e = do(put(a, place, a[place]+sign(end)), b)
	wantError(t, got, e, api.ErrLimit, "one more", a, b, place)
}

func sign(n int) int {
	if n < 0 {
		return -1
	}
	return 1
}

func TestLimitOfAllTogether(t *testing.T) {
	for _, x := range []int{1, 100, most} {
		got, e := dim.Mul(all(most+1-x), all(x))
		wantError(t, got, e, api.ErrLimit, "Mul", most+1-x, x)
		got, e = dim.Mul(all(-most-1+x), all(-x))
		wantError(t, got, e, api.ErrLimit, "Mul", -most-1+x, -x)
		got, e = dim.Div(all(most+1-x), all(-x))
		wantError(t, got, e, api.ErrLimit, "Div", most+1-x, -x)
		got, e = dim.Div(all(-most-1+x), all(x))
		wantError(t, got, e, api.ErrLimit, "Div", -most-1+x, x)
	}
}

// At each place, beside such as stay 0: the n by which an exponent comes to what may be at most, and one more, either way.
func TestLimitOfPowers(t *testing.T) {
	for place := range api.Dims {
		for exponent := 1; exponent <= most; exponent++ {
			n := most / exponent
			for _, v := range []int{exponent, -exponent} {
				for _, k := range []int{n, -n} {
					got, e := dim.Pow(alone(place, v), k)
					if e != api.OK || got != alone(place, v*k) {
						t.Errorf("Pow(%v, %d) = %v, %d", alone(place, v), k, got, e)
					}
					got, e = dim.Pow(alone(place, v), k+sign(k))
					wantError(t, got, e, api.ErrLimit, "Pow", v, k+sign(k))
				}
			}
		}
	}
}

// The product is more than an int holds, though what an int holds of it may be.
func TestProductsThatAnIntDoesNotHold(t *testing.T) {
	held := 0
	for exponent := 1; exponent <= most; exponent++ {
		for _, n := range wrapping(exponent) {
			for _, v := range []int{exponent, -exponent} {
				if product := v * n; product >= -most && product <= most {
					held++
				}
				for place := range api.Dims {
					got, e := dim.Pow(alone(place, v), n)
					wantError(t, got, e, api.ErrLimit, "Pow", v, n)
				}
				got, e := dim.Pow(all(v), n)
				wantError(t, got, e, api.ErrLimit, "Pow", v, n)
			}
		}
	}
	if held < 8000 {
		t.Errorf("only %d products are such as may be within an int", held)
	}
}

// wrapping tells numbers, all too great, of which that exponent's product comes near to 0 within an int.
func wrapping(exponent int) []int {
	var out []int
	bits := 0
	for exponent>>bits&1 == 0 {
		bits++
	}
	whole := new(big.Int).Lsh(big.NewInt(1), uint(64-bits))
	inverse := new(big.Int).ModInverse(big.NewInt(int64(exponent>>bits)), whole)
	for _, near := range []int64{0, 1, -1, 2, -2, 7, most, -most} {
		for turn := range int64(1) << bits {
			n := new(big.Int).Mul(inverse, big.NewInt(near))
			n.Mod(n, whole).Add(n, new(big.Int).Mul(whole, big.NewInt(turn)))
			// The same bits as an int.
			if v := int(n.Uint64()); v > most || v < -most {
				out = append(out, v)
			}
		}
	}
	return out
}

// Sums within an int would turn round too, were what may not be let in.
func TestSumsThatAnIntDoesNotHold(t *testing.T) {
	for place := range api.Dims {
		for _, c := range [][2]int{{math.MaxInt, math.MaxInt}, {math.MinInt, math.MinInt}, {math.MinInt, math.MaxInt}, {math.MaxInt, 1}, {math.MinInt, -1}, {1 << 62, 1 << 62}, {-1 << 62, -1 << 62}, {most + 1, -1}, {-most - 1, 1}} {
			a, b := alone(place, c[0]), alone(place, c[1])
			for _, do := range []func(a, b api.Dim) (api.Dim, api.Errno){dim.Mul, dim.Div} {
				got, e := do(a, b)
				wantError(t, got, e, api.ErrArg, "Mul or Div", a, b)
				got, e = do(b, a)
				wantError(t, got, e, api.ErrArg, "Mul or Div", b, a)
			}
		}
	}
}

// Both errors have their reason: at one place what comes may not be, and at another, or the same one, what is given may not.
func TestWrongIsToldAheadOfTooGreat(t *testing.T) {
	for place := range api.Dims {
		for other := range api.Dims {
			for _, exponent := range []int{most + 1, -most - 1, math.MaxInt, math.MinInt} {
				a, b := put(alone(place, most), other, exponent), alone(place, most)
				got, e := dim.Mul(a, b)
				wantError(t, got, e, api.ErrArg, "Mul", a, b)
				got, e = dim.Mul(b, a)
				wantError(t, got, e, api.ErrArg, "Mul", b, a)
				minus := alone(place, -most)
				got, e = dim.Div(a, minus)
				wantError(t, got, e, api.ErrArg, "Div", a, minus)
				got, e = dim.Div(minus, a)
				wantError(t, got, e, api.ErrArg, "Div", minus, a)
				got, e = dim.Pow(a, 2)
				wantError(t, got, e, api.ErrArg, "Pow", a)
			}
		}
	}
}

// An n of any size leaves exponents of 0; one other exponent beside them makes it too great.
func TestPowersOfZeros(t *testing.T) {
	for _, n := range append(beyond(), most+1, -most-1) {
		if got, e := dim.Pow(none, n); e != api.OK || got != none {
			t.Errorf("Pow of none by %d = %v, %d", n, got, e)
		}
		for place := range api.Dims {
			for _, exponent := range []int{1, -1, 2, 64, most, -most} {
				got, e := dim.Pow(alone(place, exponent), n)
				wantError(t, got, e, api.ErrLimit, "Pow", exponent, n)
				got, e = dim.Pow(put(all(exponent), place, 0), n)
				wantError(t, got, e, api.ErrLimit, "Pow", exponent, n)
			}
		}
	}
}
