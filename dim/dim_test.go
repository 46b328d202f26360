package dim_test

import (
	"math"
	"math/rand"
	"testing"

	"steelyard/api"
	"steelyard/dim"
)

func TestGood(t *testing.T) {
	for _, d := range right() {
		if !dim.Good(d) {
			t.Errorf("Good(%v) = false", d)
		}
	}
	for _, d := range wrong() {
		if dim.Good(d) {
			t.Errorf("Good(%v) = true", d)
		}
	}
}

// Every exponent about the ends, at each place, alone and beside others that may be.
func TestGoodAtTheEnds(t *testing.T) {
	for exponent := -most - 60; exponent <= most+60; exponent++ {
		want := exponent >= -most && exponent <= most
		for place := range api.Dims {
			for _, d := range []api.Dim{alone(place, exponent), put(all(most), place, exponent), put(all(-most), place, exponent), put(api.Dim{1, 1, -2}, place, exponent)} {
				if dim.Good(d) != want {
					t.Errorf("Good(%v) = %v", d, !want)
				}
			}
		}
		if dim.Good(all(exponent)) != want {
			t.Errorf("Good(%v) = %v", all(exponent), !want)
		}
	}
}

func TestMulAndDiv(t *testing.T) {
	force, speed := api.Dim{1, 1, -2}, api.Dim{1, 0, -1}
	for _, c := range []struct {
		a, b, product, quotient api.Dim
	}{
		{none, none, none, none},
		{force, none, force, force},
		{none, force, force, api.Dim{-1, -1, 2}},
		{force, force, api.Dim{2, 2, -4}, none},
		{force, speed, api.Dim{2, 1, -3}, api.Dim{0, 1, -1}},
		{speed, force, api.Dim{2, 1, -3}, api.Dim{0, -1, 1}},
		{api.Dim{1, 2, 3, 4, 5, 6, 7}, api.Dim{7, 6, 5, 4, 3, 2, 1}, all(8), api.Dim{-6, -4, -2, 0, 2, 4, 6}},
		{api.Dim{10, 20, 30, 40, 50, 60, 70}, api.Dim{-1, -2, -3, -4, -5, -6, -7}, api.Dim{9, 18, 27, 36, 45, 54, 63}, api.Dim{11, 22, 33, 44, 55, 66, 77}},
		{all(100), all(100), all(most), none},
		{all(-100), all(-100), all(-most), none},
		{all(100), all(-100), none, all(most)},
		{all(-100), all(100), none, all(-most)},
		{all(most), none, all(most), all(most)},
		{none, all(-most), all(-most), all(most)},
	} {
		if got, e := dim.Mul(c.a, c.b); got != c.product || e != api.OK {
			t.Errorf("Mul(%v, %v) = %v, %d, want %v", c.a, c.b, got, e, c.product)
		}
		if got, e := dim.Div(c.a, c.b); got != c.quotient || e != api.OK {
			t.Errorf("Div(%v, %v) = %v, %d, want %v", c.a, c.b, got, e, c.quotient)
		}
	}
}

func TestMulAndDivOfAllPairs(t *testing.T) {
	for _, a := range right() {
		for _, b := range right() {
			wantMul(t, a, b)
			wantDiv(t, a, b)
		}
	}
}

// Every two exponents that may be, at a place that changes from pair to pair, the others being what they may be at most.
func TestEverySumAndDifference(t *testing.T) {
	for x := -most; x <= most; x++ {
		for y := -most; y <= most; y++ {
			place := ((x+2*y)%api.Dims + api.Dims) % api.Dims
			a, b := alone(place, x), alone(place, y)
			wantMul(t, a, b)
			wantDiv(t, a, b)
			wantMul(t, put(all(most), place, x), b)
			wantDiv(t, put(all(-most), place, x), b)
		}
	}
}

func TestPow(t *testing.T) {
	force := api.Dim{1, 1, -2}
	for _, c := range []struct {
		a    api.Dim
		n    int
		want api.Dim
	}{
		{force, 0, none},
		{force, 1, force},
		{force, -1, api.Dim{-1, -1, 2}},
		{force, 2, api.Dim{2, 2, -4}},
		{force, -3, api.Dim{-3, -3, 6}},
		{force, 100, api.Dim{100, 100, -200}},
		{force, -100, api.Dim{-100, -100, 200}},
		{api.Dim{1, 2, 3, 4, 5, 6, 7}, 28, api.Dim{28, 56, 84, 112, 140, 168, 196}},
		{api.Dim{1, 2, 3, 4, 5, 6, 7}, -28, api.Dim{-28, -56, -84, -112, -140, -168, -196}},
		{none, 0, none},
		{none, 1, none},
		{none, -1, none},
		{none, most + 1, none},
		{none, math.MaxInt, none},
		{none, math.MinInt, none},
		{all(1), most, all(most)},
		{all(1), -most, all(-most)},
		{all(-1), most, all(-most)},
		{all(-1), -most, all(most)},
		{all(most), 1, all(most)},
		{all(most), -1, all(-most)},
		{all(-most), -1, all(most)},
		{all(most), 0, none},
		{all(-most), 0, none},
		{all(20), 10, all(most)},
		{all(20), -10, all(-most)},
	} {
		if got, e := dim.Pow(c.a, c.n); got != c.want || e != api.OK {
			t.Errorf("Pow(%v, %d) = %v, %d, want %v", c.a, c.n, got, e, c.want)
		}
	}
}

// For each exponent: every n about those by which it comes to just what may be, and those far beyond.
func TestEveryProduct(t *testing.T) {
	for exponent := -most; exponent <= most; exponent++ {
		place := (exponent + most) % api.Dims
		for n := -most - 3; n <= most+3; n++ {
			wantPow(t, alone(place, exponent), n)
			wantPow(t, put(all(-1), place, exponent), n)
			wantPow(t, put(all(1), place, exponent), n)
		}
		for _, n := range beyond() {
			wantPow(t, alone(place, exponent), n)
			wantPow(t, put(all(exponent), place, 0), n)
		}
	}
}

func TestPowOfAll(t *testing.T) {
	for _, a := range right() {
		for _, n := range append(within(), beyond()...) {
			wantPow(t, a, n)
		}
	}
}

func TestRandomDims(t *testing.T) {
	r := rand.New(rand.NewSource(11))
	for i := range 20000 {
		size := []int{3, 20, 100, most, most + 1, 2 * most}[i%6]
		a, b := random(r, size), random(r, size)
		wantMul(t, a, b)
		wantDiv(t, a, b)
		wantPow(t, a, r.Intn(41)-20)
		wantPow(t, a, int(r.Uint64())>>r.Intn(64))
		if dim.Good(a) != mayBe(a) {
			t.Errorf("Good(%v) = %v", a, dim.Good(a))
		}
		if s := dim.Text(a); s != text(a) {
			t.Errorf("Text(%v) = %q, want %q", a, s, text(a))
		}
	}
}

func TestText(t *testing.T) {
	for _, c := range []struct {
		d    api.Dim
		want string
	}{
		{none, "1"},
		{api.Dim{1}, "m"},
		{api.Dim{0, 1}, "kg"},
		{api.Dim{0, 0, 1}, "s"},
		{api.Dim{0, 0, 0, 1}, "A"},
		{api.Dim{0, 0, 0, 0, 1}, "K"},
		{api.Dim{0, 0, 0, 0, 0, 1}, "mol"},
		{api.Dim{0, 0, 0, 0, 0, 0, 1}, "cd"},
		{api.Dim{-1}, "m^-1"},
		{api.Dim{0, 2}, "kg^2"},
		{api.Dim{0, 0, 10}, "s^10"},
		{api.Dim{0, 0, 0, -200}, "A^-200"},
		{api.Dim{0, 0, 0, 0, -10}, "K^-10"},
		{api.Dim{0, 0, 0, 0, 0, 11}, "mol^11"},
		{api.Dim{0, 0, 0, 0, 0, 0, 100}, "cd^100"},
		{api.Dim{1, 1, -2}, "m kg s^-2"},
		{api.Dim{2, 1, -3, -1}, "m^2 kg s^-3 A^-1"},
		{api.Dim{0, 2, 0, 0, -1, 1, 200}, "kg^2 K^-1 mol cd^200"},
		{api.Dim{1, 0, 0, 0, 0, 0, 1}, "m cd"},
		{all(1), "m kg s A K mol cd"},
		{all(-1), "m^-1 kg^-1 s^-1 A^-1 K^-1 mol^-1 cd^-1"},
		{api.Dim{7, 6, 5, 4, 3, 2, 1}, "m^7 kg^6 s^5 A^4 K^3 mol^2 cd"},
		{all(-most), "m^-200 kg^-200 s^-200 A^-200 K^-200 mol^-200 cd^-200"},
		{api.Dim{201, -201, 5000}, "m^201 kg^-201 s^5000"},
		{api.Dim{0, 0, 0, 0, 0, math.MaxInt64, math.MinInt64}, "mol^9223372036854775807 cd^-9223372036854775808"},
	} {
		if s := dim.Text(c.d); s != c.want {
			t.Errorf("Text(%v) = %q, want %q", c.d, s, c.want)
		}
	}
}

// Exponents of any int are written: the chapter makes no exception for such as may not be.
func TestTextOfAll(t *testing.T) {
	for _, d := range append(right(), wrong()...) {
		if s := dim.Text(d); s != text(d) {
			t.Errorf("Text(%v) = %q, want %q", d, s, text(d))
		}
	}
	for exponent := -1100; exponent <= 1100; exponent++ {
		for place := range api.Dims {
			for _, d := range []api.Dim{alone(place, exponent), put(all(1), place, exponent), put(all(-2), place, exponent)} {
				if s := dim.Text(d); s != text(d) {
					t.Errorf("Text(%v) = %q, want %q", d, s, text(d))
				}
			}
		}
	}
}
