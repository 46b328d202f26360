package dim_test

import (
	"math"
	"math/big"
	"math/rand"
	"strings"
	"testing"

	"steelyard/api"
	"steelyard/dim"
)

const most = api.MaxExp

var none = api.Dim{}

// within tells exponents that may be: small ones, the middle, and the ends.
func within() []int {
	return []int{0, 1, -1, 2, -2, 3, -7, 99, 100, -100, 101, -101, 128, -128, most - 1, 1 - most, most, -most}
}

// beyond tells exponents that may not be: one more than may be, and any up to the least and the greatest int, among them such as are small once cut to fewer bits.
func beyond() []int {
	return []int{
		most + 1, -most - 1, most + 2, -most - 2, 255, 256, -256, 257, 2 * most, -2 * most, 5000, 1 << 16, -1 << 16, 1<<16 + 1, math.MaxInt32, math.MinInt32, 1 << 32, -1 << 32, 1<<32 + 1, 1<<32 - 1,
		1 << 62, -1 << 62, 1<<62 + 1, math.MaxInt - most, math.MinInt + most, math.MaxInt - 1, math.MinInt + 1, math.MaxInt, math.MinInt,
	}
}

// alone tells the dimension that has an exponent at one place alone.
func alone(place, exponent int) api.Dim {
	var d api.Dim
	d[place] = exponent
	return d
}

// all tells the dimension that has one exponent at all places.
func all(exponent int) api.Dim {
	var d api.Dim
	for i := range d {
		d[i] = exponent
	}
	return d
}

// put tells d with another exponent at one place.
func put(d api.Dim, place, exponent int) api.Dim {
	d[place] = exponent
	return d
}

// right tells dimensions that may be.
func right() []api.Dim {
	dims := []api.Dim{none, {1, 1, -2}, {2, 1, -3, -1}, {0, 2, 0, 0, -1, 1, most}, {1, 2, 3, 4, 5, 6, 7}, {-7, -6, -5, -4, -3, -2, -1}, {most, -most, most, -most, most, -most, most}, {-most, most, 0, 1, -1, most, -most}}
	for _, exponent := range within() {
		dims = append(dims, all(exponent))
		for place := range api.Dims {
			dims = append(dims, alone(place, exponent))
		}
	}
	return dims
}

// wrong tells dimensions that may not be, each place's exponent alone the reason, and all together.
func wrong() []api.Dim {
	dims := []api.Dim{{most + 1, -most - 1}, {math.MaxInt, math.MinInt, 1}, {0, 0, 0, math.MinInt, 0, 0, math.MaxInt}}
	for _, exponent := range beyond() {
		dims = append(dims, all(exponent))
		for place := range api.Dims {
			dims = append(dims, alone(place, exponent), put(api.Dim{1, 1, -2}, place, exponent), put(all(most), place, exponent), put(all(-most), place, exponent))
		}
	}
	return dims
}

// mayBe asks what dim.Good is to answer, by the document's words.
func mayBe(d api.Dim) bool {
	for _, exponent := range d {
		if exponent < -most || exponent > most {
			return false
		}
	}
	return true
}

// random tells a dimension that may be, exponents of 0 and at the ends among the others.
func random(r *rand.Rand, size int) api.Dim {
	var d api.Dim
	for i := range d {
		switch r.Intn(4) {
		case 0:
		case 1:
			d[i] = []int{1, -1, size, -size}[r.Intn(4)]
		default:
			d[i] = r.Intn(2*size+1) - size
		}
	}
	return d
}

// reckon tells a's exponents and n times b's together, as the library has them, if they may be.
func reckon(a, b api.Dim, n int) (api.Dim, api.Errno) {
	var out api.Dim
	for i := range out {
		sum := new(big.Int).Mul(big.NewInt(int64(n)), big.NewInt(int64(b[i])))
		sum.Add(sum, big.NewInt(int64(a[i])))
		if sum.CmpAbs(big.NewInt(most)) > 0 {
			return none, api.ErrLimit
		}
		out[i] = int(sum.Int64())
	}
	return out, api.OK
}

// wantMul holds Mul's answer against the library's, or, if one may not be, against ErrArg.
func wantMul(t *testing.T, a, b api.Dim) {
	t.Helper()
	want, wantE := reckon(a, b, 1)
	if !mayBe(a) || !mayBe(b) {
		want, wantE = none, api.ErrArg
	}
	if got, e := dim.Mul(a, b); got != want || e != wantE {
		t.Errorf("Mul(%v, %v) = %v, %d, want %v, %d", a, b, got, e, want, wantE)
	}
}

func wantDiv(t *testing.T, a, b api.Dim) {
	t.Helper()
	want, wantE := reckon(a, b, -1)
	if !mayBe(a) || !mayBe(b) {
		want, wantE = none, api.ErrArg
	}
	if got, e := dim.Div(a, b); got != want || e != wantE {
		t.Errorf("Div(%v, %v) = %v, %d, want %v, %d", a, b, got, e, want, wantE)
	}
}

func wantPow(t *testing.T, a api.Dim, n int) {
	t.Helper()
	want, wantE := reckon(none, a, n)
	if !mayBe(a) {
		want, wantE = none, api.ErrArg
	}
	if got, e := dim.Pow(a, n); got != want || e != wantE {
		t.Errorf("Pow(%v, %d) = %v, %d, want %v, %d", a, n, got, e, want, wantE)
	}
}

// text tells what dim.Text is to answer: the library's digits of each exponent that is neither 0 nor 1.
func text(d api.Dim) string {
	out := ""
	for i, unit := range []string{"m", "kg", "s", "A", "K", "mol", "cd"} {
		if d[i] == 0 {
			continue
		}
		out += " " + unit
		if d[i] != 1 {
			out += "^" + big.NewInt(int64(d[i])).String()
		}
	}
	if out == "" {
		return "1"
	}
	return strings.TrimPrefix(out, " ")
}
