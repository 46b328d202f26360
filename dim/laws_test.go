package dim_test

import (
	"math/rand"
	"testing"

	"steelyard/api"
	"steelyard/dim"
)

// result is what a call answers; one that is an error goes on as that error, and lets a law hold.
type result struct {
	d api.Dim
	e api.Errno
}

func of(d api.Dim) result {
	return result{d, api.OK}
}

func (x result) with(y result, do func(a, b api.Dim) (api.Dim, api.Errno)) result {
	switch {
	case x.e != api.OK:
		return x
	case y.e != api.OK:
		return y
	}
	d, e := do(x.d, y.d)
	return result{d, e}
}

func (x result) times(y result) result {
	return x.with(y, dim.Mul)
}

func (x result) by(y result) result {
	return x.with(y, dim.Div)
}

func (x result) to(n int) result {
	return x.with(x, func(a, _ api.Dim) (api.Dim, api.Errno) { return dim.Pow(a, n) })
}

// law counts how often it was held against dimensions, since one of errors alone tells nothing.
type law struct {
	name string
	held int
}

// agree holds two results against each other, unless one of them is an error.
func (l *law) agree(t *testing.T, x, y result, given ...any) {
	t.Helper()
	if x.e != api.OK || y.e != api.OK {
		return
	}
	l.held++
	if x.d != y.d {
		t.Errorf("%s: of %v: %v, %v", l.name, given, x.d, y.d)
	}
}

func (l *law) wantHeld(t *testing.T, least int) {
	t.Helper()
	if l.held < least {
		t.Errorf("%s: held against dimensions only %d times", l.name, l.held)
	}
}

func lawDims() []api.Dim {
	dims := []api.Dim{none, {1, 1, -2}, {2, 1, -3, -1}, {1, 2, 3, 4, 5, 6, 7}, all(1), all(-1), all(100), all(-100), all(most), all(-most)}
	for place := range api.Dims {
		dims = append(dims, alone(place, 1), alone(place, -1), alone(place, most))
	}
	r := rand.New(rand.NewSource(110))
	for i := range 60 {
		dims = append(dims, random(r, []int{2, 10, 66, most}[i%4]))
	}
	return dims
}

// What is told is told whole and may be, or it is an error.
func TestAnswersMayBe(t *testing.T) {
	for _, a := range lawDims() {
		for _, b := range lawDims() {
			for _, x := range []result{of(a).times(of(b)), of(a).by(of(b)), of(a).to(b[0])} {
				if x.e == api.OK && !dim.Good(x.d) || x.e != api.OK && (x.e != api.ErrLimit || x.d != none) {
					t.Errorf("of %v and %v: %v, %d", a, b, x.d, x.e)
				}
			}
		}
	}
}

func TestNoDimensionChangesNothing(t *testing.T) {
	for _, a := range lawDims() {
		for _, x := range []result{of(a).times(of(none)), of(none).times(of(a)), of(a).by(of(none)), of(a).to(1)} {
			if x != of(a) {
				t.Errorf("of %v and none: %v, %d", a, x.d, x.e)
			}
		}
		if x := of(a).by(of(a)); x != of(none) {
			t.Errorf("Div(%v, %v) = %v, %d", a, a, x.d, x.e)
		}
		if x := of(a).to(0); x != of(none) {
			t.Errorf("Pow(%v, 0) = %v, %d", a, x.d, x.e)
		}
	}
}

// Every dimension has an inverse that may be, and that is its own power by -1.
func TestInverses(t *testing.T) {
	for _, a := range lawDims() {
		inverse := of(a).to(-1)
		if inverse.e != api.OK || inverse.times(of(a)) != of(none) || of(a).times(inverse) != of(none) {
			t.Errorf("of %v the inverse is %v, %d", a, inverse.d, inverse.e)
		}
		if of(none).by(of(a)) != inverse || inverse.to(-1) != of(a) {
			t.Errorf("of %v the inverse is %v, and none by it %v", a, inverse, of(none).by(of(a)))
		}
	}
}

func TestBothWaysAlike(t *testing.T) {
	for _, a := range lawDims() {
		for _, b := range lawDims() {
			if x, y := of(a).times(of(b)), of(b).times(of(a)); x != y {
				t.Errorf("of %v and %v: %v, %v", a, b, x, y)
			}
			// A quotient is the other one's inverse, both errors or none.
			if x, y := of(a).by(of(b)), of(b).by(of(a)).to(-1); x != y {
				t.Errorf("of %v and %v: %v, %v", a, b, x, y)
			}
			if x, y := of(a).by(of(b)), of(a).times(of(b).to(-1)); x != y {
				t.Errorf("of %v and %v: %v, %v", a, b, x, y)
			}
		}
	}
}

func TestBracketsAreAlike(t *testing.T) {
	products, quotients := law{name: "brackets of products"}, law{name: "brackets of quotients"}
	for _, a := range lawDims() {
		for _, b := range lawDims() {
			for _, c := range lawDims() {
				x, y, z := of(a), of(b), of(c)
				products.agree(t, x.times(y).times(z), x.times(y.times(z)), a, b, c)
				quotients.agree(t, x.by(y).by(z), x.by(y.times(z)), a, b, c)
				quotients.agree(t, x.times(y).by(z), x.times(y.by(z)), a, b, c)
			}
		}
	}
	products.wantHeld(t, 100000)
	quotients.wantHeld(t, 200000)
}

func TestDivBringsBackWhatMulMade(t *testing.T) {
	there, back := law{name: "a product by one of both"}, law{name: "a quotient times what it is by"}
	for _, a := range lawDims() {
		for _, b := range lawDims() {
			x, y := of(a), of(b)
			there.agree(t, x.times(y).by(y), x, a, b)
			there.agree(t, x.times(y).by(x), y, a, b)
			back.agree(t, x.by(y).times(y), x, a, b)
			// There is no other error on the way back.
			if product := x.times(y); product.e == api.OK && (product.by(y) != x || product.by(x) != y) {
				t.Errorf("of %v and %v: %v, %v", a, b, product.by(y), product.by(x))
			}
		}
	}
	there.wantHeld(t, 10000)
	back.wantHeld(t, 5000)
}

func TestPowersGoWithExponents(t *testing.T) {
	sums, products, times := law{name: "a power by a sum"}, law{name: "a power's power"}, law{name: "a product's power"}
	for i, a := range lawDims() {
		for m := -12; m <= 12; m++ {
			for n := -12; n <= 12; n++ {
				sums.agree(t, of(a).to(m).times(of(a).to(n)), of(a).to(m+n), a, m, n)
				sums.agree(t, of(a).to(m).by(of(a).to(n)), of(a).to(m-n), a, m, n)
				products.agree(t, of(a).to(m).to(n), of(a).to(m*n), a, m, n)
			}
			for _, b := range lawDims()[i:] {
				times.agree(t, of(a).times(of(b)).to(m), of(a).to(m).times(of(b).to(m)), a, b, m)
				times.agree(t, of(a).by(of(b)).to(m), of(a).to(m).by(of(b).to(m)), a, b, m)
			}
		}
	}
	sums.wantHeld(t, 20000)
	products.wantHeld(t, 10000)
	times.wantHeld(t, 20000)
}

// A power is a product of so many, as far as that may be.
func TestPowersAreProducts(t *testing.T) {
	for _, a := range lawDims() {
		up, down := of(none), of(none)
		for n := 0; n <= most+2; n++ {
			if x := of(a).to(n); x != up {
				t.Fatalf("Pow(%v, %d) = %v, want %v", a, n, x, up)
			}
			if x := of(a).to(-n); x != down {
				t.Fatalf("Pow(%v, %d) = %v, want %v", a, -n, x, down)
			}
			up, down = up.times(of(a)), down.by(of(a))
		}
	}
}

// Dimensions that are reckoned on two ways are alike by ==, and stand for one key.
func TestAlikeDimensionsAreOne(t *testing.T) {
	joule := of(api.Dim{1, 1, -2}).times(of(api.Dim{1}))
	other := of(api.Dim{0, 1}).times(of(api.Dim{1, 0, -1}).to(2))
	if joule != other || joule.d != (api.Dim{2, 1, -2}) {
		t.Errorf("%v, %v", joule, other)
	}
	seen := map[api.Dim]int{}
	for _, x := range []result{joule, other, of(api.Dim{3, 2, -4}).by(of(api.Dim{1, 1, -2})), of(api.Dim{-2, -1, 2}).to(-1)} {
		seen[x.d]++
	}
	if len(seen) != 1 || seen[joule.d] != 4 {
		t.Errorf("%v", seen)
	}
}

// A text is of one dimension alone.
func TestTextIsOfOneDimensionAlone(t *testing.T) {
	seen := map[string]api.Dim{}
	for _, d := range append(append(lawDims(), right()...), wrong()...) {
		s := dim.Text(d)
		if other, ok := seen[s]; ok && other != d {
			t.Errorf("Text(%v) = %q, as of %v", d, s, other)
		}
		seen[s] = d
	}
}

// Arguments are left as they are, and an answer is the same when it is asked for again, and another one changed.
func TestArgumentsAreLeft(t *testing.T) {
	for _, a := range append(lawDims(), wrong()...) {
		for _, b := range []api.Dim{none, {1, 1, -2}, all(most), all(-most), all(most + 1)} {
			x, y := a, b
			product, e := dim.Mul(x, y)
			quotient, f := dim.Div(x, y)
			power, g := dim.Pow(x, b[0])
			good, s := dim.Good(x), dim.Text(x)
			if x != a || y != b {
				t.Fatalf("%v and %v were changed: %v, %v", a, b, x, y)
			}
			want := [3]result{{product, e}, {quotient, f}, {power, g}}
			product[0], quotient[6], power[3] = 77, 77, 77
			if x != a || y != b {
				t.Fatalf("%v and %v share an answer's memory: %v, %v", a, b, x, y)
			}
			product, e = dim.Mul(x, y)
			quotient, f = dim.Div(x, y)
			power, g = dim.Pow(x, b[0])
			if got := [3]result{{product, e}, {quotient, f}, {power, g}}; got != want {
				t.Errorf("of %v and %v: %v, and then %v", a, b, want, got)
			}
			if dim.Good(x) != good || dim.Text(x) != s {
				t.Errorf("of %v: %v, %q, and then %v, %q", x, good, s, dim.Good(x), dim.Text(x))
			}
		}
	}
}
