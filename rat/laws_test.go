package rat_test

import (
	"math/rand"
	"testing"

	"steelyard/api"
	"steelyard/rat"
)

// result is what an operation answers; one of a result that is an error is that error, and lets a law hold.
type result struct {
	a api.Rat
	e api.Errno
}

func of(a api.Rat) result {
	return result{a, api.OK}
}

// then goes on with what do answers, as far as there was no error.
func (x result) then(do func(a, b api.Rat) (api.Rat, api.Errno), y result) result {
	if x.e != api.OK {
		return x
	}
	if y.e != api.OK {
		return y
	}
	a, e := do(x.a, y.a)
	return result{a, e}
}

func (x result) plus(y result) result    { return x.then(rat.Add, y) }
func (x result) less(y result) result    { return x.then(rat.Sub, y) }
func (x result) times(y result) result   { return x.then(rat.Mul, y) }
func (x result) divided(y result) result { return x.then(rat.Div, y) }

// agree holds two results against each other, unless one of them is an error.
func agree(t *testing.T, what string, x, y result, of ...api.Rat) {
	t.Helper()
	if x.e != api.OK || y.e != api.OK {
		return
	}
	if !rat.Same(x.a, y.a) || !alike(x.a, y.a) || rat.Cmp(x.a, y.a) != 0 {
		t.Errorf("%s: of %v: %v, %v", what, of, x.a, y.a)
	}
}

// equal holds two results against each other, their errors too.
func equal(t *testing.T, what string, x, y result, of ...api.Rat) {
	t.Helper()
	if x.e != y.e || !alike(x.a, y.a) {
		t.Errorf("%s: of %v: %v, %v", what, of, x, y)
	}
}

func lawNumbers() []api.Rat {
	r := rand.New(rand.NewSource(70))
	all := []api.Rat{
		frac(0, 1), frac(1, 1), frac(-1, 1), frac(2, 3), frac(-3, 2), frac(-5, 6), frac(1, 10), frac(1<<33, 7), frac(-7, 1<<33),
		twoTo(mostBits-1, 0), minus(twoTo(mostBits, -1)), inverse(twoTo(mostBits/2, 1)), twoTo(mostBits/2, 1), minus(inverse(twoTo(mostBits, -1))),
	}
	for range 4 {
		all = append(all, randomRight(r, 2), randomRight(r, api.MaxLimbs/3))
	}
	return all
}

func TestLawsOfOne(t *testing.T) {
	zero, one := of(rat.Whole(0)), of(rat.Whole(1))
	for _, a := range append(lawNumbers(), right()...) {
		x, negative := of(a), of(rat.Neg(a))
		equal(t, "Add of 0", x.plus(zero), x, a)
		equal(t, "Add to 0", zero.plus(x), x, a)
		equal(t, "Sub of 0", x.less(zero), x, a)
		equal(t, "Sub from 0", zero.less(x), negative, a)
		equal(t, "Add of Neg", x.plus(negative), zero, a)
		equal(t, "Sub of itself", x.less(x), zero, a)
		equal(t, "Neg of Neg", of(rat.Neg(negative.a)), x, a)
		equal(t, "Mul by 1", x.times(one), x, a)
		equal(t, "Mul of 1", one.times(x), x, a)
		equal(t, "Mul by 0", x.times(zero), zero, a)
		equal(t, "Mul by -1", x.times(of(rat.Whole(-1))), negative, a)
		equal(t, "Div by 1", x.divided(one), x, a)
		if rat.Sign(a) != 0 {
			equal(t, "Div by itself", x.divided(x), one, a)
			equal(t, "Div of 0", zero.divided(x), zero, a)
			equal(t, "inverse of the inverse", one.divided(one.divided(x)), x, a)
			equal(t, "Mul by the inverse", x.times(one.divided(x)), one, a)
		}
		if rat.Cmp(a, a) != 0 || !rat.Same(a, a) || rat.Cmp(a, zero.a) != rat.Sign(a) || rat.Sign(negative.a) != -rat.Sign(a) {
			t.Errorf("%v is not as itself", a)
		}
	}
}

func TestLawsOfTwo(t *testing.T) {
	all := lawNumbers()
	for _, a := range all {
		for _, b := range all {
			x, y := of(a), of(b)
			negative := of(rat.Neg(b))
			equal(t, "sums both ways", x.plus(y), y.plus(x), a, b)
			equal(t, "products both ways", x.times(y), y.times(x), a, b)
			equal(t, "Sub and Add of Neg", x.less(y), x.plus(negative), a, b)
			agree(t, "Sub of Add", x.plus(y).less(y), x, a, b)
			agree(t, "Add of Sub", x.less(y).plus(y), x, a, b)
			if rat.Sign(b) != 0 {
				agree(t, "Div of Mul", x.times(y).divided(y), x, a, b)
				agree(t, "Mul of Div", x.divided(y).times(y), x, a, b)
				agree(t, "Div and Mul by the inverse", x.divided(y), x.times(of(rat.Whole(1)).divided(y)), a, b)
			}
			checkOrder(t, a, b)
		}
	}
}

// checkOrder asks whether order, signs and differences are of one mind.
func checkOrder(t *testing.T, a, b api.Rat) {
	t.Helper()
	order := rat.Cmp(a, b)
	if order != -rat.Cmp(b, a) || order != rat.Cmp(rat.Neg(b), rat.Neg(a)) || (order == 0) != rat.Same(a, b) || rat.Same(a, b) != rat.Same(b, a) {
		t.Errorf("Cmp(%v, %v) = %d", a, b, order)
	}
	if left, e := rat.Sub(a, b); e == api.OK && rat.Sign(left) != order {
		t.Errorf("Cmp(%v, %v) = %d, the difference is %v", a, b, order, left)
	}
	if product, e := rat.Mul(a, b); e == api.OK && rat.Sign(product) != rat.Sign(a)*rat.Sign(b) {
		t.Errorf("Mul(%v, %v) = %v", a, b, product)
	}
}

func TestLawsOfThree(t *testing.T) {
	all := lawNumbers()
	for _, a := range all {
		for _, b := range all {
			for _, c := range all {
				x, y, z := of(a), of(b), of(c)
				agree(t, "brackets of sums", x.plus(y).plus(z), x.plus(y.plus(z)), a, b, c)
				agree(t, "brackets of products", x.times(y).times(z), x.times(y.times(z)), a, b, c)
				agree(t, "products of sums", x.plus(y).times(z), x.times(z).plus(y.times(z)), a, b, c)
				if rat.Cmp(a, b) < 0 && rat.Cmp(b, c) < 0 && rat.Cmp(a, c) >= 0 {
					t.Errorf("%v, %v, %v do not rise", a, b, c)
				}
			}
		}
	}
}
