package power_test

import (
	"math/rand"
	"testing"

	"steelyard/api"
	"steelyard/power"
	"steelyard/rat"
)

// result is what a call answers; one that is an error goes on as that error, and lets a law hold.
type result struct {
	a api.Rat
	e api.Errno
}

func (x result) then(do func(a api.Rat) (api.Rat, api.Errno)) result {
	if x.e != api.OK {
		return x
	}
	a, e := do(x.a)
	return result{a, e}
}

func (x result) to(n int) result {
	return x.then(func(a api.Rat) (api.Rat, api.Errno) { return power.Of(a, n) })
}

func (x result) scaled(n int) result {
	return x.then(func(a api.Rat) (api.Rat, api.Errno) { return power.Scale(a, n) })
}

func (x result) times(y result) result {
	return x.then(func(a api.Rat) (api.Rat, api.Errno) {
		return y.then(func(b api.Rat) (api.Rat, api.Errno) { return rat.Mul(a, b) }).parts()
	})
}

func (x result) inverse() result {
	return x.then(func(a api.Rat) (api.Rat, api.Errno) { return rat.Div(rat.Whole(1), a) })
}

func (x result) parts() (api.Rat, api.Errno) {
	return x.a, x.e
}

// law counts how often it was held against numbers, since one of errors alone tells nothing.
type law struct {
	name string
	held int
}

// agree holds two results against each other, unless one of them is an error.
func (l *law) agree(t *testing.T, x, y result, a api.Rat, of ...int) {
	t.Helper()
	if x.e != api.OK || y.e != api.OK {
		return
	}
	l.held++
	if !alike(x.a, y.a) {
		t.Errorf("%s: of %v, %v: %v, %v", l.name, a, of, x.a, y.a)
	}
}

func (l *law) wantHeld(t *testing.T, least int) {
	t.Helper()
	if l.held < least {
		t.Errorf("%s: held against numbers only %d times", l.name, l.held)
	}
}

func of(a api.Rat) result {
	return result{a, api.OK}
}

func lawNumbers() []api.Rat {
	r := rand.New(rand.NewSource(80))
	all := []api.Rat{
		frac(0, 1), frac(1, 1), frac(-1, 1), frac(2, 1), frac(-10, 1), frac(1, 2), frac(2, 3), frac(-3, 2), frac(-5, 6), frac(1, 10), frac(1<<33, 7), frac(-7, 1<<33),
		bigWhole(twoTo(mostBits-1, 0)), minus(bigWhole(greatest())), bigFrac(twoTo(mostBits/2, 1), twoTo(mostBits/2, -1)),
	}
	for range 4 {
		all = append(all, randomRight(r, 2), randomRight(r, 12))
	}
	return all
}

// lawExponents tells few exponents, the ends among them.
func lawExponents() []int {
	return []int{0, 1, -1, 2, -2, 3, -3, 5, -6, 8, -8, 11, 16, -17, 31, 32, 33, -64, 64, 97, mostPower - 1, mostPower, -mostPower}
}

func TestPowerByASum(t *testing.T) {
	sum, less := law{name: "a power by a sum"}, law{name: "a power by a difference"}
	for _, a := range lawNumbers() {
		x := of(a)
		for _, m := range lawExponents() {
			for _, n := range lawExponents() {
				sum.agree(t, x.to(m+n), x.to(m).times(x.to(n)), a, m, n)
				less.agree(t, x.to(m-n), x.to(m).times(x.to(n).inverse()), a, m, n)
			}
		}
	}
	sum.wantHeld(t, 1000)
	less.wantHeld(t, 1000)
}

func TestPowerOfAPower(t *testing.T) {
	l := law{name: "a power's power"}
	for _, a := range lawNumbers() {
		x := of(a)
		for _, m := range lawExponents() {
			for _, n := range lawExponents() {
				l.agree(t, x.to(m*n), x.to(m).to(n), a, m, n)
			}
		}
	}
	l.wantHeld(t, 1000)
}

func TestPowerOfAProduct(t *testing.T) {
	l := law{name: "a product's power"}
	for _, a := range lawNumbers() {
		for _, b := range lawNumbers() {
			x, y := of(a), of(b)
			for _, n := range lawExponents() {
				l.agree(t, x.times(y).to(n), x.to(n).times(y.to(n)), a, n)
			}
		}
	}
	l.wantHeld(t, 1000)
}

// Here an error on one side is one on the other: what is too great at the top is so at the bottom.
func TestPowerByTheNegative(t *testing.T) {
	for _, a := range append(lawNumbers(), right()...) {
		for n := 0; n <= mostPower; n++ {
			x, y := of(a).to(-n), of(a).to(n).inverse()
			if x.e != y.e || !alike(x.a, y.a) {
				t.Errorf("Of(%v, %d) = %v, %d, and 1 by that by %d: %v, %d", a, -n, x.a, x.e, n, y.a, y.e)
			}
		}
	}
}

// A power is as many factors, multiplied one by one.
func TestPowerStepByStep(t *testing.T) {
	for _, a := range lawNumbers() {
		want := of(frac(1, 1))
		for n := 0; n <= mostPower; n++ {
			x := of(a).to(n)
			if x.e != want.e || !alike(x.a, want.a) {
				t.Errorf("Of(%v, %d) = %v, %d, want %v, %d", a, n, x.a, x.e, want.a, want.e)
			}
			want = want.times(of(a))
		}
	}
}

func TestScaleThereAndBack(t *testing.T) {
	back, ten, sum := law{name: "scaled by n and by its negative"}, law{name: "scaled and times a power of ten"}, law{name: "scaled by a sum"}
	for _, a := range append(lawNumbers(), right()...) {
		x := of(a)
		for n := -mostScale; n <= mostScale; n += 25 {
			back.agree(t, x.scaled(n).scaled(-n), x, a, n)
			sum.agree(t, x.scaled(n+1), x.scaled(n).scaled(1), a, n)
			sum.agree(t, x.scaled(0), x.scaled(n).scaled(-n), a, n)
		}
		for _, n := range lawExponents() {
			ten.agree(t, x.scaled(n), x.times(of(frac(10, 1)).to(n)), a, n)
			ten.agree(t, x.scaled(n), x.times(of(frac(1, 10)).to(-n)), a, n)
		}
	}
	back.wantHeld(t, 1000)
	ten.wantHeld(t, 1000)
	sum.wantHeld(t, 1000)
}
