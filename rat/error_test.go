package rat_test

import (
	"math/big"
	"math/rand"
	"testing"

	"steelyard/api"
	"steelyard/rat"
)

const mostBits = 32 * api.MaxLimbs

// Of what may not be, on one side or on both, there is nothing, whatever the other one is.
func TestWrongNumbers(t *testing.T) {
	others := append(right(), wrong()...)
	for _, a := range wrong() {
		checkOne(t, a)
		for _, b := range others {
			checkNothing(t, a, b)
			checkNothing(t, b, a)
		}
	}
}

// That a number may not be is told ahead of a divisor that is 0, and of a number that is too great.
func TestErrArgIsFirst(t *testing.T) {
	zero, great := frac(0, 1), twoTo(mostBits, -1)
	tooLong := api.Rat{Top: api.Int{Mag: fromBig(power(mostBits, 0))}, Bottom: api.Nat{1}}
	tooLongBelow := api.Rat{Top: api.Int{Mag: api.Nat{1}}, Bottom: fromBig(power(mostBits, 0))}
	notTrimmed := api.Rat{Top: api.Int{Mag: append(long(api.MaxLimbs-1, full), 0)}, Bottom: api.Nat{1}}
	for _, p := range [][2]api.Rat{
		{tooLong, zero},
		{notTrimmed, zero},
		{{}, zero},
		{great, {}},
		{great, {Bottom: api.Nat{2}}},
		{great, {Top: api.Int{Neg: true}, Bottom: api.Nat{1}}},
		{great, {Top: api.Int{Mag: api.Nat{0}}, Bottom: api.Nat{1}}},
		{tooLong, tooLong},
		{tooLong, great},
		{tooLongBelow, inverse(great)},
		{notTrimmed, great},
		{tooLong, tooLongBelow},
	} {
		checkNothing(t, p[0], p[1])
		checkNothing(t, p[1], p[0])
	}
}

// A divisor of 0 is told whatever is divided, and no other call tells it.
func TestDivisorOfZero(t *testing.T) {
	zero := rat.Whole(0)
	for _, a := range right() {
		got, e := rat.Div(a, zero)
		wantError(t, got, e, api.ErrZero, "Div", a, zero)
		for _, o := range operations()[:3] {
			got, e := o.do(a, zero)
			wantNumber(t, got, e, o.big(value(a), value(zero)), o.name, a, zero)
		}
	}
}

// limitCase is a call whose answer has just as many limbs as may be, and one whose answer has more.
type limitCase struct {
	name     string
	do       func(a, b api.Rat) (api.Rat, api.Errno)
	fits     [2]api.Rat
	tooGreat [2]api.Rat
}

func limitCases() []limitCase {
	one, half := frac(1, 1), mostBits/2
	most := twoTo(mostBits, -1)
	lower := twoTo(mostBits, -2)
	root, rootBelow := twoTo(uint(half), 0), twoTo(uint(half)-1, 0)
	odd := twoTo(uint(half), -1)
	return []limitCase{
		{"Add, top", rat.Add, [2]api.Rat{lower, one}, [2]api.Rat{most, one}},
		{"Add, top below 0", rat.Add, [2]api.Rat{minus(lower), minus(one)}, [2]api.Rat{minus(one), minus(most)}},
		{"Add, bottom", rat.Add, [2]api.Rat{inverse(odd), inverse(root)}, [2]api.Rat{inverse(odd), inverse(twoTo(uint(half)+1, 0))}},
		{"Add, top of a fraction", rat.Add, [2]api.Rat{twoTo(mostBits-2, 0), frac(1, 2)}, [2]api.Rat{twoTo(mostBits-1, 0), frac(1, 2)}},
		{"Sub, top", rat.Sub, [2]api.Rat{lower, minus(one)}, [2]api.Rat{most, minus(one)}},
		{"Sub, top below 0", rat.Sub, [2]api.Rat{minus(lower), one}, [2]api.Rat{minus(most), one}},
		{"Sub, bottom", rat.Sub, [2]api.Rat{inverse(odd), inverse(root)}, [2]api.Rat{inverse(odd), inverse(twoTo(uint(half)+1, 0))}},
		{"Mul, top", rat.Mul, [2]api.Rat{root, rootBelow}, [2]api.Rat{root, root}},
		{"Mul, top below 0", rat.Mul, [2]api.Rat{minus(root), rootBelow}, [2]api.Rat{root, minus(root)}},
		{"Mul, bottom", rat.Mul, [2]api.Rat{inverse(root), inverse(rootBelow)}, [2]api.Rat{inverse(root), inverse(root)}},
		{"Div, top", rat.Div, [2]api.Rat{root, inverse(rootBelow)}, [2]api.Rat{root, inverse(root)}},
		{"Div, top below 0", rat.Div, [2]api.Rat{root, minus(inverse(rootBelow))}, [2]api.Rat{minus(root), inverse(root)}},
		{"Div, bottom", rat.Div, [2]api.Rat{inverse(root), rootBelow}, [2]api.Rat{inverse(root), root}},
		{"Div, bottom below 0", rat.Div, [2]api.Rat{inverse(root), minus(rootBelow)}, [2]api.Rat{inverse(root), minus(root)}},
	}
}

func TestResultsAtTheLimit(t *testing.T) {
	for _, c := range limitCases() {
		checkPair(t, c.fits[0], c.fits[1])
		got, e := c.do(c.fits[0], c.fits[1])
		if limbs := max(len(got.Top.Mag), len(got.Bottom)); e != api.OK || limbs != api.MaxLimbs {
			t.Errorf("%s: %d, %d limbs", c.name, e, limbs)
		}
		checkPair(t, c.tooGreat[0], c.tooGreat[1])
		got, e = c.do(c.tooGreat[0], c.tooGreat[1])
		wantError(t, got, e, api.ErrLimit, c.name, c.tooGreat[:]...)
	}
}

// What is too long on the way is not, when no divisor is in common any more.
func TestLongOnTheWay(t *testing.T) {
	great := form(new(big.Rat).SetFrac(power(mostBits, -1), power(mostBits, -2)))
	for _, c := range []struct {
		name string
		do   func(a, b api.Rat) (api.Rat, api.Errno)
		a, b api.Rat
		want api.Rat
	}{
		{"Mul", rat.Mul, great, inverse(great), frac(1, 1)},
		{"Mul", rat.Mul, great, minus(inverse(great)), frac(-1, 1)},
		{"Div", rat.Div, great, great, frac(1, 1)},
		{"Div", rat.Div, minus(great), great, frac(-1, 1)},
		{"Sub", rat.Sub, great, great, frac(0, 1)},
		{"Add", rat.Add, great, minus(great), frac(0, 1)},
		{"Add", rat.Add, frac(0, 1), great, great},
		{"Sub", rat.Sub, frac(0, 1), great, minus(great)},
		{"Mul", rat.Mul, great, frac(0, 1), frac(0, 1)},
		{"Div", rat.Div, frac(0, 1), minus(great), frac(0, 1)},
	} {
		got, e := c.do(c.a, c.b)
		if e != api.OK || !alike(got, c.want) {
			t.Errorf("%s of %v, %v = %v, %d, want %v", c.name, c.a, c.b, got, e, c.want)
		}
	}
}

// Whatever it is given, each call ends, and none panics.
func TestAnyLimbs(t *testing.T) {
	r := rand.New(rand.NewSource(77))
	for range 1500 {
		a, b := randomForm(r, 3), randomForm(r, 3)
		checkOne(t, a)
		checkOf(t, a)
		checkPair(t, a, b)
		checkPair(t, a, a)
	}
	for range 200 {
		a, b := randomForm(r, api.MaxLimbs+8), randomForm(r, api.MaxLimbs+8)
		checkOne(t, a)
		checkOf(t, a)
		checkPair(t, a, b)
	}
	ends := long(1<<16, 0)
	for _, a := range []api.Rat{
		{Top: api.Int{Neg: true, Mag: ends}, Bottom: ends},
		{Top: api.Int{Mag: append(ends, 1)}, Bottom: api.Nat{1}},
		{Top: api.Int{Mag: api.Nat{1}}, Bottom: append(ends, 1)},
		{Top: api.Int{Neg: true, Mag: ends}, Bottom: api.Nat{1}},
		{Top: api.Int{Mag: api.Nat{1}}, Bottom: ends},
	} {
		checkOne(t, a)
		checkOf(t, a)
		checkNothing(t, a, frac(1, 3))
		checkNothing(t, frac(1, 3), a)
		checkNothing(t, a, a)
	}
}
