package rat_test

import (
	"math"
	"math/big"
	"math/rand"
	"slices"
	"testing"

	"steelyard/api"
	"steelyard/nat"
	"steelyard/rat"
	"steelyard/whole"
)

func TestGood(t *testing.T) {
	for _, a := range []api.Rat{
		{Bottom: api.Nat{1}},
		{Top: api.Int{Mag: api.Nat{}}, Bottom: api.Nat{1}},
		{Top: api.Int{Mag: api.Nat{1}}, Bottom: api.Nat{1}},
		{Top: api.Int{Neg: true, Mag: api.Nat{1}}, Bottom: api.Nat{1}},
		{Top: api.Int{Mag: api.Nat{3}}, Bottom: api.Nat{2}},
		{Top: api.Int{Neg: true, Mag: api.Nat{0, 1}}, Bottom: api.Nat{full}},
		{Top: api.Int{Mag: api.Nat{1}}, Bottom: api.Nat{0, 0, 1}},
		{Top: api.Int{Mag: long(api.MaxLimbs, full)}, Bottom: api.Nat{1}},
		{Top: api.Int{Neg: true, Mag: long(api.MaxLimbs, full)}, Bottom: append(long(api.MaxLimbs-1, 0), 1)},
		{Top: api.Int{Mag: api.Nat{1}}, Bottom: long(api.MaxLimbs, full)},
	} {
		if !rat.Good(a) || !mayBe(a) {
			t.Errorf("%v may not be", a)
		}
	}
	for _, a := range wrong() {
		if rat.Good(a) || mayBe(a) {
			t.Errorf("%v may be", a)
		}
	}
}

func TestGoodOfAllForms(t *testing.T) {
	for _, a := range forms() {
		checkOne(t, a)
	}
}

// A divisor in common is found however long it is, and so is that there is none.
func TestGoodOfLongDivisors(t *testing.T) {
	for _, n := range []uint{1, 31, 32, 33, 500, 1000, 32*api.MaxLimbs - 3} {
		for _, more := range []int64{0, 1, -1} {
			divisor := power(n, more)
			three, five := new(big.Int).Mul(divisor, big.NewInt(3)), new(big.Int).Mul(divisor, big.NewInt(5))
			checkOne(t, api.Rat{Top: api.Int{Mag: fromBig(three)}, Bottom: fromBig(five)})
			checkOne(t, api.Rat{Top: api.Int{Neg: true, Mag: fromBig(divisor)}, Bottom: fromBig(divisor)})
			three.Add(three, big.NewInt(1))
			checkOne(t, api.Rat{Top: api.Int{Mag: fromBig(three)}, Bottom: fromBig(divisor)})
			checkOne(t, api.Rat{Top: api.Int{Neg: true, Mag: fromBig(divisor)}, Bottom: fromBig(three)})
		}
	}
}

func TestGoodOfManyLimbs(t *testing.T) {
	for _, top := range []int{0, 1, api.MaxLimbs - 1, api.MaxLimbs, api.MaxLimbs + 1, api.MaxLimbs + 2, 2 * api.MaxLimbs, 20 * api.MaxLimbs} {
		for _, bottom := range []int{0, 1, api.MaxLimbs - 1, api.MaxLimbs, api.MaxLimbs + 1, api.MaxLimbs + 2, 2 * api.MaxLimbs, 20 * api.MaxLimbs} {
			for _, neg := range []bool{false, true} {
				// One limb of 1 and all others 0 have no divisor in common with limbs that are all set.
				checkOne(t, api.Rat{Top: api.Int{Neg: neg, Mag: long(top, full)}, Bottom: append(long(bottom, 0), 1)})
				checkOne(t, api.Rat{Top: api.Int{Neg: neg, Mag: append(long(top, 0), 1)}, Bottom: long(bottom, full)})
			}
		}
	}
}

func TestOf(t *testing.T) {
	for _, c := range []struct {
		top    api.Int
		bottom api.Nat
		want   api.Rat
	}{
		{whole.Of(6), nat.Of(4), frac(3, 2)},
		{whole.Of(-6), nat.Of(4), frac(-3, 2)},
		{whole.Of(4), nat.Of(6), frac(2, 3)},
		{whole.Of(3), nat.Of(2), frac(3, 2)},
		{whole.Of(7), nat.Of(7), frac(1, 1)},
		{whole.Of(-7), nat.Of(7), frac(-1, 1)},
		{whole.Of(8), nat.Of(2), frac(4, 1)},
		{whole.Of(2), nat.Of(8), frac(1, 4)},
		{whole.Of(0), nat.Of(1), frac(0, 1)},
		{whole.Of(0), nat.Of(7), frac(0, 1)},
		{api.Int{Neg: true}, nat.Of(7), frac(0, 1)},
		{api.Int{Neg: true, Mag: api.Nat{0, 0}}, api.Nat{0, 6, 0}, frac(0, 1)},
		{api.Int{Neg: true, Mag: api.Nat{6, 0, 0}}, api.Nat{4, 0}, frac(-3, 2)},
		{api.Int{Mag: api.Nat{0, 6}}, api.Nat{0, 4, 0}, frac(3, 2)},
		{whole.Of(1 << 40), nat.Of(1 << 38), frac(4, 1)},
		{whole.Of(math.MinInt64), nat.Of(math.MaxUint64), form(new(big.Rat).SetFrac(power(63, 0), new(big.Int).Neg(power(64, -1))))},
		{whole.Of(math.MinInt64), nat.Of(1 << 63), frac(-1, 1)},
	} {
		got, e := rat.Of(c.top, c.bottom)
		if e != api.OK || !alike(got, c.want) {
			t.Errorf("Of(%v, %v) = %v, %d, want %v", c.top, c.bottom, got, e, c.want)
		}
	}
}

func TestOfAllForms(t *testing.T) {
	for _, a := range append(forms(), wrong()...) {
		checkOf(t, a)
	}
}

// A bottom of 0 is told ahead of a top that is too long.
func TestOfByNothing(t *testing.T) {
	for _, bottom := range []api.Nat{nil, {}, {0}, {0, 0, 0}, long(2*api.MaxLimbs, 0)} {
		for _, top := range []api.Nat{nil, {}, {0}, {1}, {6, 0}, long(api.MaxLimbs, full), long(api.MaxLimbs+1, full), long(500, full)} {
			for _, neg := range []bool{false, true} {
				a, e := rat.Of(api.Int{Neg: neg, Mag: top}, bottom)
				wantError(t, a, e, api.ErrZero, "Of", api.Rat{Top: api.Int{Neg: neg, Mag: top}, Bottom: bottom})
			}
		}
	}
}

// However long a 0's bottom is, and however many limbs of 0 stand at an end, the number is not too great.
func TestOfLongBottomsAndEnds(t *testing.T) {
	for _, top := range []api.Int{{}, {Neg: true, Mag: api.Nat{0}}, {Neg: true, Mag: long(500, 0)}} {
		for _, bottom := range []api.Nat{{5}, long(api.MaxLimbs, full), long(api.MaxLimbs+1, full), append(long(400, 7), 0)} {
			checkOf(t, api.Rat{Top: top, Bottom: bottom})
		}
	}
	ends := long(3*api.MaxLimbs, 0)
	for _, a := range right() {
		top, bottom := slices.Concat(a.Top.Mag, ends), slices.Concat(a.Bottom, ends)
		got, e := rat.Of(api.Int{Neg: a.Top.Neg, Mag: top}, bottom)
		wantNumber(t, got, e, value(a), "Of", a)
	}
}

// What counts is how many limbs are left, when no divisor is in common.
func TestOfAtTheLimit(t *testing.T) {
	const most = 32 * api.MaxLimbs
	ends := []*big.Int{big.NewInt(1), big.NewInt(3), power(most-1, 0), power(most-1, 1), power(most, -1), power(most, 0), power(most, 1), power(most+31, 1), power(most+32, 1)}
	divisors := []*big.Int{big.NewInt(1), big.NewInt(2), power(32, 0), power(1000, -1), power(most+5, 1), power(3*most, -1)}
	for _, x := range ends {
		for _, y := range ends {
			for _, d := range divisors {
				top, bottom := new(big.Int).Mul(x, d), new(big.Int).Mul(y, d)
				for _, neg := range []bool{false, true} {
					checkOf(t, api.Rat{Top: api.Int{Neg: neg, Mag: fromBig(top)}, Bottom: fromBig(bottom)})
				}
			}
		}
	}
}

func TestOfVeryLongNumbers(t *testing.T) {
	const limbs = 20 * api.MaxLimbs
	great := long(limbs, full)
	for _, a := range []api.Rat{
		{Top: api.Int{Mag: great}, Bottom: great},
		{Top: api.Int{Neg: true, Mag: great}, Bottom: append(slices.Clone(great), 0, 0)},
		{Top: api.Int{Neg: true, Mag: mulSmall(great, 6)}, Bottom: mulSmall(great, 4)},
		{Top: api.Int{Mag: great}, Bottom: api.Nat{7}},
		{Top: api.Int{Mag: great}, Bottom: append(long(limbs, 0), 1)},
		{Top: api.Int{Mag: api.Nat{1}}, Bottom: great},
		{Top: api.Int{Mag: great}, Bottom: long(limbs/2, full)},
	} {
		checkOf(t, a)
	}
}

func mulSmall(a api.Nat, v int64) api.Nat {
	return fromBig(new(big.Int).Mul(toBig(a), big.NewInt(v)))
}

func TestWhole(t *testing.T) {
	for _, v := range []int64{
		0, 1, -1, 2, -2, 10, -10, full, -full, 1 << 32, -1 << 32, 1<<32 + 1, -1<<32 - 1,
		math.MaxInt64, math.MaxInt64 - 1, math.MinInt64, math.MinInt64 + 1,
	} {
		a := rat.Whole(v)
		if !alike(a, frac(v, 1)) || !rat.Good(a) {
			t.Errorf("Whole(%d) = %v", v, a)
		}
		checkOne(t, a)
	}
	if least := rat.Whole(math.MinInt64); !least.Top.Neg || !slices.Equal(least.Top.Mag, api.Nat{0, 1 << 31}) || !slices.Equal(least.Bottom, api.Nat{1}) {
		t.Errorf("the least: %v", least)
	}
	if zero := rat.Whole(0); zero.Top.Neg || len(zero.Top.Mag) != 0 || !slices.Equal(zero.Bottom, api.Nat{1}) {
		t.Errorf("0: %v", zero)
	}
}

func TestSignNegCmpSame(t *testing.T) {
	rising := []api.Rat{
		minus(twoTo(32*api.MaxLimbs, -1)), frac(-1<<40, 3), frac(-2, 1), frac(-3, 2), frac(-1, 1), frac(-2, 3), frac(-1, 2), frac(-1, 3), minus(inverse(twoTo(2000, 0))),
		frac(0, 1),
		inverse(twoTo(2000, 0)), frac(1, 3), frac(1, 2), frac(2, 3), frac(1, 1), frac(3, 2), frac(2, 1), frac(1<<40, 3), twoTo(32*api.MaxLimbs, -1),
	}
	zero := len(rising) / 2
	for i, a := range rising {
		if got, want := rat.Sign(a), sign(i-zero); got != want {
			t.Errorf("Sign(%v) = %d, want %d", a, got, want)
		}
		if got := rat.Neg(a); !alike(got, rising[len(rising)-1-i]) {
			t.Errorf("Neg(%v) = %v", a, got)
		}
		for k, b := range rising {
			if got := rat.Cmp(a, b); got != sign(i-k) {
				t.Errorf("Cmp(%v, %v) = %d, want %d", a, b, got, sign(i-k))
			}
			if got := rat.Same(a, b); got != (i == k) {
				t.Errorf("Same(%v, %v) = %v", a, b, got)
			}
		}
	}
}

func sign(v int) int {
	return max(-1, min(1, v))
}

// Numbers that part in one limb, at the top or at the bottom, are not the same, and one of them is below.
func TestNumbersThatPartInOneLimb(t *testing.T) {
	const limbs = api.MaxLimbs
	all := []api.Nat{long(limbs, 7)}
	for _, at := range []int{0, limbs / 2, limbs - 1} {
		for _, limb := range []uint32{6, 8, full} {
			a := long(limbs, 7)
			a[at] = limb
			all = append(all, a)
		}
	}
	bottom := append(long(limbs-1, 0), 1)
	for _, x := range all {
		for _, y := range all {
			for _, neg := range []bool{false, true} {
				a := form(new(big.Rat).SetFrac(signedBig(api.Int{Neg: neg, Mag: x}), toBig(bottom)))
				b := form(new(big.Rat).SetFrac(signedBig(api.Int{Neg: neg, Mag: y}), toBig(bottom)))
				checkPair(t, a, b)
				if len(a.Top.Mag) > 0 && len(b.Top.Mag) > 0 {
					checkPair(t, inverse(a), inverse(b))
				}
			}
		}
	}
}

func TestOperations(t *testing.T) {
	for _, c := range []struct {
		do         func(a, b api.Rat) (api.Rat, api.Errno)
		a, b, want api.Rat
	}{
		{rat.Add, frac(1, 2), frac(1, 3), frac(5, 6)},
		{rat.Add, frac(1, 6), frac(1, 3), frac(1, 2)},
		{rat.Add, frac(1, 2), frac(-1, 2), frac(0, 1)},
		{rat.Add, frac(-1, 2), frac(-1, 2), frac(-1, 1)},
		{rat.Sub, frac(1, 2), frac(1, 3), frac(1, 6)},
		{rat.Sub, frac(1, 3), frac(1, 2), frac(-1, 6)},
		{rat.Sub, frac(1, 2), frac(-1, 3), frac(5, 6)},
		{rat.Sub, frac(-5, 7), frac(-5, 7), frac(0, 1)},
		{rat.Mul, frac(2, 3), frac(3, 4), frac(1, 2)},
		{rat.Mul, frac(-2, 3), frac(3, 2), frac(-1, 1)},
		{rat.Mul, frac(-2, 3), frac(-3, 4), frac(1, 2)},
		{rat.Mul, frac(-2, 3), frac(0, 1), frac(0, 1)},
		{rat.Div, frac(2, 3), frac(4, 3), frac(1, 2)},
		{rat.Div, frac(2, 3), frac(-4, 3), frac(-1, 2)},
		{rat.Div, frac(-2, 3), frac(4, 3), frac(-1, 2)},
		{rat.Div, frac(-2, 3), frac(-4, 3), frac(1, 2)},
		{rat.Div, frac(0, 1), frac(-4, 3), frac(0, 1)},
	} {
		got, e := c.do(c.a, c.b)
		if e != api.OK || !alike(got, c.want) {
			t.Errorf("%v and %v: %v, %d, want %v", c.a, c.b, got, e, c.want)
		}
	}
}

func TestSmallNumbers(t *testing.T) {
	var all []api.Rat
	for bottom := int64(1); bottom <= 8; bottom++ {
		for top := int64(-9); top <= 9; top++ {
			all = append(all, frac(top, bottom))
		}
	}
	for _, a := range all {
		checkOne(t, a)
		for _, b := range all {
			checkPair(t, a, b)
		}
	}
}

func TestSmallAndGreatNumbers(t *testing.T) {
	all := right()
	for _, a := range all {
		checkOne(t, a)
		for _, b := range all {
			checkPair(t, a, b)
		}
	}
}

func TestNumbersOfFewLimbs(t *testing.T) {
	var all []api.Rat
	for i, a := range forms() {
		if i%7 == 0 || mayBe(a) && i%3 == 0 {
			all = append(all, a)
		}
	}
	for _, a := range all {
		for _, b := range all {
			checkPair(t, a, b)
		}
	}
}

func TestRandomNumbers(t *testing.T) {
	r := rand.New(rand.NewSource(7))
	for range 3000 {
		a, b := randomRight(r, 4), randomRight(r, 4)
		checkOne(t, a)
		checkPair(t, a, b)
		checkOf(t, randomForm(r, 4))
	}
	for range 150 {
		a, b := randomRight(r, api.MaxLimbs), randomRight(r, api.MaxLimbs)
		checkOne(t, a)
		checkPair(t, a, b)
		checkOf(t, randomForm(r, 3*api.MaxLimbs))
	}
}
