package power_test

import (
	"encoding/binary"
	"math"
	"math/big"
	"slices"
	"testing"

	"steelyard/api"
	"steelyard/power"
	"steelyard/rat"
)

const (
	full      = math.MaxUint32
	mostBits  = 32 * api.MaxLimbs
	mostPower = 2 * api.MaxPower
	mostScale = 600
)

func toBig(a api.Nat) *big.Int {
	var all []byte
	for _, limb := range slices.Backward(a) {
		all = binary.BigEndian.AppendUint32(all, limb)
	}
	return new(big.Int).SetBytes(all)
}

// fromBig tells v's size, with no limbs of 0 at the end.
func fromBig(v *big.Int) api.Nat {
	var out api.Nat
	mask := big.NewInt(full)
	for rest := new(big.Int).Abs(v); rest.Sign() > 0; rest.Rsh(rest, 32) {
		out = append(out, uint32(new(big.Int).And(rest, mask).Uint64()))
	}
	return out
}

// value tells a number that may be as the library has it.
func value(a api.Rat) *big.Rat {
	top := toBig(a.Top.Mag)
	if a.Top.Neg {
		top.Neg(top)
	}
	return new(big.Rat).SetFrac(top, toBig(a.Bottom))
}

// form tells the one form in which r may be told.
func form(r *big.Rat) api.Rat {
	return api.Rat{Top: api.Int{Neg: r.Sign() < 0, Mag: fromBig(r.Num())}, Bottom: fromBig(r.Denom())}
}

// frac tells top by bottom in that form.
func frac(top, bottom int64) api.Rat {
	return form(big.NewRat(top, bottom))
}

func bigFrac(top, bottom *big.Int) api.Rat {
	return form(new(big.Rat).SetFrac(top, bottom))
}

func bigWhole(v *big.Int) api.Rat {
	return form(new(big.Rat).SetInt(v))
}

// inverse tells 1 by a, which is not 0.
func inverse(a api.Rat) api.Rat {
	return form(new(big.Rat).Inv(value(a)))
}

func minus(a api.Rat) api.Rat {
	return form(new(big.Rat).Neg(value(a)))
}

// signs tells a, its negative, and 1 by each.
func signs(a api.Rat) []api.Rat {
	return []api.Rat{a, minus(a), inverse(a), inverse(minus(a))}
}

// twoTo tells 2 to the n, and so much more.
func twoTo(n uint, more int64) *big.Int {
	out := new(big.Int).Lsh(big.NewInt(1), n)
	return out.Add(out, big.NewInt(more))
}

// bigPower tells v to the n, which is not below 0.
func bigPower(v int64, n int) *big.Int {
	return new(big.Int).Exp(big.NewInt(v), big.NewInt(int64(n)), nil)
}

// greatest tells the greatest number of as many limbs as may be.
func greatest() *big.Int {
	return twoTo(mostBits, -1)
}

// floorRoot tells the greatest number whose power to the n is not above v.
func floorRoot(v *big.Int, n int) *big.Int {
	root := new(big.Int)
	for bit := v.BitLen() / n; bit >= 0; bit-- {
		guess := new(big.Int).SetBit(root, bit, 1)
		if new(big.Int).Exp(guess, big.NewInt(int64(n)), nil).Cmp(v) <= 0 {
			root = guess
		}
	}
	return root
}

// mayBe asks what rat.Good is to answer, by the document's words.
func mayBe(a api.Rat) bool {
	top, bottom := toBig(a.Top.Mag), toBig(a.Bottom)
	switch {
	case !slices.Equal(a.Top.Mag, fromBig(top)) || !slices.Equal(a.Bottom, fromBig(bottom)):
		return false
	case bottom.Sign() == 0 || top.Sign() == 0 && a.Top.Neg:
		return false
	case len(a.Top.Mag) > api.MaxLimbs || len(a.Bottom) > api.MaxLimbs:
		return false
	}
	return new(big.Int).GCD(nil, nil, top, bottom).Cmp(big.NewInt(1)) == 0
}

// alike asks whether two answers are one, limbs of 0 at the end and the sign of a 0 too.
func alike(a, b api.Rat) bool {
	return a.Top.Neg == b.Top.Neg && slices.Equal(a.Top.Mag, b.Top.Mag) && slices.Equal(a.Bottom, b.Bottom)
}

// long tells a size of n limbs that are all v.
func long(n int, v uint32) api.Nat {
	return slices.Repeat(api.Nat{v}, n)
}

// extremes tells exponents that are far beyond what may be, among them such as are small once cut to fewer bits.
func extremes() []int {
	return []int{
		math.MinInt, math.MinInt + 1, math.MinInt + 2, math.MinInt32, math.MinInt32 - 1, -1 << 40, -1<<32 - 2, -1 << 32, -1<<32 + 2, -1 << 16, -1<<16 + 3, -1000000, -2000, -1024,
		math.MaxInt, math.MaxInt - 1, math.MaxInt32, math.MaxInt32 + 1, 1 << 40, 1<<32 + 2, 1 << 32, 1<<32 - 2, 1 << 16, 1<<16 + 3, 1000000, 2000, 1024,
	}
}

// right tells numbers that may be: small and great ones, of both signs, whole ones and others, and those that are as long as may be.
func right() []api.Rat {
	all := []api.Rat{frac(0, 1)}
	for _, a := range []api.Rat{
		frac(1, 1), frac(2, 1), frac(3, 1), frac(10, 1), frac(2, 3), frac(5, 6), frac(4, 25), frac(7, 10), frac(999, 1000), frac(1001, 1000), frac(125, 128),
		frac(1<<15, 1), frac(1<<16-1, 1), frac(1<<16, 1), frac(1<<16+1, 1), frac(full, 1), frac(1<<32, 3), frac(math.MaxInt64, math.MaxInt64-1), frac(1<<62, 1),
		bigWhole(twoTo(mostBits/2, -1)), bigWhole(twoTo(mostBits/2, 0)), bigWhole(greatest()), bigWhole(twoTo(mostBits-1, 0)),
		bigWhole(bigPower(10, mostScale)), bigWhole(bigPower(2, mostScale)), bigWhole(bigPower(5, mostScale)),
		bigFrac(greatest(), twoTo(mostBits, -2)), bigFrac(twoTo(mostBits/2, 1), twoTo(mostBits/2, -1)), bigFrac(bigPower(2, 700), bigPower(5, 300)),
	} {
		all = append(all, signs(a)...)
	}
	return all
}

// wrong tells numbers that may not be: at least one for each way in which that is so.
func wrong() []api.Rat {
	one, two := api.Nat{1}, api.Nat{2}
	return []api.Rat{
		{},
		{Top: api.Int{Neg: true}},
		{Top: api.Int{Mag: one}},
		{Top: api.Int{Mag: one}, Bottom: api.Nat{}},
		{Top: api.Int{Neg: true, Mag: one}, Bottom: api.Nat{0}},
		{Top: api.Int{Mag: one}, Bottom: api.Nat{0, 0, 0}},
		{Bottom: api.Nat{0}},
		{Top: api.Int{Neg: true}, Bottom: one},
		{Top: api.Int{Neg: true, Mag: api.Nat{}}, Bottom: one},
		{Top: api.Int{Mag: api.Nat{0}}, Bottom: one},
		{Top: api.Int{Neg: true, Mag: api.Nat{0, 0}}, Bottom: one},
		{Bottom: two},
		{Bottom: api.Nat{0, 1}},
		{Top: api.Int{Mag: api.Nat{1, 0}}, Bottom: one},
		{Top: api.Int{Mag: api.Nat{3, 0}}, Bottom: two},
		{Top: api.Int{Neg: true, Mag: api.Nat{3, 0, 0}}, Bottom: one},
		{Top: api.Int{Mag: api.Nat{3}}, Bottom: api.Nat{2, 0}},
		{Top: api.Int{Mag: one}, Bottom: api.Nat{1, 0}},
		{Top: api.Int{Mag: two}, Bottom: two},
		{Top: api.Int{Mag: two}, Bottom: api.Nat{4}},
		{Top: api.Int{Neg: true, Mag: api.Nat{9}}, Bottom: api.Nat{6}},
		{Top: api.Int{Mag: long(30, 5)}, Bottom: long(40, 5)},
		{Top: api.Int{Mag: long(api.MaxLimbs+1, full)}, Bottom: one},
		{Top: api.Int{Neg: true, Mag: append(long(api.MaxLimbs, 0), 1)}, Bottom: one},
		{Top: api.Int{Mag: one}, Bottom: append(long(api.MaxLimbs, 0), 1)},
		{Top: api.Int{Mag: append(long(api.MaxLimbs, 0), 1)}, Bottom: long(api.MaxLimbs+1, full)},
		{Top: api.Int{Mag: append(long(api.MaxLimbs, full), 0)}, Bottom: one},
		{Top: api.Int{Mag: one}, Bottom: append(long(api.MaxLimbs, full), 0)},
		{Top: api.Int{Neg: true, Mag: long(1<<16, 0)}, Bottom: long(1<<16, 0)},
		{Top: api.Int{Mag: long(1<<12, full)}, Bottom: append(long(1<<12, 0), 1)},
	}
}

// wantError holds an answer against an error, beside which there is no number.
func wantError(t *testing.T, got api.Rat, e, want api.Errno, what string, a api.Rat, n int) {
	t.Helper()
	if e != want || !alike(got, api.Rat{}) {
		t.Errorf("%s(%v, %d) = %v, %d, want error %d alone", what, a, n, got, e, want)
	}
}

// wantFrac holds an answer against top by bottom, or, if that is too long without the divisors in common, against ErrLimit.
func wantFrac(t *testing.T, got api.Rat, e api.Errno, top, bottom *big.Int, what string, a api.Rat, n int) {
	t.Helper()
	r := new(big.Rat).SetFrac(top, bottom)
	if r.Num().BitLen() > mostBits || r.Denom().BitLen() > mostBits {
		wantError(t, got, e, api.ErrLimit, what, a, n)
		return
	}
	if e != api.OK || !alike(got, form(r)) {
		t.Errorf("%s(%v, %d) = %v, %d, want %v", what, a, n, got, e, form(r))
	}
	if !mayBe(got) || !rat.Good(got) {
		t.Errorf("%s(%v, %d) = %v, that may not be", what, a, n, got)
	}
}

// checkOf holds Of's answer against the library's.
func checkOf(t *testing.T, a api.Rat, n int) {
	t.Helper()
	got, e := power.Of(a, n)
	switch {
	case !mayBe(a):
		wantError(t, got, e, api.ErrArg, "Of", a, n)
		return
	case n > mostPower || n < -mostPower:
		wantError(t, got, e, api.ErrLimit, "Of", a, n)
		return
	case n < 0 && len(a.Top.Mag) == 0:
		wantError(t, got, e, api.ErrZero, "Of", a, n)
		return
	}
	size := big.NewInt(int64(max(n, -n)))
	r := value(a)
	top, bottom := new(big.Int).Exp(r.Num(), size, nil), new(big.Int).Exp(r.Denom(), size, nil)
	if n < 0 {
		top, bottom = bottom, top
	}
	// What is very long is so without the divisors in common too: there are none.
	if max(top.BitLen(), bottom.BitLen()) > 4*mostBits {
		wantError(t, got, e, api.ErrLimit, "Of", a, n)
		return
	}
	wantFrac(t, got, e, top, bottom, "Of", a, n)
}

// checkScale holds Scale's answer against the library's.
func checkScale(t *testing.T, a api.Rat, n int) {
	t.Helper()
	got, e := power.Scale(a, n)
	switch {
	case !mayBe(a):
		wantError(t, got, e, api.ErrArg, "Scale", a, n)
		return
	case n > mostScale || n < -mostScale:
		wantError(t, got, e, api.ErrLimit, "Scale", a, n)
		return
	}
	r, ten := value(a), bigPower(10, max(n, -n))
	top, bottom := new(big.Int).Set(r.Num()), new(big.Int).Set(r.Denom())
	if n < 0 {
		bottom.Mul(bottom, ten)
	} else {
		top.Mul(top, ten)
	}
	wantFrac(t, got, e, top, bottom, "Scale", a, n)
}
