package rat_test

import (
	"encoding/binary"
	"math"
	"math/big"
	"math/rand"
	"slices"
	"testing"

	"steelyard/api"
	"steelyard/rat"
)

const full = math.MaxUint32

// operation is one of the four that answer a number of two.
type operation struct {
	name string
	do   func(a, b api.Rat) (api.Rat, api.Errno)
	big  func(x, y *big.Rat) *big.Rat
}

func operations() []operation {
	return []operation{
		{"Add", rat.Add, func(x, y *big.Rat) *big.Rat { return new(big.Rat).Add(x, y) }},
		{"Sub", rat.Sub, func(x, y *big.Rat) *big.Rat { return new(big.Rat).Sub(x, y) }},
		{"Mul", rat.Mul, func(x, y *big.Rat) *big.Rat { return new(big.Rat).Mul(x, y) }},
		{"Div", rat.Div, func(x, y *big.Rat) *big.Rat { return new(big.Rat).Quo(x, y) }},
	}
}

func toBig(a api.Nat) *big.Int {
	var all []byte
	for _, limb := range slices.Backward(a) {
		all = binary.BigEndian.AppendUint32(all, limb)
	}
	return new(big.Int).SetBytes(all)
}

// fromBig tells v's size, with no limbs of 0 at the end.
func fromBig(v *big.Int) api.Nat {
	var out api.Nat
	mask := big.NewInt(full)
	for rest := new(big.Int).Abs(v); rest.Sign() > 0; rest.Rsh(rest, 32) {
		out = append(out, uint32(new(big.Int).And(rest, mask).Uint64()))
	}
	return out
}

// signedBig tells a as the library has it, whatever its limbs and its sign are.
func signedBig(a api.Int) *big.Int {
	out := toBig(a.Mag)
	if a.Neg {
		out.Neg(out)
	}
	return out
}

// value tells a number that may be as the library has it.
func value(a api.Rat) *big.Rat {
	return new(big.Rat).SetFrac(signedBig(a.Top), toBig(a.Bottom))
}

// form tells the one form in which r may be told.
func form(r *big.Rat) api.Rat {
	return api.Rat{Top: api.Int{Neg: r.Sign() < 0, Mag: fromBig(r.Num())}, Bottom: fromBig(r.Denom())}
}

// frac tells top by bottom in that form.
func frac(top, bottom int64) api.Rat {
	return form(big.NewRat(top, bottom))
}

// inverse tells 1 by a, which is not 0.
func inverse(a api.Rat) api.Rat {
	return form(new(big.Rat).Inv(value(a)))
}

func minus(a api.Rat) api.Rat {
	return form(new(big.Rat).Neg(value(a)))
}

// power tells 2 to the n, and so much more.
func power(n uint, more int64) *big.Int {
	out := new(big.Int).Lsh(big.NewInt(1), n)
	return out.Add(out, big.NewInt(more))
}

// twoTo tells 2 to the n, and so much more, as a number.
func twoTo(n uint, more int64) api.Rat {
	return form(new(big.Rat).SetInt(power(n, more)))
}

func isTooLong(r *big.Rat) bool {
	return r.Num().BitLen() > 32*api.MaxLimbs || r.Denom().BitLen() > 32*api.MaxLimbs
}

// mayBe asks what Good is to answer, by the document's words.
func mayBe(a api.Rat) bool {
	top, bottom := toBig(a.Top.Mag), toBig(a.Bottom)
	switch {
	case !slices.Equal(a.Top.Mag, fromBig(top)) || !slices.Equal(a.Bottom, fromBig(bottom)):
		return false
	case bottom.Sign() == 0 || top.Sign() == 0 && a.Top.Neg:
		return false
	case len(a.Top.Mag) > api.MaxLimbs || len(a.Bottom) > api.MaxLimbs:
		return false
	}
	return new(big.Int).GCD(nil, nil, top, bottom).Cmp(big.NewInt(1)) == 0
}

// alike asks whether two answers are one, limbs of 0 at the end and the sign of a 0 too.
func alike(a, b api.Rat) bool {
	return a.Top.Neg == b.Top.Neg && slices.Equal(a.Top.Mag, b.Top.Mag) && slices.Equal(a.Bottom, b.Bottom)
}

// long tells a size of n limbs that are all v.
func long(n int, v uint32) api.Nat {
	return slices.Repeat(api.Nat{v}, n)
}

// sizes tells few limbs in many forms, those that no layer makes included.
func sizes() []api.Nat {
	return []api.Nat{
		nil, {}, {0}, {0, 0, 0}, {1}, {1, 0}, {2}, {2, 0, 0}, {3}, {4}, {6}, {15}, {full}, {full - 1}, {1 << 31},
		{0, 1}, {1, 1}, {0, 1, 0}, {0, 0, 1}, {full, full}, {full, full, 0}, {0, 6}, {3, 0, 3},
	}
}

// forms tells all tops by all bottoms of sizes, with both signs.
func forms() []api.Rat {
	var all []api.Rat
	for _, top := range sizes() {
		for _, bottom := range sizes() {
			all = append(all, api.Rat{Top: api.Int{Mag: top}, Bottom: bottom})
			all = append(all, api.Rat{Top: api.Int{Neg: true, Mag: top}, Bottom: bottom})
		}
	}
	return all
}

// wrong tells numbers that may not be: at least one for each way in which that is so.
func wrong() []api.Rat {
	one, two := api.Nat{1}, api.Nat{2}
	return []api.Rat{
		{},
		{Top: api.Int{Neg: true}},
		{Top: api.Int{Mag: one}},
		{Top: api.Int{Mag: one}, Bottom: api.Nat{}},
		{Top: api.Int{Mag: one}, Bottom: api.Nat{0}},
		{Top: api.Int{Mag: one}, Bottom: api.Nat{0, 0, 0}},
		{Top: api.Int{Neg: true, Mag: one}, Bottom: api.Nat{0}},
		{Bottom: api.Nat{0}},
		{Top: api.Int{Mag: api.Nat{0}}, Bottom: api.Nat{0}},
		{Top: api.Int{Neg: true}, Bottom: one},
		{Top: api.Int{Neg: true, Mag: api.Nat{}}, Bottom: one},
		{Top: api.Int{Mag: api.Nat{0}}, Bottom: one},
		{Top: api.Int{Neg: true, Mag: api.Nat{0, 0}}, Bottom: one},
		{Bottom: two},
		{Bottom: api.Nat{0, 1}},
		{Top: api.Int{Mag: api.Nat{3, 0}}, Bottom: two},
		{Top: api.Int{Neg: true, Mag: api.Nat{3, 0, 0}}, Bottom: one},
		{Top: api.Int{Mag: api.Nat{3}}, Bottom: api.Nat{2, 0}},
		{Top: api.Int{Mag: one}, Bottom: api.Nat{1, 0}},
		{Top: api.Int{Mag: two}, Bottom: two},
		{Top: api.Int{Mag: two}, Bottom: api.Nat{4}},
		{Top: api.Int{Neg: true, Mag: api.Nat{9}}, Bottom: api.Nat{6}},
		{Top: api.Int{Mag: long(30, 5)}, Bottom: long(40, 5)},
		{Top: api.Int{Mag: long(api.MaxLimbs+1, full)}, Bottom: one},
		{Top: api.Int{Neg: true, Mag: append(long(api.MaxLimbs, 0), 1)}, Bottom: one},
		{Top: api.Int{Mag: one}, Bottom: append(long(api.MaxLimbs, 0), 1)},
		{Top: api.Int{Mag: append(long(api.MaxLimbs, 0), 1)}, Bottom: long(api.MaxLimbs+1, full)},
		{Top: api.Int{Mag: append(long(api.MaxLimbs, full), 0)}, Bottom: one},
		{Top: api.Int{Mag: one}, Bottom: append(long(api.MaxLimbs, full), 0)},
	}
}

// right tells numbers that may be: small and great ones, of both signs, whole ones and others, and those that are as long as may be.
func right() []api.Rat {
	const most = 32 * api.MaxLimbs
	all := []api.Rat{frac(0, 1)}
	above := []api.Rat{
		frac(1, 1), frac(2, 1), frac(3, 1), frac(1, 2), frac(1, 3), frac(2, 3), frac(3, 2), frac(5, 6), frac(7, 10), frac(999, 1000), frac(1001, 1000),
		frac(math.MaxInt64, 1), frac(1, math.MaxInt64), frac(math.MaxInt64, math.MaxInt64-1), frac(1<<32, 3), frac(full, 1<<32),
		twoTo(most/2, 0), twoTo(most/2-1, 0), twoTo(most-1, 0), twoTo(most, -1), twoTo(most, -2), twoTo(1000, 1),
		form(new(big.Rat).SetFrac(power(most, -1), power(most, -2))),
		form(new(big.Rat).SetFrac(power(most, -3), power(most, -2))),
		form(new(big.Rat).SetFrac(power(most/2, 1), power(most/2, -1))),
		form(new(big.Rat).SetFrac(power(most/2, 1), power(most/2, 3))),
	}
	for _, a := range above {
		all = append(all, a, minus(a), inverse(a), inverse(minus(a)))
	}
	return all
}

// random tells limbs, at most n, about half of them such at which carries turn, and perhaps limbs of 0 at the end.
func random(r *rand.Rand, n int) api.Nat {
	out := make(api.Nat, r.Intn(n+1))
	for i := range out {
		out[i] = r.Uint32()
		if r.Intn(2) == 0 {
			out[i] = []uint32{0, 1, full}[r.Intn(3)]
		}
	}
	return out
}

// randomForm tells a number of random limbs, that seldom may be.
func randomForm(r *rand.Rand, n int) api.Rat {
	return api.Rat{Top: api.Int{Neg: r.Intn(2) == 0, Mag: random(r, n)}, Bottom: random(r, n)}
}

// randomRight tells a number that may be, with at most n limbs at the top and at the bottom.
func randomRight(r *rand.Rand, n int) api.Rat {
	for {
		a := randomForm(r, n)
		if bottom := toBig(a.Bottom); bottom.Sign() != 0 {
			return form(new(big.Rat).SetFrac(signedBig(a.Top), bottom))
		}
	}
}

// wantError holds an answer against an error, beside which there is no number.
func wantError(t *testing.T, got api.Rat, e, want api.Errno, what string, of ...api.Rat) {
	t.Helper()
	if e != want || !alike(got, api.Rat{}) {
		t.Errorf("%s of %v = %v, %d, want error %d alone", what, of, got, e, want)
	}
}

// wantNumber holds an answer against the library's: that number, or, if it is too long, ErrLimit.
func wantNumber(t *testing.T, got api.Rat, e api.Errno, r *big.Rat, what string, of ...api.Rat) {
	t.Helper()
	if isTooLong(r) {
		wantError(t, got, e, api.ErrLimit, what, of...)
		return
	}
	if e != api.OK || !alike(got, form(r)) {
		t.Errorf("%s of %v = %v, %d, want %v", what, of, got, e, form(r))
	}
	if !mayBe(got) || !rat.Good(got) {
		t.Errorf("%s of %v = %v, that may not be", what, of, got)
	}
}

// checkOf holds Of's answer of a form's top and bottom against the library's.
func checkOf(t *testing.T, a api.Rat) {
	t.Helper()
	got, e := rat.Of(a.Top, a.Bottom)
	if toBig(a.Bottom).Sign() == 0 {
		wantError(t, got, e, api.ErrZero, "Of", a)
		return
	}
	wantNumber(t, got, e, value(a), "Of", a)
}

// checkOne asks all that is asked of one number.
func checkOne(t *testing.T, a api.Rat) {
	t.Helper()
	good := mayBe(a)
	if rat.Good(a) != good {
		t.Errorf("Good(%v) = %v", a, !good)
	}
	sign, negative := 0, api.Rat{}
	if good {
		sign, negative = value(a).Sign(), minus(a)
	}
	if got := rat.Sign(a); got != sign {
		t.Errorf("Sign(%v) = %d, want %d", a, got, sign)
	}
	if got := rat.Neg(a); !alike(got, negative) {
		t.Errorf("Neg(%v) = %v, want %v", a, got, negative)
	}
}

// checkPair asks all that is asked of two numbers.
func checkPair(t *testing.T, a, b api.Rat) {
	t.Helper()
	if !mayBe(a) || !mayBe(b) {
		checkNothing(t, a, b)
		return
	}
	x, y := value(a), value(b)
	order := x.Cmp(y)
	if got := rat.Cmp(a, b); got != order {
		t.Errorf("Cmp(%v, %v) = %d, want %d", a, b, got, order)
	}
	if got := rat.Same(a, b); got != (order == 0) {
		t.Errorf("Same(%v, %v) = %v", a, b, got)
	}
	for _, o := range operations() {
		got, e := o.do(a, b)
		if o.name == "Div" && y.Sign() == 0 {
			wantError(t, got, e, api.ErrZero, o.name, a, b)
			continue
		}
		wantNumber(t, got, e, o.big(x, y), o.name, a, b)
	}
}

// checkNothing asks for the answers of two numbers of which one may not be, or both.
func checkNothing(t *testing.T, a, b api.Rat) {
	t.Helper()
	if got := rat.Cmp(a, b); got != 0 {
		t.Errorf("Cmp(%v, %v) = %d", a, b, got)
	}
	if rat.Same(a, b) {
		t.Errorf("Same(%v, %v)", a, b)
	}
	for _, o := range operations() {
		got, e := o.do(a, b)
		wantError(t, got, e, api.ErrArg, o.name, a, b)
	}
}
