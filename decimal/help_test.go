package decimal_test

import (
	"encoding/binary"
	"math"
	"math/big"
	"math/rand"
	"regexp"
	"slices"
	"strings"
	"testing"

	"steelyard/api"
	"steelyard/decimal"
	"steelyard/rat"
)

const (
	full       = math.MaxUint32
	mostBits   = 32 * api.MaxLimbs
	mostPlaces = api.MaxPlaces
)

// exacts is what a number's exact text looks like, noughts and divisors in common apart.
var exacts = regexp.MustCompile(`^(0|-?[1-9][0-9]*)(/[1-9][0-9]*)?$`)

func toBig(a api.Nat) *big.Int {
	var all []byte
	for _, limb := range slices.Backward(a) {
		all = binary.BigEndian.AppendUint32(all, limb)
	}
	return new(big.Int).SetBytes(all)
}

// signed tells a as the library has it, a 0 with a sign as 0.
func signed(a api.Int) *big.Int {
	out := toBig(a.Mag)
	if a.Neg {
		out.Neg(out)
	}
	return out
}

// fromBig tells v's size, with no limbs of 0 at the end.
func fromBig(v *big.Int) api.Nat {
	var out api.Nat
	mask := big.NewInt(full)
	for rest := new(big.Int).Abs(v); rest.Sign() > 0; rest.Rsh(rest, 32) {
		out = append(out, uint32(new(big.Int).And(rest, mask).Uint64()))
	}
	return out
}

// value tells a number that may be as the library has it.
func value(a api.Rat) *big.Rat {
	return new(big.Rat).SetFrac(signed(a.Top), toBig(a.Bottom))
}

// form tells the one form in which r may be told.
func form(r *big.Rat) api.Rat {
	return api.Rat{Top: api.Int{Neg: r.Sign() < 0, Mag: fromBig(r.Num())}, Bottom: fromBig(r.Denom())}
}

// frac tells top by bottom in that form.
func frac(top, bottom int64) api.Rat {
	return form(big.NewRat(top, bottom))
}

func bigFrac(top, bottom *big.Int) api.Rat {
	return form(new(big.Rat).SetFrac(top, bottom))
}

func bigWhole(v *big.Int) api.Rat {
	return form(new(big.Rat).SetInt(v))
}

func minus(a api.Rat) api.Rat {
	return form(new(big.Rat).Neg(value(a)))
}

// signs tells a, its negative, and 1 by each.
func signs(a api.Rat) []api.Rat {
	inverse := form(new(big.Rat).Inv(value(a)))
	return []api.Rat{a, minus(a), inverse, minus(inverse)}
}

// twoTo tells 2 to the n, and so much more.
func twoTo(n uint, more int64) *big.Int {
	out := new(big.Int).Lsh(big.NewInt(1), n)
	return out.Add(out, big.NewInt(more))
}

// power tells v to the n, which is not below 0.
func power(v int64, n int) *big.Int {
	return new(big.Int).Exp(big.NewInt(v), big.NewInt(int64(n)), nil)
}

// greatest tells the greatest number of as many limbs as may be.
func greatest() *big.Int {
	return twoTo(mostBits, -1)
}

// mayBe asks what rat.Good is to answer, by the document's words.
func mayBe(a api.Rat) bool {
	top, bottom := toBig(a.Top.Mag), toBig(a.Bottom)
	switch {
	case !slices.Equal(a.Top.Mag, fromBig(top)) || !slices.Equal(a.Bottom, fromBig(bottom)):
		return false
	case bottom.Sign() == 0 || top.Sign() == 0 && a.Top.Neg:
		return false
	case len(a.Top.Mag) > api.MaxLimbs || len(a.Bottom) > api.MaxLimbs:
		return false
	}
	return new(big.Int).GCD(nil, nil, top, bottom).Cmp(big.NewInt(1)) == 0
}

// alike asks whether two answers are one, limbs of 0 at the end and the sign of a 0 too.
func alike(a, b api.Rat) bool {
	return alikeInts(a.Top, b.Top) && slices.Equal(a.Bottom, b.Bottom)
}

func alikeInts(a, b api.Int) bool {
	return a.Neg == b.Neg && slices.Equal(a.Mag, b.Mag)
}

// long tells a size of n limbs that are all v.
func long(n int, v uint32) api.Nat {
	return slices.Repeat(api.Nat{v}, n)
}

func noughts(n int) string {
	return strings.Repeat("0", n)
}

// wrongPlaces tells how many places there cannot be, among them such as may be once cut to fewer bits.
func wrongPlaces() []int {
	return []int{
		-1, -2, -60, -61, -1000, -1 << 16, -1<<16 + 3, -1<<32 - 2, -1 << 32, -1<<32 + 2, math.MinInt32, math.MinInt + 60, math.MinInt + 2, math.MinInt + 1, math.MinInt,
		mostPlaces + 1, mostPlaces + 2, 100, 128, 256, 258, 2000, 2001, 1 << 16, 1<<16 + 3, math.MaxInt32, 1 << 32, 1<<32 + 2, 1<<62 + 5, math.MaxInt - 1, math.MaxInt,
	}
}

// right tells numbers that may be: small and great ones, of both signs, whole ones and others, and those that are as long as may be.
func right() []api.Rat {
	all := []api.Rat{frac(0, 1), {Top: api.Int{Mag: api.Nat{}}, Bottom: api.Nat{1}}}
	for _, a := range []api.Rat{
		frac(1, 1), frac(2, 1), frac(3, 1), frac(10, 1), frac(2, 3), frac(5, 6), frac(4, 25), frac(7, 10), frac(999, 1000), frac(1001, 1000), frac(125, 128), frac(355, 113),
		frac(full, 1), frac(1<<32, 3), frac(math.MaxInt64, math.MaxInt64-1), frac(1<<62, 1),
		bigWhole(twoTo(mostBits/2, -1)), bigWhole(greatest()), bigWhole(twoTo(mostBits, -2)), bigWhole(twoTo(mostBits-1, 0)),
		bigWhole(power(10, 59)), bigWhole(power(10, 60)), bigWhole(power(10, 61)), bigWhole(power(10, 616)), bigWhole(new(big.Int).Sub(power(10, 616), big.NewInt(1))), bigWhole(power(5, 882)),
		bigFrac(greatest(), twoTo(mostBits, -2)), bigFrac(greatest(), twoTo(mostBits-1, 0)), bigFrac(greatest(), big.NewInt(2)), bigFrac(greatest(), power(2, 70)), bigFrac(twoTo(mostBits, -3), power(5, 61)),
		bigFrac(twoTo(mostBits/2, 1), twoTo(mostBits/2, -1)), bigFrac(power(2, 700), power(5, 300)), bigFrac(power(3, 40), power(10, 60)), bigFrac(power(3, 400), power(10, 61)),
	} {
		all = append(all, signs(a)...)
	}
	return all
}

// wrong tells numbers that may not be: at least one for each way in which that is so.
func wrong() []api.Rat {
	one, two := api.Nat{1}, api.Nat{2}
	return []api.Rat{
		{},
		{Top: api.Int{Neg: true}},
		{Top: api.Int{Mag: one}},
		{Top: api.Int{Mag: one}, Bottom: api.Nat{}},
		{Top: api.Int{Neg: true, Mag: one}, Bottom: api.Nat{0}},
		{Top: api.Int{Mag: one}, Bottom: api.Nat{0, 0, 0}},
		{Bottom: api.Nat{0}},
		{Top: api.Int{Neg: true}, Bottom: one},
		{Top: api.Int{Neg: true, Mag: api.Nat{}}, Bottom: one},
		{Top: api.Int{Mag: api.Nat{0}}, Bottom: one},
		{Top: api.Int{Neg: true, Mag: api.Nat{0, 0}}, Bottom: one},
		{Bottom: two},
		{Bottom: api.Nat{0, 1}},
		{Top: api.Int{Mag: api.Nat{1, 0}}, Bottom: one},
		{Top: api.Int{Mag: api.Nat{3, 0}}, Bottom: two},
		{Top: api.Int{Neg: true, Mag: api.Nat{3, 0, 0}}, Bottom: one},
		{Top: api.Int{Mag: api.Nat{3}}, Bottom: api.Nat{2, 0}},
		{Top: api.Int{Mag: one}, Bottom: api.Nat{1, 0}},
		{Top: api.Int{Mag: two}, Bottom: two},
		{Top: api.Int{Mag: two}, Bottom: api.Nat{4}},
		{Top: api.Int{Neg: true, Mag: api.Nat{9}}, Bottom: api.Nat{6}},
		{Top: api.Int{Mag: long(30, 5)}, Bottom: long(40, 5)},
		{Top: api.Int{Mag: long(api.MaxLimbs+1, full)}, Bottom: one},
		{Top: api.Int{Neg: true, Mag: append(long(api.MaxLimbs, 0), 1)}, Bottom: one},
		{Top: api.Int{Mag: one}, Bottom: append(long(api.MaxLimbs, 0), 1)},
		{Top: api.Int{Mag: append(long(api.MaxLimbs, 0), 1)}, Bottom: long(api.MaxLimbs+1, full)},
		{Top: api.Int{Mag: append(long(api.MaxLimbs, full), 0)}, Bottom: one},
		{Top: api.Int{Mag: one}, Bottom: append(long(api.MaxLimbs, full), 0)},
		{Top: api.Int{Neg: true, Mag: long(1<<16, 0)}, Bottom: long(1<<16, 0)},
		{Top: api.Int{Mag: long(1<<12, full)}, Bottom: append(long(1<<12, 0), 1)},
	}
}

// random tells a number of at most so many limbs at the top and at the bottom.
func random(r *rand.Rand, limbs int) api.Rat {
	for {
		top, bottom := randomSize(r, limbs), randomSize(r, limbs)
		if bottom.Sign() > 0 {
			if r.Intn(2) == 0 {
				top.Neg(top)
			}
			return bigFrac(top, bottom)
		}
	}
}

func randomSize(r *rand.Rand, limbs int) *big.Int {
	return new(big.Int).Rand(r, twoTo(uint(1+r.Intn(32*limbs)), 0))
}

// floorOf tells the greatest whole number that is not above r times 10 to the places.
func floorOf(r *big.Rat, places int) *big.Int {
	top := new(big.Int).Mul(r.Num(), power(10, places))
	// The library's Div leaves what is not below 0.
	return top.Div(top, r.Denom())
}

// ceilOf tells the least whole number that is not below r times 10 to the places.
func ceilOf(r *big.Rat, places int) *big.Int {
	out := floorOf(new(big.Rat).Neg(r), places)
	return out.Neg(out)
}

// nearOf tells the one of those two that is nearer, and, if both are as near, the even one.
func nearOf(r *big.Rat, places int) *big.Int {
	floor, ceil := floorOf(r, places), ceilOf(r, places)
	scaled := new(big.Rat).Mul(r, new(big.Rat).SetInt(power(10, places)))
	above := new(big.Rat).Sub(scaled, new(big.Rat).SetInt(floor))
	below := new(big.Rat).Sub(new(big.Rat).SetInt(ceil), scaled)
	if c := above.Cmp(below); c < 0 || c == 0 && floor.Bit(0) == 0 {
		return floor
	}
	return ceil
}

// spelt tells v by 10 to the places, as the library writes it.
func spelt(v *big.Int, places int) string {
	return new(big.Rat).SetFrac(v, power(10, places)).FloatString(places)
}

// check holds all that is told of a with so many places against the library's numbers.
func check(t *testing.T, a api.Rat, places int) {
	t.Helper()
	if !mayBe(a) || places < 0 || places > mostPlaces {
		wantArg(t, a, places)
		return
	}
	r := value(a)
	floor := floorOf(r, places)
	wantTexts(t, a, places, spelt(floor, places), spelt(ceilOf(r, places), places), spelt(nearOf(r, places), places))
	wantFloor(t, a, places, floor)
}

// wantTexts holds what Down, Up and Near answer against three texts.
func wantTexts(t *testing.T, a api.Rat, places int, down, up, near string) {
	t.Helper()
	if s, e := decimal.Down(a, places); e != api.OK || s != down {
		t.Errorf("Down(%v, %d) = %q, %d, want %q", a, places, s, e, down)
	}
	if s, e := decimal.Up(a, places); e != api.OK || s != up {
		t.Errorf("Up(%v, %d) = %q, %d, want %q", a, places, s, e, up)
	}
	if s, e := decimal.Near(a, places); e != api.OK || s != near {
		t.Errorf("Near(%v, %d) = %q, %d, want %q", a, places, s, e, near)
	}
}

func wantFloor(t *testing.T, a api.Rat, places int, want *big.Int) {
	t.Helper()
	got, e := decimal.Floor(a, places)
	if e != api.OK || !alikeInts(got, api.Int{Neg: want.Sign() < 0, Mag: fromBig(want)}) {
		t.Errorf("Floor(%v, %d) = %v, %d, want %v", a, places, got, e, want)
	}
}

// wantArg asks for ErrArg of all four, beside which there is nothing.
func wantArg(t *testing.T, a api.Rat, places int) {
	t.Helper()
	down, e := decimal.Down(a, places)
	up, f := decimal.Up(a, places)
	near, g := decimal.Near(a, places)
	if e != api.ErrArg || f != api.ErrArg || g != api.ErrArg || down+up+near != "" {
		t.Errorf("Down, Up, Near(%v, %d) = %q, %d, %q, %d, %q, %d, want ErrArg alone", a, places, down, e, up, f, near, g)
	}
	if v, e := decimal.Floor(a, places); e != api.ErrArg || !alikeInts(v, api.Int{}) {
		t.Errorf("Floor(%v, %d) = %v, %d, want ErrArg alone", a, places, v, e)
	}
}

// checkExact holds a's exact text against the library's, and what that is parsed as against a.
func checkExact(t *testing.T, a api.Rat) {
	t.Helper()
	want := ""
	if mayBe(a) {
		want = value(a).RatString()
	}
	if s := decimal.Exact(a); s != want {
		t.Errorf("Exact(%v) = %q, want %q", a, s, want)
	}
	if want != "" {
		wantNumber(t, want, value(a))
	}
}

// checkParse holds what Parse answers against the library's numbers.
func checkParse(t *testing.T, s string) {
	t.Helper()
	if !exacts.MatchString(s) {
		wantSyntax(t, s)
		return
	}
	r, ok := new(big.Rat).SetString(s)
	if !ok {
		t.Fatalf("the library does not read %q", s)
	}
	if r.RatString() != s || max(r.Num().BitLen(), r.Denom().BitLen()) > mostBits {
		wantSyntax(t, s)
		return
	}
	wantNumber(t, s, r)
}

// wantNumber asks for a number, that it may be, and that the text is its own.
func wantNumber(t *testing.T, s string, want *big.Rat) {
	t.Helper()
	a, e := decimal.Parse(s)
	if e != api.OK || !alike(a, form(want)) || !rat.Good(a) {
		t.Errorf("Parse(%q) = %v, %d, want %v", s, a, e, want)
	}
	if back := decimal.Exact(a); back != s {
		t.Errorf("Exact of Parse(%q) = %q", s, back)
	}
}

// wantSyntax asks for ErrSyntax, beside which there is no number.
func wantSyntax(t *testing.T, s string) {
	t.Helper()
	a, e := decimal.Parse(s)
	if e != api.ErrSyntax || !alike(a, api.Rat{}) {
		t.Errorf("Parse(%.60q), of %d bytes, = %v, %d, want ErrSyntax alone", s, len(s), a, e)
	}
}
