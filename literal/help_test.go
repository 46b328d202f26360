package literal_test

import (
	"math/big"
	"regexp"
	"slices"
	"strconv"
	"strings"
	"testing"

	"steelyard/api"
	"steelyard/digits"
	"steelyard/literal"
	"steelyard/rat"
	"steelyard/whole"
)

const (
	// most is how many bytes a good literal has at most.
	most     = 400
	mostBits = 32 * api.MaxLimbs
	// farthest is the exponent that is farthest from 0.
	farthest = 999
)

// literals is what the document calls a literal.
var literals = regexp.MustCompile(`^[0-9]+(\.[0-9]+)?(e-?[0-9]{1,3})?$`)

func isGood(s string) bool {
	return len(s) <= most && literals.MatchString(s)
}

// wantedLength tells how long the longest part of s, from its first byte on, is that is a literal.
func wantedLength(s string) int {
	for n := len(s); n > 0; n-- {
		if literals.MatchString(s[:n]) {
			return n
		}
	}
	return 0
}

// checkLength holds what Length and Good answer against a length.
func checkLength(t *testing.T, s string, want int) {
	t.Helper()
	if n := literal.Length(s); n != want {
		t.Errorf("Length(%.60q), of %d bytes, = %d, want %d", s, len(s), n, want)
	}
	good := want > 0 && want == len(s) && want <= most
	if literal.Good(s) != good {
		t.Errorf("Good(%.60q), of %d bytes, = %v", s, len(s), !good)
	}
}

// check holds all that is told of s against the document's words and the library's numbers.
func check(t *testing.T, s string) {
	t.Helper()
	checkLength(t, s, wantedLength(s))
	checkNumber(t, s)
}

// checkNumber holds what Parse answers against the library's numbers.
func checkNumber(t *testing.T, s string) {
	t.Helper()
	if !isGood(s) {
		wantError(t, s, api.ErrSyntax)
		return
	}
	r, ok := new(big.Rat).SetString(s)
	if !ok {
		t.Fatalf("the library does not read %q", s)
	}
	if max(r.Num().BitLen(), r.Denom().BitLen()) > mostBits {
		wantError(t, s, api.ErrLimit)
		return
	}
	wantNumber(t, s, r)
}

// wantError holds an answer against an error, beside which there is no number.
func wantError(t *testing.T, s string, want api.Errno) {
	t.Helper()
	a, e := literal.Parse(s)
	if e != want || a.Top.Neg || len(a.Top.Mag) != 0 || len(a.Bottom) != 0 {
		t.Errorf("Parse(%.60q), of %d bytes, = %v, %d, want error %d alone", s, len(s), a, e, want)
	}
}

// wantNumber holds an answer against a number, and asks whether it may be.
func wantNumber(t *testing.T, s string, want *big.Rat) {
	t.Helper()
	a, e := literal.Parse(s)
	if e != api.OK || whole.Text(a.Top) != want.Num().String() || digits.Text(a.Bottom) != want.Denom().String() {
		t.Errorf("Parse(%q) = %v, %d, want %v", s, a, e, want)
	}
	if !rat.Good(a) {
		t.Errorf("Parse(%q) = %v, that may not be", s, a)
	}
}

// wantSame holds two literals' numbers, or errors, against each other.
func wantSame(t *testing.T, s, other string) {
	t.Helper()
	a, e := literal.Parse(s)
	b, f := literal.Parse(other)
	if e != f || !alike(a, b) {
		t.Errorf("Parse(%.60q), of %d bytes, = %v, %d, and Parse(%.60q), of %d bytes, = %v, %d", s, len(s), a, e, other, len(other), b, f)
	}
}

// alike asks whether two answers are one, limbs of 0 at the end and the sign of a 0 too.
func alike(a, b api.Rat) bool {
	return a.Top.Neg == b.Top.Neg && slices.Equal(a.Top.Mag, b.Top.Mag) && slices.Equal(a.Bottom, b.Bottom)
}

// parsed tells the number of a literal that has one.
func parsed(t *testing.T, s string) api.Rat {
	t.Helper()
	a, e := literal.Parse(s)
	if e != api.OK {
		t.Fatalf("Parse(%q) = error %d", s, e)
	}
	return a
}

func noughts(n int) string {
	return strings.Repeat("0", n)
}

// power tells v to the n as the library has it.
func power(v int64, n int) *big.Int {
	return new(big.Int).Exp(big.NewInt(v), big.NewInt(int64(n)), nil)
}

// exponent tells an "e" and n.
func exponent(n int) string {
	return "e" + strconv.Itoa(n)
}

// tenth tells "0.", so many noughts and a 1: 10 to what is below 0.
func tenth(n int) string {
	return "0." + noughts(n) + "1"
}

// plain tells literals of every make: each part there or not, of one digit and of more, noughts at all their places.
func plain() []string {
	var all []string
	for _, number := range []string{"0", "7", "00", "10", "007", "120", "9876543210", "999999999999999999999", noughts(30) + "4" + noughts(30)} {
		for _, places := range []string{"", ".0", ".5", ".000", ".050", ".125", ".3999999999", "." + noughts(40) + "75" + noughts(40)} {
			for _, exponent := range []string{"", "e0", "e-0", "e7", "e-7", "e00", "e05", "e-05", "e42", "e-42", "e000", "e-000", "e007", "e-060", "e120", "e-120", "e999", "e-999"} {
				all = append(all, number+places+exponent)
			}
		}
	}
	return all
}
