package literal_test

import (
	"strconv"
	"strings"
	"testing"

	"steelyard/api"
	"steelyard/literal"
	"steelyard/rat"
)

// texts tells texts of all kinds: literals, what begins with one, and others.
func texts() []string {
	all := []string{"", " ", ".", "e", "-", ".5", "-1", "e5", "\x00", "\xff", "x1", strings.Repeat(".", 500), strings.Repeat("1", most), strings.Repeat("1", most+1), strings.Repeat("1", 3*most)}
	for _, s := range plain() {
		all = append(all, s, s+".", s+"e", s+"-", s+"e-", s+"x", s+s, s+"0", s+" 1", s+"\x80", "-"+s, s[:len(s)-1])
	}
	return all
}

// A text is a good literal, if it is the longest that it begins with, and not too long.
func TestGoodIsTheWholeLength(t *testing.T) {
	for _, s := range texts() {
		n := literal.Length(s)
		if literal.Good(s) != (n > 0 && n == len(s) && n <= most) {
			t.Errorf("Good(%q) = %v, and Length %d of %d", s, literal.Good(s), n, len(s))
		}
		if _, e := literal.Parse(s); literal.Good(s) == (e == api.ErrSyntax) {
			t.Errorf("Good(%q) = %v, and Parse tells %d", s, literal.Good(s), e)
		}
	}
}

// The longest literal that a text begins with is one, and no longer part of the text is; of that literal alone as much is told.
func TestLengthIsOfTheLongestLiteral(t *testing.T) {
	for _, s := range texts() {
		n := literal.Length(s)
		if n < 0 || n > len(s) {
			t.Fatalf("Length(%q) = %d", s, n)
		}
		if literal.Good(s[:n]) != (n > 0 && n <= most) || literal.Length(s[:n]) != n {
			t.Errorf("Length(%q) = %d, which is no literal", s, n)
		}
		for longer := n + 1; longer <= len(s); longer++ {
			if literal.Good(s[:longer]) {
				t.Errorf("Length(%q) = %d, and %d bytes are a literal", s, n, longer)
			}
		}
	}
}

// split tells a literal's digits, its point with the places, and its e with the exponent.
func split(s string) (whole, places, exponent string) {
	number, behind, ok := strings.Cut(s, "e")
	if ok {
		exponent = "e" + behind
	}
	if i := strings.IndexByte(number, '.'); i >= 0 {
		return number[:i], number[i:], exponent
	}
	return number, "", exponent
}

func TestNoughtsChangeNoNumber(t *testing.T) {
	for _, s := range plain() {
		whole, places, exponent := split(s)
		for _, n := range []int{1, 2, 3, 8, 9, 10, 50, 150} {
			wantSame(t, noughts(n)+s, s)
			if places != "" {
				wantSame(t, whole+places+noughts(n)+exponent, s)
				wantSame(t, noughts(n)+whole+places+noughts(n/2)+exponent, s)
			} else {
				wantSame(t, whole+"."+noughts(n)+exponent, s)
			}
		}
		if exponent == "" {
			wantSame(t, s+"e0", s)
			wantSame(t, s+"e-000", s)
		} else if at := strings.TrimLeft(exponent, "e-"); len(at) < 3 {
			wantSame(t, whole+places+exponent[:len(exponent)-len(at)]+"0"+at, s)
		}
	}
}

// A nought behind digits without a point makes ten of one; ahead of a point's first digit, one of ten.
func TestNoughtsThatCount(t *testing.T) {
	for _, s := range []string{"7", "12", "900", "123456789", "999999999999"} {
		for n := 1; n < 40; n++ {
			wantSame(t, s+noughts(n), s+"e"+strconv.Itoa(n))
			wantSame(t, "0."+noughts(n)+s, "0."+s+"e-"+strconv.Itoa(n))
		}
	}
}

// The point at any place of some digits, with the exponent that makes good for it, is one number.
func TestAnExponentMovesThePoint(t *testing.T) {
	for _, digits := range []string{"12", "10", "0070", "123456789", "98765432109876543210", "3" + noughts(60) + "4", strings.Repeat("7", 200)} {
		for _, n := range []int{0, 1, -1, 5, -5, 99, -99, 400, -400, 616, -616, 617, -617} {
			want := digits + exponent(n)
			for i := 1; i < len(digits); i++ {
				behind := len(digits) - i
				wantSame(t, digits[:i]+"."+digits[i:]+exponent(n+behind), want)
			}
			for i := range 30 {
				wantSame(t, "0."+noughts(i)+digits+exponent(n+len(digits)+i), want)
				wantSame(t, digits+noughts(i)+exponent(n-i), want)
			}
		}
	}
}

// A literal is its whole part and its places together, with an exponent and without.
func TestWholePartAndPlaces(t *testing.T) {
	for _, whole := range []string{"0", "7", "007", "120", "4294967295", strings.Repeat("9", 100)} {
		for _, places := range []string{"0", "5", "25", "050", "3333333333", noughts(99) + "1", strings.Repeat("9", 100)} {
			for _, behind := range []string{"", "e0", "e3", "e-3", "e150", "e-150", "e400", "e-400"} {
				s := whole + "." + places + behind
				sum, e := rat.Add(parsed(t, whole+behind), parsed(t, "0."+places+behind))
				if e != api.OK || !alike(parsed(t, s), sum) {
					t.Errorf("Parse(%q) = %v, want %v, %d", s, parsed(t, s), sum, e)
				}
			}
		}
	}
}

// A literal of an exponent is the one without, times a power of ten; of digits, one more is told by the last.
func TestNumbersStepByStep(t *testing.T) {
	for _, s := range []string{"1", "3.5", "0.125", "123456789.987654321"} {
		up, down := parsed(t, s), parsed(t, s)
		for n := 1; n <= 600; n++ {
			up, _ = rat.Mul(up, rat.Whole(10))
			down, _ = rat.Div(down, rat.Whole(10))
			if !alike(parsed(t, s+exponent(n)), up) || !alike(parsed(t, s+exponent(-n)), down) {
				t.Fatalf("Parse(%q) by exponents of %d and its negative: want %v, %v", s, n, up, down)
			}
		}
	}
	want := api.Rat{Bottom: api.Nat{1}}
	for v := range 3000 {
		if got := parsed(t, strconv.Itoa(v)); !alike(got, want) {
			t.Errorf("Parse of %d = %v, want %v", v, got, want)
		}
		want, _ = rat.Add(want, rat.Whole(1))
	}
}
