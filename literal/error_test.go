package literal_test

import (
	"strings"
	"testing"

	"steelyard/api"
)

func TestNoLiterals(t *testing.T) {
	for _, s := range []string{
		"", " ", "x", ".", "e", "-", "+", "0x", "ten", "NaN", "Inf", "\x00", "\xff", "\u0661", "\uff11",
		"-1", "+1", "-0", " 1", "1 ", "1\n", "1\x00", "\x001", "1\x80", "1\xb1", "1 2", "1,5", "1_0", "1/2", "0x1", "0b1", "1i", "1f",
		".5", "1.", "1..5", "1.5.", "1.5.2", "1.-5", "1.+5", "1. 5", "1 .5", ".",
		"1e", "1e-", "1e+", "1e+5", "1E5", "1E-5", "1e--5", "1e -5", "1e- 5", "1 e5", "1e5 ", "e5", "1.e5", "1e.5", "1e5.5", "1e5e5", "1ee5", "1e5-", "1e-5-",
		"1e0000", "1e1000", "1e9999", "1e-0000", "1e-1000", "1e-9999", "1e99999999999999999999", "1e-99999999999999999999",
	} {
		if isGood(s) {
			t.Errorf("%q is a good literal", s)
		}
		wantError(t, s, api.ErrSyntax)
	}
}

// What is no literal, or too long, is told ahead of what is too great.
func TestSyntaxAheadOfLimit(t *testing.T) {
	for _, s := range []string{"1e999", "1e-999", "9e617", "1e-617", strings.Repeat("9", 396) + "e999", strings.Repeat("9", 395) + "e-999", tenth(390) + "e-999"} {
		wantError(t, s, api.ErrLimit)
		for _, other := range []string{
			s + " ", " " + s, "-" + s, "+" + s, s + "0", s + ".", s + "e", s + "\x00", "." + s, strings.Replace(s, "e", "E", 1), strings.Replace(s, "e", ".e", 1), strings.Replace(s, "e", "e+", 1),
			noughts(most+1-len(s)) + s, strings.Repeat("1", most+1-len(s)) + s, noughts(10000) + s,
		} {
			wantError(t, other, api.ErrSyntax)
		}
	}
	for _, s := range []string{strings.Repeat("9", most+1), noughts(most + 1), noughts(most) + "7", "7." + noughts(most-1), "1e" + noughts(most), strings.Repeat("9", 2466), strings.Repeat("9", 1<<20)} {
		wantError(t, s, api.ErrSyntax)
	}
}

// A number at the limit stays what it is with noughts up to as many bytes as may be, and one nought more is told as wrong in its form.
func TestNoughtsUpToTheLimit(t *testing.T) {
	for _, s := range []string{"1e616", "1e-616", "1e617", "1e-617", "0.1e617", "7.5"} {
		full := noughts(most-len(s)) + s
		wantSame(t, full, s)
		wantError(t, "0"+full, api.ErrSyntax)
	}
}
