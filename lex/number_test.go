package lex_test

import (
	"strings"
	"testing"

	"steelyard/api"
	"steelyard/literal"
)

// shapes tells literals of every make: each part there or not, of one digit and of more, noughts at all their places.
func shapes() []string {
	var all []string
	for _, whole := range []string{"0", "7", "00", "10", "007", "120", "1234567890"} {
		for _, places := range []string{"", ".0", ".5", ".000", ".050", ".1234567890"} {
			for _, exponent := range []string{"", "e0", "e9", "e-0", "e-9", "e00", "e12", "e-12", "e000", "e-000", "e007", "e999", "e-999"} {
				all = append(all, whole+places+exponent)
			}
		}
	}
	return all
}

func TestNumbers(t *testing.T) {
	for _, s := range shapes() {
		n := len(s)
		wantTokens(t, s, number(s, 0))
		wantTokens(t, " "+s+"\n", number(s, 1))
		wantTokens(t, "-"+s, sign("-", 0), number(s, 1))
		wantTokens(t, "x "+s+"[m]", word("x", 0), number(s, 2), units("m", n+2))
		wantTokens(t, s+"^"+s, number(s, 0), sign("^", n), number(s, n+1))
		wantTokens(t, s+"-"+s, number(s, 0), sign("-", n), number(s, n+1))
		wantTokens(t, s+"#.5", number(s, 0))
		wantTokens(t, s+" x", number(s, 0), word("x", n+1))
		wantLex(t, s+" |.5")
		wantLex(t, s+"|?")
		wantLex(t, s+"|,5")
		wantLex(t, s+"|\xff")
		for _, c := range []string{".", "x", "_", "e", "E", "ee", "e.", "e+", "e+5", "x.", ".x", "._", "f", "i", "Z9", "_1"} {
			wantLex(t, "|"+s+c)
			wantLex(t, "x=|"+s+c+";")
			wantLex(t, "1 2\n|"+s+c+" ?")
		}
		wantLex(t, "|"+s+".x")
		wantLex(t, "|"+s+"e-")
		wantLex(t, "|"+s+"e-x")
	}
}

// Of what begins with a literal the longest one is the number; a letter, _ or . at once behind it is told at its first byte.
func TestTheLongestLiteral(t *testing.T) {
	for _, marked := range []string{
		"|1.5.2", "|1.", "|3e", "|3e+", "|3e+5", "|3e-", "|3e--5", "|1e5x", "|2x", "|2_", "|1..2", "|1.x", "|1.e5", "|1._", "|1.5x", "|1.5_", "|1.5e", "|1.5e-", "|1.5e5.", "|1.5e5e5", "|1e5.5", "|1e5_", "|1e-5e", "|1e555x", "|1e555_", "|1e555.",
		"|1e.5", "|1ee5", "|1E5", "|1e5E5", "|0x1f", "|0b1", "|1_000", "|1i", "|3in", "|60in", "|2e3in", "|7unit", "|1.-5", "|1.+5", "|1. 5", "|1.\n5", "|1.#5", "|1e\n5", "|1e#", "|1e[m]", "|1.[m]", "|1e é", "|1.é",
		"x^|2y", "(|2x)", "[m]|2x", "-|2x", "1/|2x", "1 + |2.", "1;|3e;", "1e2345 |1x", "1e234|5x", "1e234|5.", "1e-234|5_", "1e234|56e", "1.5e123|4.5.6", "1e999|9e9x",
	} {
		wantLex(t, marked)
		wantLex(t, marked+" ?")
		wantLex(t, " "+marked)
	}
	wantTokens(t, "1e2345", number("1e234", 0), number("5", 5))
	wantTokens(t, "1.5e1234.5", number("1.5e123", 0), number("4.5", 7))
	wantTokens(t, "1e-0000e1", number("1e-000", 0), number("0e1", 6))
	wantTokens(t, "1e234567e8901", number("1e234", 0), number("567e890", 5), number("1", 12))
	wantTokens(t, "1-e", number("1", 0), sign("-", 1), word("e", 2))
	wantTokens(t, "1e5-e5", number("1e5", 0), sign("-", 3), word("e5", 4))
	wantTokens(t, "1-2", number("1", 0), sign("-", 1), number("2", 2))
	wantTokens(t, "1e-5-5", number("1e-5", 0), sign("-", 4), number("5", 5))
	wantTokens(t, "1e5+5", number("1e5", 0), sign("+", 3), number("5", 4))
	wantTokens(t, "e5 1", word("e5", 0), number("1", 3))
	wantTokens(t, "x1 1.5", word("x1", 0), number("1.5", 3))
	wantLex(t, "x1|.5")
	wantLex(t, "|.5")
	wantLex(t, "-|.5")
	wantLex(t, "+|.")
}

// A number has as many bytes as it may, noughts ahead and all other parts among them, and not one more.
func TestLongNumbers(t *testing.T) {
	for _, s := range []string{"7", "0", "1.5", "3e5", "3e-5", "12.50e-1", "0.0e000", "9e999", "1e-999"} {
		most := strings.Repeat("0", mostNumber-len(s)) + s
		sevens := strings.Repeat("7", mostNumber-len(s)) + s
		for _, most := range []string{most, sevens} {
			wantTokens(t, most, number(most, 0))
			wantTokens(t, most+" 1", number(most, 0), number("1", mostNumber+1))
			wantTokens(t, most+"[m]", number(most, 0), units("m", mostNumber))
			wantTokens(t, "-"+most+";", sign("-", 0), number(most, 1), sign(";", mostNumber+1))
			wantTokens(t, most+"/"+most, number(most, 0), sign("/", mostNumber), number(most, mostNumber+1))
			wantLex(t, "|"+most+"x")
			wantLex(t, "|"+most+".")
			wantLex(t, "|"+most+"_")
			wantLex(t, most+" |?")
			for _, longer := range []string{"0" + most, "7" + most, strings.Repeat("1", 112) + most, strings.Repeat("0", mostNumber) + s} {
				wantLex(t, "|"+longer)
				wantLex(t, "|"+longer+" ")
				wantLex(t, "|"+longer+"x")
				wantLex(t, "|"+longer+".")
				wantLex(t, "|"+longer+" ?")
				wantLex(t, "x = |"+longer+";")
				wantLex(t, most+" |"+longer)
			}
		}
	}
	places := "1." + strings.Repeat("3", mostNumber-2)
	wantTokens(t, places, number(places, 0))
	wantLex(t, "|"+places+"3")
	wantLex(t, "|"+places+"e1")
	exponent := strings.Repeat("3", mostNumber-4) + "e123"
	wantTokens(t, exponent, number(exponent, 0))
	wantTokens(t, exponent+"4", number(exponent, 0), number("4", mostNumber))
	wantLex(t, exponent+"|4x")
	wantLex(t, "|3"+exponent+"4")
	wantLex(t, "|"+strings.Repeat("3", 399)+".5")
	wantLex(t, "|"+strings.Repeat("3", 399)+"e5")
	wantLex(t, "|"+strings.Repeat("3", 400)+"e5")
	wantLex(t, "|"+strings.Repeat("3", 3999))
}

// A number's text is a good literal, the longest that stands there.
func TestNumbersAreLiterals(t *testing.T) {
	for _, s := range append(append(scripts(), pieces()...), shapes()...) {
		for _, k := range tokens(t, s) {
			if k.Kind == api.Number && (!literal.Good(k.Text) || literal.Length(s[k.At:]) != len(k.Text)) {
				t.Errorf("of %q: %v", s, k)
			}
		}
	}
}
