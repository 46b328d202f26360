package parse_test

import (
	"strconv"
	"strings"
	"testing"

	"steelyard/api"
)

// wantBoth asks for these nodes of a formula alone, and for the same ones within a script, further on.
func wantBoth(t *testing.T, s string, want ...api.Node) {
	t.Helper()
	wantTree(t, s, most(), want...)
	moved := api.Decl{Kind: api.DOutput, Name: "y", Places: 2, At: 10}
	for _, n := range want {
		n.At += 12
		moved.Tree = append(moved.Tree, n)
	}
	wantScript(t, "# \noutput y="+s+"\n:2;", most(), moved)
}

func TestAtoms(t *testing.T) {
	wantBoth(t, "x", ref("x", 0))
	wantBoth(t, " abcdefghijklmnop ", ref("abcdefghijklmnop", 1))
	wantBoth(t, "1", lit("1", "", 0))
	wantBoth(t, "#\n1.50e-3", lit("1.50e-3", "", 2))
	wantBoth(t, "2[m]", lit("2", "m", 0))
	wantBoth(t, "2 # note\n[ m / s ] # note", lit("2", " m / s ", 0))
	wantBoth(t, "007[in]", lit("007", "in", 0))
	wantBoth(t, "(x)", ref("x", 1))
	wantBoth(t, "( ( ( 2 [m] ) ) )", lit("2", "m", 6))
	long := strings.Repeat("7", 400)
	wantBoth(t, long+"["+strings.Repeat("u", 200)+"]", lit(long, strings.Repeat("u", 200), 0))
	for _, s := range []string{"|", " |", "#\n|", "|[m]", "x|[m]", "x |y", "x |1", "1 |x", "1 |2", "1[m]|[m]", "1[m] |2", "1[m] |x", "(x)|[m]", "(1)|[m]", "(x) |y", "(x) |1", "(x)|(y)", "x|(y)", "2|(x)", "1[m]|(x)", "(|)", "(|[m])", "(|", "(x|", "(x |y)", "((x)|", "((x|", "|)", "x|)", "(x)|)", "1|=2", "1|:2", "|=", "|:", "(|=)", "(|:)", "(x|:y)"} {
		wantWrong(t, s)
	}
	wantNoTree(t, "x;", most(), api.ErrSyntax, 1)
	wantNoTree(t, ";", most(), api.ErrSyntax, 0)
	wantNoTree(t, "(x;)", most(), api.ErrSyntax, 2)
	wantNoTree(t, "(x;)", api.Limits{Text: 4, Deep: 1, Nodes: 1}, api.ErrSyntax, 2)
	wantNoTree(t, "x # and no more\n", api.Limits{Text: 4}, api.ErrLimit, 0)
	wantNoTree(t, "x + # and no more\n", most(), api.ErrSyntax, 18)
}

// Sums and products go from left to right, products within sums.
func TestRows(t *testing.T) {
	wantBoth(t, "a+b", ref("a", 0), ref("b", 2), join(api.Add, 0, 1, 1))
	wantBoth(t, "a - 1 [m]", ref("a", 0), lit("1", "m", 4), join(api.Sub, 0, 1, 2))
	wantBoth(t, "a*b", ref("a", 0), ref("b", 2), join(api.Mul, 0, 1, 1))
	wantBoth(t, "a/b", ref("a", 0), ref("b", 2), join(api.Div, 0, 1, 1))
	wantBoth(t, "a-b-c", ref("a", 0), ref("b", 2), join(api.Sub, 0, 1, 1), ref("c", 4), join(api.Sub, 2, 3, 3))
	wantBoth(t, "a-b+c", ref("a", 0), ref("b", 2), join(api.Sub, 0, 1, 1), ref("c", 4), join(api.Add, 2, 3, 3))
	wantBoth(t, "a/b/c", ref("a", 0), ref("b", 2), join(api.Div, 0, 1, 1), ref("c", 4), join(api.Div, 2, 3, 3))
	wantBoth(t, "a/b*c", ref("a", 0), ref("b", 2), join(api.Div, 0, 1, 1), ref("c", 4), join(api.Mul, 2, 3, 3))
	wantBoth(t, "a*b/c", ref("a", 0), ref("b", 2), join(api.Mul, 0, 1, 1), ref("c", 4), join(api.Div, 2, 3, 3))
	wantBoth(t, "a+b*c", ref("a", 0), ref("b", 2), ref("c", 4), join(api.Mul, 1, 2, 3), join(api.Add, 0, 3, 1))
	wantBoth(t, "a*b+c", ref("a", 0), ref("b", 2), join(api.Mul, 0, 1, 1), ref("c", 4), join(api.Add, 2, 3, 3))
	wantBoth(t, "a-b/c-d", ref("a", 0), ref("b", 2), ref("c", 4), join(api.Div, 1, 2, 3), join(api.Sub, 0, 3, 1), ref("d", 6), join(api.Sub, 4, 5, 5))
	wantBoth(t, "a*b+c/d", ref("a", 0), ref("b", 2), join(api.Mul, 0, 1, 1), ref("c", 4), ref("d", 6), join(api.Div, 3, 4, 5), join(api.Add, 2, 5, 3))
	wantBoth(t, "a-(b-c)", ref("a", 0), ref("b", 3), ref("c", 5), join(api.Sub, 1, 2, 4), join(api.Sub, 0, 3, 1))
	wantBoth(t, "(a-b)-c", ref("a", 1), ref("b", 3), join(api.Sub, 0, 1, 2), ref("c", 6), join(api.Sub, 2, 3, 5))
	wantBoth(t, "a/(b*c)", ref("a", 0), ref("b", 3), ref("c", 5), join(api.Mul, 1, 2, 4), join(api.Div, 0, 3, 1))
	wantBoth(t, "(a+b)*(c-d)", ref("a", 1), ref("b", 3), join(api.Add, 0, 1, 2), ref("c", 7), ref("d", 9), join(api.Sub, 3, 4, 8), join(api.Mul, 2, 5, 5))
	for _, s := range []string{"|+x", "|*x", "|/x", "x+|", "x-|", "x*|", "x/|", "x+|+y", "x-|+y", "x*|+y", "x/|+y", "x+|*y", "x*|*y", "x*|/y", "x/|/y", "x-|*y", "-|+x", "-|*x", "(|+x)", "(x+|)", "(x*|)", "x+|[m]", "x*|:", "x+|=y", "x+|"} {
		wantWrong(t, s)
	}
}

// A sign ahead of a factor stands within products and sums, and around powers.
func TestSigns(t *testing.T) {
	wantBoth(t, "-x", ref("x", 1), neg(0, 0))
	wantBoth(t, "- 1 [m]", lit("1", "m", 2), neg(0, 0))
	wantBoth(t, "--x", ref("x", 2), neg(0, 1), neg(1, 0))
	wantBoth(t, "-(-x)", ref("x", 3), neg(0, 2), neg(1, 0))
	wantBoth(t, "-x^2", ref("x", 1), pow(0, 2, 2), neg(1, 0))
	wantBoth(t, "--x^2", ref("x", 2), pow(0, 2, 3), neg(1, 1), neg(2, 0))
	wantBoth(t, "(-x)^2", ref("x", 2), neg(0, 1), pow(1, 2, 4))
	wantBoth(t, "-(x^2)", ref("x", 2), pow(0, 2, 3), neg(1, 0))
	wantBoth(t, "-a*b", ref("a", 1), neg(0, 0), ref("b", 3), join(api.Mul, 1, 2, 2))
	wantBoth(t, "a*-b", ref("a", 0), ref("b", 3), neg(1, 2), join(api.Mul, 0, 2, 1))
	wantBoth(t, "a/-b/c", ref("a", 0), ref("b", 3), neg(1, 2), join(api.Div, 0, 2, 1), ref("c", 5), join(api.Div, 3, 4, 4))
	wantBoth(t, "-a-b", ref("a", 1), neg(0, 0), ref("b", 3), join(api.Sub, 1, 2, 2))
	wantBoth(t, "a--b", ref("a", 0), ref("b", 3), neg(1, 2), join(api.Sub, 0, 2, 1))
	wantBoth(t, "a+-b", ref("a", 0), ref("b", 3), neg(1, 2), join(api.Add, 0, 2, 1))
	wantBoth(t, "-(a+b)", ref("a", 2), ref("b", 4), join(api.Add, 0, 1, 3), neg(2, 0))
	wantBoth(t, "-a^2*b", ref("a", 1), pow(0, 2, 2), neg(1, 0), ref("b", 5), join(api.Mul, 2, 3, 4))
	for _, s := range []string{"-|", "--|", "-|)", "(-|)", "-|[m]", "x--|", "-|=", "-|^2", "(-|", "-x |y", "-x|[m]"} {
		wantWrong(t, s)
	}
}

// An exponent stands behind an atom alone, and one time.
func TestPowers(t *testing.T) {
	wantBoth(t, "x^2", ref("x", 0), pow(0, 2, 1))
	wantBoth(t, "x ^ - 2", ref("x", 0), pow(0, -2, 2))
	wantBoth(t, "x^#\n-#\n2#", ref("x", 0), pow(0, -2, 1))
	wantBoth(t, "3^2", lit("3", "", 0), pow(0, 2, 1))
	wantBoth(t, "3 [m]^2", lit("3", "m", 0), pow(0, 2, 5))
	wantBoth(t, "(x)^2", ref("x", 1), pow(0, 2, 3))
	wantBoth(t, "(x^2)^3", ref("x", 1), pow(0, 2, 2), pow(1, 3, 5))
	wantBoth(t, "((x)^2)^-3", ref("x", 2), pow(0, 2, 4), pow(1, -3, 7))
	wantBoth(t, "(a+b)^2", ref("a", 1), ref("b", 3), join(api.Add, 0, 1, 2), pow(2, 2, 5))
	wantBoth(t, "a^2*b^-1", ref("a", 0), pow(0, 2, 1), ref("b", 4), pow(2, -1, 5), join(api.Mul, 1, 3, 3))
	wantBoth(t, "a-b^2", ref("a", 0), ref("b", 2), pow(1, 2, 3), join(api.Sub, 0, 2, 1))
	wantBoth(t, "a^2-1", ref("a", 0), pow(0, 2, 1), lit("1", "", 4), join(api.Sub, 1, 2, 3))
	for _, s := range []string{"x^|", "x^|y", "x^|)", "x^|(2)", "x^|[2]", "x^|+2", "x^|^2", "x^|*2", "x^|:", "x^-|", "x^-|-2", "x^-|y", "x^-|(2)", "x^2|^3", "x^2|^-3", "-x^2|^3", "(x^2)^3|^4", "x^2|[m]", "x^2 |3", "x^2 |y", "x^2|(y)", "|^2", "(|^2)", "(x)^|", "x^|in", "x^2/|", "x^-|[m]"} {
		wantWrong(t, s)
	}
}

// An exponent is of one to three digits, noughts ahead among them, and at most MaxPower; a number in any other form is none.
func TestExponents(t *testing.T) {
	for n := range 1000 {
		for _, digits := range []string{strconv.Itoa(n), strconv.Itoa(1000 + n)[1:], strconv.Itoa(1000 + n)[2:]} {
			if m, _ := strconv.Atoi(digits); m != n {
				continue
			}
			if n > api.MaxPower {
				wantTooMuch(t, "x^|"+digits, most())
				wantTooMuch(t, "x^-|"+digits, most())
				continue
			}
			wantBoth(t, "x^"+digits, ref("x", 0), pow(0, n, 1))
			wantBoth(t, "x ^ - "+digits, ref("x", 0), pow(0, -n, 2))
		}
	}
	for _, s := range []string{"0000", "0001", "0064", "1000", "1.0", "1.5", "0.5", "2.0", "1e0", "1e1", "2e1", "1e-1", "64.0", "1234567890", "99999999999999999999999999", "18446744073709551617", "4294967297"} {
		wantWrong(t, "x^|"+s)
		wantWrong(t, "x^-|"+s)
		wantWrong(t, "(x^|"+s+")")
	}
	// A digit behind an exponent's third one is a number of its own.
	wantWrong(t, "x^|1e2345")
	wantBoth(t, "1e234", lit("1e234", "", 0))
	wantWrong(t, "1e234|5")
}

// Brackets leave no node; they close where they were opened.
func TestBrackets(t *testing.T) {
	for deep := range 61 {
		open, end := strings.Repeat("(", deep), strings.Repeat(")", deep)
		wantBoth(t, open+"x"+end, ref("x", deep))
		wantBoth(t, open+"1[m]"+end+"^3", lit("1", "m", deep), pow(0, 3, 2*deep+4))
		wantWrong(t, open+"x"+end+"|)")
		if deep > 0 {
			wantWrong(t, open+"x"+end[1:]+"|")
			wantWrong(t, open+"|"+end)
		}
	}
	for _, s := range []string{"(a+(b)|", "(a+b)|)", "((a)+(b)|", "(a|(b))", "(|)", "a+(|)", "(a)+|)"} {
		wantWrong(t, s)
	}
}
