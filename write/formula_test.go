package write_test

import (
	"math"
	"math/rand"
	"strconv"
	"strings"
	"testing"

	"steelyard/api"
)

// P16.1: a Lit, with and without a Unit, and a Ref.
func TestLeaves(t *testing.T) {
	wantFormula(t, api.Tree{lit("1", "")}, "1")
	wantFormula(t, api.Tree{lit("2.50", "km")}, "2.50 [km]")
	wantFormula(t, api.Tree{lit("007e-3", " kg  m / s^2 ")}, "007e-3 [ kg  m / s^2 ]")
	wantFormula(t, api.Tree{lit("0", " ")}, "0 [ ]")
	wantFormula(t, api.Tree{lit("0", "#[ (;\xff")}, "0 [#[ (;\xff]")
	wantFormula(t, api.Tree{ref("x")}, "x")
	wantFormula(t, api.Tree{ref("_1")}, "_1")
	wantFormula(t, api.Tree{ref(sixteen)}, sixteen)
	long, wide := strings.Repeat("7", mostLiteral), strings.Repeat("u", mostUnit)
	wantFormula(t, api.Tree{lit(long, "")}, long)
	wantFormula(t, api.Tree{lit(long, wide)}, long+" ["+wide+"]")
	wantFormula(t, api.Tree{{Kind: api.Ref, Text: "x", At: math.MinInt}}, "x")
}

// P16.1: each kind of node, with leaves beneath.
func TestKinds(t *testing.T) {
	a, b, c := ref("a"), lit("2", "m"), lit("3", "")
	wantFormula(t, api.Tree{a, b, join(api.Add, 0, 1)}, "a + 2 [m]")
	wantFormula(t, api.Tree{b, c, join(api.Sub, 0, 1)}, "2 [m] - 3")
	wantFormula(t, api.Tree{b, a, join(api.Mul, 0, 1)}, "2 [m]*a")
	wantFormula(t, api.Tree{c, b, join(api.Div, 0, 1)}, "3/2 [m]")
	wantFormula(t, api.Tree{a, neg(0)}, "-a")
	wantFormula(t, api.Tree{b, neg(0)}, "-2 [m]")
	wantFormula(t, api.Tree{a, pow(0, 2)}, "a^2")
	wantFormula(t, api.Tree{b, pow(0, -3)}, "2 [m]^-3")
	wantFormula(t, api.Tree{c, pow(0, 0)}, "3^0")
	for n := -api.MaxPower; n <= api.MaxPower; n++ {
		wantFormula(t, api.Tree{a, pow(0, n)}, "a^"+strconv.Itoa(n))
		wantFormula(t, api.Tree{a, neg(0), pow(1, n)}, "(-a)^"+strconv.Itoa(n))
	}
}

// P16.1: what the document's words come to in formulas of two and three signs.
func TestBrackets(t *testing.T) {
	a, b, c := ref("a"), ref("b"), ref("c")
	wantFormula(t, api.Tree{a, b, c, join(api.Sub, 1, 2), join(api.Sub, 0, 3)}, "a - (b - c)")
	wantFormula(t, api.Tree{a, b, join(api.Sub, 0, 1), c, join(api.Sub, 2, 3)}, "a - b - c")
	wantFormula(t, api.Tree{a, b, c, join(api.Add, 1, 2), join(api.Add, 0, 3)}, "a + (b + c)")
	wantFormula(t, api.Tree{a, b, join(api.Add, 0, 1), c, join(api.Sub, 2, 3)}, "a + b - c")
	wantFormula(t, api.Tree{a, b, c, join(api.Mul, 1, 2), join(api.Mul, 0, 3)}, "a*(b*c)")
	wantFormula(t, api.Tree{a, b, join(api.Mul, 0, 1), c, join(api.Div, 2, 3)}, "a*b/c")
	wantFormula(t, api.Tree{a, b, c, join(api.Div, 1, 2), join(api.Div, 0, 3)}, "a/(b/c)")
	wantFormula(t, api.Tree{a, b, join(api.Add, 0, 1), c, join(api.Mul, 2, 3)}, "(a + b)*c")
	wantFormula(t, api.Tree{a, b, c, join(api.Mul, 1, 2), join(api.Add, 0, 3)}, "a + b*c")
	wantFormula(t, api.Tree{a, b, join(api.Mul, 0, 1), c, join(api.Add, 2, 3)}, "a*b + c")
	wantFormula(t, api.Tree{a, b, join(api.Add, 0, 1), neg(2)}, "-(a + b)")
	wantFormula(t, api.Tree{a, b, join(api.Mul, 0, 1), neg(2)}, "-(a*b)")
	wantFormula(t, api.Tree{a, neg(0), b, join(api.Mul, 1, 2)}, "-a*b")
	wantFormula(t, api.Tree{a, pow(0, 2), neg(1)}, "-a^2")
	wantFormula(t, api.Tree{a, neg(0), pow(1, 2)}, "(-a)^2")
	wantFormula(t, api.Tree{a, pow(0, 2), pow(1, 3)}, "(a^2)^3")
	wantFormula(t, api.Tree{a, neg(0), neg(1)}, "--a")
	wantFormula(t, api.Tree{a, b, neg(1), join(api.Sub, 0, 2)}, "a - -b")
	wantFormula(t, api.Tree{a, b, neg(1), join(api.Div, 0, 2)}, "a/-b")
	wantFormula(t, api.Tree{a, b, c, join(api.Div, 1, 2), neg(3), join(api.Add, 0, 4)}, "a + -(b/c)")
	wantFormula(t, api.Tree{a, b, join(api.Div, 0, 1), pow(2, -1)}, "(a/b)^-1")
}

// child tells a tree of this kind, with its text.
func child(kind int) (api.Tree, string) {
	a, b := ref("a"), ref("b")
	switch kind {
	case api.Lit:
		return api.Tree{lit("2", "m")}, "2 [m]"
	case api.Ref:
		return api.Tree{a}, "a"
	case api.Add:
		return api.Tree{a, b, join(kind, 0, 1)}, "a + b"
	case api.Sub:
		return api.Tree{a, b, join(kind, 0, 1)}, "a - b"
	case api.Mul:
		return api.Tree{a, b, join(kind, 0, 1)}, "a*b"
	case api.Div:
		return api.Tree{a, b, join(kind, 0, 1)}, "a/b"
	case api.Neg:
		return api.Tree{a, neg(0)}, "-a"
	}
	return api.Tree{a, pow(0, 3)}, "a^3"
}

// P16.1: every kind as a child, as A and as B, of every other: brackets just where the document sets them.
func TestChildren(t *testing.T) {
	none := []int{}
	sums := []int{api.Add, api.Sub}
	rows := []int{api.Add, api.Sub, api.Mul, api.Div}
	for _, below := range kinds() {
		x, text := child(below)
		for _, other := range kinds() {
			y, beside := child(other)
			both := func(kind int, sign string, first, second []int) {
				wantFormula(t, above(join(kind, 0, 0), x, y), bracketed(text, below, first...)+sign+bracketed(beside, other, second...))
			}
			both(api.Add, " + ", none, sums)
			both(api.Sub, " - ", none, sums)
			both(api.Mul, "*", sums, rows)
			both(api.Div, "/", sums, rows)
		}
		wantFormula(t, above(neg(0), x), "-"+bracketed(text, below, rows...))
		wantFormula(t, above(pow(0, -2), x), bracketed(text, below, api.Add, api.Sub, api.Mul, api.Div, api.Neg, api.Pow)+"^-2")
	}
}

// everyTree tells all trees of so many nodes, of these leaves.
func everyTree(most int, leaves ...api.Node) [][]api.Tree {
	all := [][]api.Tree{nil, nil}
	for _, n := range leaves {
		all[1] = append(all[1], api.Tree{n})
	}
	for nodes := 2; nodes <= most; nodes++ {
		var now []api.Tree
		for _, x := range all[nodes-1] {
			now = append(now, above(neg(0), x), above(pow(0, nodes-4), x))
		}
		for first := 1; first < nodes-1; first++ {
			for _, x := range all[first] {
				for _, y := range all[nodes-1-first] {
					for _, kind := range joins() {
						now = append(now, above(join(kind, 0, 0), x, y))
					}
				}
			}
		}
		all = append(all, now)
	}
	return all
}

// P16.1: the text of every tree of up to seven nodes.
func TestEveryShortFormula(t *testing.T) {
	for _, trees := range everyTree(7, ref("x"), lit("2", "m")) {
		for _, x := range trees {
			wantFormula(t, x, textOf(x))
		}
	}
}

// P16.1: the text of random trees.
func TestRandomFormulas(t *testing.T) {
	r := rand.New(rand.NewSource(16))
	for range 3000 {
		x := randomTree(r, 1+r.Intn(60))
		wantFormula(t, x, textOf(x))
	}
	for range 20 {
		x := randomTree(r, 300)
		for len(x) < 1600 {
			x = above(join(joins()[r.Intn(4)], 0, 0), x, randomTree(r, 300))
		}
		wantFormula(t, x, textOf(x))
	}
}

// P16.1: formulas as deep, and as wide, and of as many nodes, as may be.
func TestGreatFormulas(t *testing.T) {
	wantFormula(t, negs(2000), strings.Repeat("-", 1999)+"x")
	wantFormula(t, pows(2000), strings.Repeat("(", 1998)+"x"+strings.Repeat("^2)", 1998)+"^2")
	wantFormula(t, leftChain(api.Add, 1000, ref("x")), strings.Repeat("x + ", 999)+"x")
	wantFormula(t, leftChain(api.Sub, 1000, ref("x")), strings.Repeat("x - ", 999)+"x")
	wantFormula(t, leftChain(api.Mul, 1000, ref("x")), strings.Repeat("x*", 999)+"x")
	wantFormula(t, leftChain(api.Div, 1000, ref("x")), strings.Repeat("x/", 999)+"x")
	wantFormula(t, rightChain(api.Add, 1000, ref("x")), strings.Repeat("x + (", 998)+"x + x"+strings.Repeat(")", 998))
	wantFormula(t, rightChain(api.Sub, 1000, ref("x")), strings.Repeat("x - (", 998)+"x - x"+strings.Repeat(")", 998))
	wantFormula(t, rightChain(api.Mul, 1000, ref("x")), strings.Repeat("x*(", 998)+"x*x"+strings.Repeat(")", 998))
	wantFormula(t, rightChain(api.Div, 1000, ref("x")), strings.Repeat("x/(", 998)+"x/x"+strings.Repeat(")", 998))
	long, wide := strings.Repeat("7", mostLiteral), strings.Repeat("u", mostUnit)
	wantFormula(t, leftChain(api.Mul, 1000, lit(long, wide)), strings.Repeat(long+" ["+wide+"]*", 999)+long+" ["+wide+"]")
	half := api.Tree{ref("x")}
	for len(half) < 999 {
		half = above(join(api.Mul, 0, 0), half, half)
	}
	wantFormula(t, half, textOf(half))
}

// P16.1: of what may not be there is no text.
func TestNoFormulas(t *testing.T) {
	all := wild()
	for _, x := range all {
		wantNoFormula(t, x)
		for _, y := range all[:len(all)-4] {
			wantNoFormula(t, append(append(api.Tree{}, y...), x...))
		}
		wantNoFormula(t, above(neg(0), x))
		wantNoFormula(t, above(join(api.Mul, 0, 0), api.Tree{ref("x")}, x))
	}
	for _, a := range edges() {
		wantNoFormula(t, api.Tree{neg(a)})
		wantNoFormula(t, api.Tree{pow(a, 2)})
		wantNoFormula(t, api.Tree{ref("x"), ref("y"), neg(a)})
		if a < -64 || a > 64 {
			wantNoFormula(t, api.Tree{ref("x"), pow(0, a)})
		}
		if a < 1 || a > 8 {
			wantNoFormula(t, api.Tree{{Kind: a}})
			wantNoFormula(t, api.Tree{{Kind: a, Text: "x"}})
			wantNoFormula(t, api.Tree{ref("x"), {Kind: a}})
			wantNoFormula(t, api.Tree{ref("x"), ref("y"), join(a, 0, 1)})
		}
		for _, b := range edges() {
			wantNoFormula(t, api.Tree{join(api.Add, a, b)})
			wantNoFormula(t, api.Tree{ref("x"), join(api.Div, a, b)})
			if a != 0 || b != 1 {
				wantNoFormula(t, api.Tree{ref("x"), ref("y"), join(api.Sub, a, b)})
			}
		}
	}
}
