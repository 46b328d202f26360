package tree_test

import (
	"fmt"
	"math"
	"slices"
	"testing"

	"steelyard/api"
	"steelyard/tree"
)

// P14.1: the first example: the sum of 1 and x.
func TestExample(t *testing.T) {
	is := made(t)
	one, x := is(tree.Lit("1", "")), is(tree.Ref("x"))
	sum, ok := tree.Join(api.Add, one, x)
	wantTree(t, "1 + x", sum, ok, api.Tree{{Kind: api.Lit, Text: "1"}, {Kind: api.Ref, Text: "x"}, {Kind: api.Add, A: 0, B: 1}})
}

// P14.1: the nodes of (2.5 [m] + x)^-3 by -(2.5 [m] + x), each where it stands.
func TestNodesAreMoved(t *testing.T) {
	is := made(t)
	length, x := is(tree.Lit("2.5", "m")), is(tree.Ref("x"))
	length[0].At, x[0].At = 5, -3
	sum := is(tree.Join(api.Add, length, x))
	wantTree(t, "sum", sum, true, api.Tree{{Kind: api.Lit, Text: "2.5", Unit: "m", At: 5}, {Kind: api.Ref, Text: "x", At: -3}, {Kind: api.Add, A: 0, B: 1}})
	sum[2].At = 40
	power := is(tree.Pow(sum, -3))
	wantTree(t, "power", power, true, api.Tree{{Kind: api.Lit, Text: "2.5", Unit: "m", At: 5}, {Kind: api.Ref, Text: "x", At: -3}, {Kind: api.Add, A: 0, B: 1, At: 40}, {Kind: api.Pow, A: 2, N: -3}})
	power[3].At = 50
	below := is(tree.Neg(sum))
	below[3].At = 60
	ratio := is(tree.Join(api.Div, power, below))
	wantTree(t, "ratio", ratio, true, api.Tree{
		{Kind: api.Lit, Text: "2.5", Unit: "m", At: 5}, {Kind: api.Ref, Text: "x", At: -3}, {Kind: api.Add, A: 0, B: 1, At: 40}, {Kind: api.Pow, A: 2, N: -3, At: 50},
		{Kind: api.Lit, Text: "2.5", Unit: "m", At: 5}, {Kind: api.Ref, Text: "x", At: -3}, {Kind: api.Add, A: 4, B: 5, At: 40}, {Kind: api.Neg, A: 6, At: 60},
		{Kind: api.Div, A: 3, B: 7}})
}

// P14.1: Join of every kind, of every two trees.
func TestJoin(t *testing.T) {
	kinds := append(edges(), 4, 5, 6, 7, 8, 9, 10, 11, 12)
	for _, a := range grove() {
		for _, b := range grove() {
			for _, kind := range kinds {
				x, ok := tree.Join(kind, a, b)
				what := fmt.Sprintf("Join(%d, %s, %s)", kind, shown(a), shown(b))
				if slices.Contains(joins(), kind) {
					wantTree(t, what, x, ok, above(join(kind, 0, 0), a, b))
				} else {
					wantNone(t, what, x, ok)
				}
			}
		}
	}
}

// P14.1: Join of trees that may not be, on either side.
func TestJoinOfNoTree(t *testing.T) {
	for kind := -1; kind <= 12; kind++ {
		for _, bad := range wild() {
			for _, other := range append(grove(), wild()...) {
				x, ok := tree.Join(kind, bad, other)
				wantNone(t, "Join of a first tree that may not be", x, ok)
				y, ok := tree.Join(kind, other, bad)
				wantNone(t, "Join of a second tree that may not be", y, ok)
			}
		}
	}
}

// P14.1: Neg of trees, and of such as may not be.
func TestNeg(t *testing.T) {
	for _, a := range grove() {
		x, ok := tree.Neg(a)
		wantTree(t, fmt.Sprintf("Neg(%s)", shown(a)), x, ok, above(neg(0), a))
	}
	for _, bad := range wild() {
		x, ok := tree.Neg(bad)
		wantNone(t, fmt.Sprintf("Neg(%s)", shown(bad)), x, ok)
	}
}

// P14.1: Pow by each exponent that may be, and by such as may not.
func TestPow(t *testing.T) {
	for _, a := range grove() {
		for n := -64; n <= 64; n++ {
			x, ok := tree.Pow(a, n)
			wantTree(t, fmt.Sprintf("Pow(%s, %d)", shown(a), n), x, ok, above(pow(0, n), a))
		}
		for _, n := range []int{-65, 65, -66, 66, -1000, 1000, math.MinInt32, math.MaxInt32, math.MinInt, math.MinInt + 1, math.MinInt + 64, math.MaxInt - 64, math.MaxInt, 1 << 32, 1 << 62, -1 << 32} {
			x, ok := tree.Pow(a, n)
			wantNone(t, fmt.Sprintf("Pow(%s, %d)", shown(a), n), x, ok)
		}
	}
	for _, bad := range wild() {
		for n := -65; n <= 65; n++ {
			x, ok := tree.Pow(bad, n)
			wantNone(t, fmt.Sprintf("Pow(%s, %d)", shown(bad), n), x, ok)
		}
	}
}

// P14.1: as many nodes as there may be, made one by one, and one more.
func TestMostNodes(t *testing.T) {
	is := made(t)
	full := is(tree.Lit("1", ""))
	for i := range api.MaxNodes - 1 {
		if i%2 == 0 {
			full = is(tree.Neg(full))
		} else {
			full = is(tree.Pow(full, 2))
		}
	}
	if len(full) != 2000 {
		t.Fatalf("%d nodes", len(full))
	}
	wantGood(t, full, true)
	x, ok := tree.Neg(full)
	wantNone(t, "Neg of 2000 nodes", x, ok)
	x, ok = tree.Pow(full, 2)
	wantNone(t, "Pow of 2000 nodes", x, ok)
	for _, nodes := range []int{1, 2, 3, 2000} {
		x, ok = tree.Join(api.Add, full, negs(nodes))
		wantNone(t, "Join of 2000 nodes and more", x, ok)
		x, ok = tree.Join(api.Add, negs(nodes), full)
		wantNone(t, "Join of more and 2000 nodes", x, ok)
	}
}

// P14.1: Join of two trees that have just as many nodes as may be, or one more.
func TestJoinAtTheMostNodes(t *testing.T) {
	for _, kind := range joins() {
		for _, first := range []int{1, 2, 999, 1000, 1001, 1997, 1998} {
			a, b := negs(first), negs(1999-first)
			x, ok := tree.Join(kind, a, b)
			wantTree(t, "Join to 2000 nodes", x, ok, above(join(kind, 0, 0), a, b))
			wantGood(t, x, true)
			x, ok = tree.Join(kind, a, negs(2000-first))
			wantNone(t, "Join to 2001 nodes", x, ok)
		}
	}
	x, ok := tree.Neg(leftChain(1000))
	wantTree(t, "Neg to 2000 nodes", x, ok, above(neg(0), leftChain(1000)))
	wantGood(t, x, true)
	x, ok = tree.Join(api.Add, leftChain(1000), api.Tree{ref("x")})
	wantNone(t, "Join to 2001 nodes", x, ok)
}
