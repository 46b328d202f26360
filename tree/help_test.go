package tree_test

import (
	"fmt"
	"math"
	"math/rand"
	"regexp"
	"slices"
	"strings"
	"testing"

	"steelyard/api"
	"steelyard/tree"
)

const (
	// mostLiteral is how many bytes a literal has at most.
	mostLiteral = 400
	// mostUnit is how many bytes a literal's unit has at most.
	mostUnit = 200
	// sixteen and seventeen are words of as many bytes: as many as may be, and one more.
	sixteen   = "abcdefghijklmnop"
	seventeen = "abcdefghijklmnopq"
)

// What the document calls a literal, a name but for the text's own words, and a text that may stand in brackets.
var (
	literals = regexp.MustCompile(`^[0-9]+(\.[0-9]+)?(e-?[0-9]{1,3})?$`)
	names    = regexp.MustCompile(`^[A-Za-z_][A-Za-z0-9_]*$`)
	brackets = regexp.MustCompile(`^[^\]\n]*$`)
)

// ownWords are the words that a script's text has for itself.
func ownWords() []string {
	return []string{"unit", "source", "cov", "let", "output", "in"}
}

// joins are the kinds of two children.
func joins() []int {
	return []int{api.Add, api.Sub, api.Mul, api.Div}
}

// edges are numbers that are far out, or near a place.
func edges() []int {
	return []int{math.MinInt, math.MinInt + 1, math.MinInt32, -2001, -2000, -65, -64, -2, -1, 0, 1, 2, 3, 64, 65, 1999, 2000, 2001, math.MaxInt32, math.MaxInt - 1, math.MaxInt}
}

func lit(text, unit string) api.Node { return api.Node{Kind: api.Lit, Text: text, Unit: unit} }
func ref(name string) api.Node       { return api.Node{Kind: api.Ref, Text: name} }
func neg(a int) api.Node             { return api.Node{Kind: api.Neg, A: a} }
func pow(a, n int) api.Node          { return api.Node{Kind: api.Pow, A: a, N: n} }
func join(kind, a, b int) api.Node   { return api.Node{Kind: kind, A: a, B: b} }

// mayBe tells whether t may be, by the document's words.
func mayBe(t api.Tree) bool {
	if len(t) < 1 || len(t) > api.MaxNodes {
		return false
	}
	return slices.IndexFunc(t, func(n api.Node) bool { return !fields(n) }) < 0 && beneath(t, len(t)-1) == 0
}

// beneath tells the place of the first of all nodes beneath t[i] and itself; -1, if they do not stand in postorder.
func beneath(t api.Tree, i int) int {
	switch n := t[i]; n.Kind {
	case api.Lit, api.Ref:
		return i
	case api.Neg, api.Pow:
		if i == 0 || n.A != i-1 {
			return -1
		}
		return beneath(t, n.A)
	default:
		if i == 0 || n.B != i-1 {
			return -1
		}
		second := beneath(t, n.B)
		if second < 1 || n.A != second-1 {
			return -1
		}
		return beneath(t, n.A)
	}
}

// fields tells whether n's fields are such as its kind asks for, wherever its children stand.
func fields(n api.Node) bool {
	bare := n.Text == "" && n.Unit == ""
	switch n.Kind {
	case api.Lit:
		return literals.MatchString(n.Text) && len(n.Text) <= mostLiteral && brackets.MatchString(n.Unit) && len(n.Unit) <= mostUnit && n.A == 0 && n.B == 0 && n.N == 0
	case api.Ref:
		return names.MatchString(n.Text) && len(n.Text) <= api.MaxName && !slices.Contains(ownWords(), n.Text) && n.Unit == "" && n.A == 0 && n.B == 0 && n.N == 0
	case api.Add, api.Sub, api.Mul, api.Div:
		return bare && n.N == 0
	case api.Neg:
		return bare && n.B == 0 && n.N == 0
	case api.Pow:
		return bare && n.B == 0 && n.N >= -64 && n.N <= 64
	}
	return false
}

// depth tells the depth of what stands beneath t[i], by the document's words.
func depth(t api.Tree, i int) int {
	switch n := t[i]; n.Kind {
	case api.Lit, api.Ref:
		return 1
	case api.Neg, api.Pow:
		return 1 + depth(t, n.A)
	default:
		return 1 + max(depth(t, n.A), depth(t, n.B))
	}
}

// above tells the nodes of root's children behind one another, moved to where they stand, and root.
func above(root api.Node, children ...api.Tree) api.Tree {
	var out api.Tree
	for _, c := range children {
		by := len(out)
		for _, n := range c {
			if n.Kind >= api.Add && n.Kind <= api.Div {
				n.A, n.B = n.A+by, n.B+by
			} else if n.Kind == api.Neg || n.Kind == api.Pow {
				n.A += by
			}
			out = append(out, n)
		}
		root.A, root.B = root.B, len(out)-1
	}
	if len(children) == 1 {
		root.A, root.B = root.B, 0
	}
	return append(out, root)
}

// shown tells a tree's first nodes as text, so that what fails tells no more than can be read.
func shown(x api.Tree) string {
	if most := 10; len(x) > most {
		return fmt.Sprintf("%.100v and %d more", x[:most], len(x)-most)
	}
	return fmt.Sprintf("%.100v", x)
}

// wantTree asks for this tree, and for ok.
func wantTree(t *testing.T, what string, got api.Tree, ok bool, want api.Tree) {
	t.Helper()
	if !ok || !slices.Equal(got, want) {
		t.Errorf("%s = %s, %v, want %s", what, shown(got), ok, shown(want))
	}
}

// wantNone asks for false, and no tree beside it.
func wantNone(t *testing.T, what string, got api.Tree, ok bool) {
	t.Helper()
	if ok || len(got) != 0 {
		t.Errorf("%s = %s, %v, want none", what, shown(got), ok)
	}
}

// wantGood asks whether x may be, and its depth; it is the same as itself in either case.
func wantGood(t *testing.T, x api.Tree, want bool) {
	t.Helper()
	deep := 0
	if want {
		deep = depth(x, len(x)-1)
	}
	if got := tree.Good(x); got != want {
		t.Errorf("Good(%s) = %v", shown(x), got)
	}
	if got := tree.Deep(x); got != deep {
		t.Errorf("Deep(%s) = %d, want %d", shown(x), got, deep)
	}
	if !tree.Same(x, x) {
		t.Errorf("Same(%s) and itself = false", shown(x))
	}
}

// made tells the tree that a call told with true.
func made(t *testing.T) func(x api.Tree, ok bool) api.Tree {
	return func(x api.Tree, ok bool) api.Tree {
		t.Helper()
		if !ok {
			t.Fatalf("told %s, false", shown(x))
		}
		return x
	}
}

// kept tells a copy of a tree, its texts too.
func kept(x api.Tree) api.Tree {
	out := slices.Clone(x)
	for i := range out {
		out[i].Text, out[i].Unit = strings.Clone(out[i].Text), strings.Clone(out[i].Unit)
	}
	return out
}

// changed tells a copy of x in which f has changed the node at i.
func changed(x api.Tree, i int, f func(n *api.Node)) api.Tree {
	out := kept(x)
	f(&out[i])
	return out
}

// negs tells a chain of as many nodes: a literal, and a Neg on a Neg.
func negs(nodes int) api.Tree {
	x := api.Tree{lit("1", "")}
	for i := range nodes - 1 {
		x = append(x, neg(i))
	}
	return x
}

// leftChain tells a sum of so many terms, each behind the sum of those ahead.
func leftChain(terms int) api.Tree {
	x := api.Tree{ref("x")}
	for range terms - 1 {
		x = append(x, lit("2", "m"), join(api.Add, len(x)-1, len(x)))
	}
	return x
}

// rightChain tells a product of so many factors, each ahead of the product of those behind.
func rightChain(factors int) api.Tree {
	var x api.Tree
	for range factors {
		x = append(x, ref("x"))
	}
	for i := range factors - 1 {
		x = append(x, join(api.Mul, factors-2-i, len(x)-1))
	}
	return x
}

// grove tells trees of all kinds that may be.
func grove() []api.Tree {
	x, one := api.Tree{ref("x")}, api.Tree{lit("1.50e-3", "kg m / s^2")}
	sum := above(join(api.Add, 0, 0), one, x)
	ratio := above(join(api.Div, 0, 0), sum, above(neg(0), x))
	all := []api.Tree{
		x, one, sum, ratio,
		{ref("_")}, {ref(sixteen)}, {lit("0", "")}, {lit("007", "")}, {lit(strings.Repeat("7", mostLiteral), strings.Repeat("u", mostUnit))},
		above(neg(0), ratio), above(pow(0, 0), x), above(pow(0, 64), ratio), above(pow(0, -64), one),
		above(join(api.Sub, 0, 0), ratio, above(join(api.Mul, 0, 0), ratio, sum)),
		negs(30), leftChain(20), rightChain(20),
	}
	for i, y := range all {
		placed := kept(y)
		for j := range placed {
			placed[j].At = 1000*i + 7*j - 50
		}
		all = append(all, placed)
	}
	return all
}

// wild tells trees of all kinds that may not be.
func wild() []api.Tree {
	return []api.Tree{
		nil, {}, {{}}, {{Kind: -1}}, {{Kind: 9}}, {neg(0)}, {neg(-1)}, {pow(0, 2)}, {join(api.Add, 0, 0)},
		{lit("", "")}, {lit("x", "")}, {lit("1", "]")}, {ref("")}, {ref("let")}, {ref(seventeen)},
		{ref("x"), ref("y")}, {ref("x"), neg(1)}, {ref("x"), pow(0, 65)}, {ref("x"), ref("y"), join(api.Add, 1, 0)},
		{ref("x"), ref("y"), join(api.Add, 1, 1)}, {ref("x"), {}}, {{}, neg(0)}, {ref("x"), ref("y"), neg(0)}, {ref("x"), ref("y"), neg(1)}, negs(api.MaxNodes + 1),
	}
}

// randomLeaf tells a literal or a name.
func randomLeaf(r *rand.Rand) api.Node {
	if r.Intn(2) == 0 {
		return ref([]string{"x", "y", "_z9"}[r.Intn(3)])
	}
	return lit([]string{"1", "2.50", "3e-4"}[r.Intn(3)], []string{"", "m", "kg/s"}[r.Intn(3)])
}

// randomTree tells a tree of at most so many nodes, each with a place.
func randomTree(r *rand.Rand, most int) api.Tree {
	var x api.Tree
	switch pick := r.Intn(6); {
	case most > 2 && pick > 1:
		first := randomTree(r, most-2)
		x = above(join(joins()[r.Intn(4)], 0, 0), first, randomTree(r, most-1-len(first)))
	case most > 1 && pick == 1:
		x = above(neg(0), randomTree(r, most-1))
	case most > 1 && pick == 0:
		x = above(pow(0, r.Intn(129)-64), randomTree(r, most-1))
	default:
		x = api.Tree{randomLeaf(r)}
	}
	x[len(x)-1].At = r.Intn(4000)
	return x
}
