package tree_test

import (
	"math"
	"math/rand"
	"testing"

	"steelyard/api"
	"steelyard/tree"
)

// P14.1: Good and Deep of trees of all kinds, and of what is no tree.
func TestGood(t *testing.T) {
	for _, x := range grove() {
		if !mayBe(x) {
			t.Fatal(shown(x))
		}
		wantGood(t, x, true)
	}
	for _, x := range wild() {
		if mayBe(x) {
			t.Fatal(shown(x))
		}
		wantGood(t, x, false)
	}
}

// P14.1: children that stand where they may not.
func TestChildrensPlaces(t *testing.T) {
	x, y := ref("x"), lit("1", "m")
	for _, a := range edges() {
		for _, b := range edges() {
			for _, kind := range joins() {
				wantGood(t, api.Tree{join(kind, a, b)}, false)
				wantGood(t, api.Tree{x, join(kind, a, b)}, false)
				wantGood(t, api.Tree{x, y, join(kind, a, b)}, a == 0 && b == 1)
				wantGood(t, api.Tree{x, y, y, join(kind, a, b)}, false)
				wantGood(t, api.Tree{x, neg(0), y, join(kind, a, b)}, a == 1 && b == 2)
				wantGood(t, api.Tree{x, y, neg(1), join(kind, a, b)}, a == 0 && b == 2)
				wantGood(t, api.Tree{x, y, join(kind, a, b), neg(2)}, a == 0 && b == 1)
				wantGood(t, api.Tree{join(kind, a, b), x, y}, false)
			}
			wantGood(t, api.Tree{x, api.Node{Kind: api.Neg, A: a, B: b}}, a == 0 && b == 0)
			wantGood(t, api.Tree{x, api.Node{Kind: api.Pow, A: a, B: b}}, a == 0 && b == 0)
		}
		wantGood(t, api.Tree{neg(a)}, false)
		wantGood(t, api.Tree{pow(a, 2)}, false)
		wantGood(t, api.Tree{x, neg(a)}, a == 0)
		wantGood(t, api.Tree{x, pow(a, 2)}, a == 0)
		wantGood(t, api.Tree{x, y, neg(a)}, false)
		wantGood(t, api.Tree{x, neg(0), neg(a)}, a == 1)
		wantGood(t, api.Tree{x, y, join(api.Sub, 0, 1), pow(a, 3)}, a == 2)
		wantGood(t, api.Tree{x, y, pow(a, 3), join(api.Sub, 0, 2)}, a == 1)
		wantGood(t, api.Tree{x, pow(a, 2), y, join(api.Sub, 1, 2)}, a == 0)
	}
}

// P14.1: nodes that are over, ahead of a tree, behind it, or within.
func TestNodesOver(t *testing.T) {
	for _, x := range []api.Tree{
		{ref("x"), ref("y")},
		{ref("x"), lit("1", ""), ref("y")},
		{ref("x"), ref("y"), ref("z"), join(api.Add, 1, 2)},
		{ref("x"), ref("y"), ref("z"), join(api.Add, 0, 2)},
		{ref("x"), ref("y"), ref("z"), join(api.Add, 0, 1)},
		{ref("x"), ref("y"), join(api.Add, 0, 1), ref("z")},
		{ref("x"), ref("y"), join(api.Add, 0, 1), ref("z"), ref("u"), join(api.Add, 3, 4)},
		{ref("x"), ref("y"), join(api.Add, 0, 1), join(api.Mul, 2, 2)},
		{ref("x"), ref("y"), join(api.Add, 0, 1), join(api.Mul, 0, 2)},
		{ref("x"), ref("y"), join(api.Add, 0, 1), join(api.Mul, 1, 2)},
		{ref("x"), neg(0), ref("y"), join(api.Add, 0, 2)},
		{ref("x"), join(api.Add, 0, 0)},
		{ref("x"), neg(0), neg(0)},
		{ref("x"), neg(0), join(api.Add, 0, 1)},
	} {
		wantGood(t, x, false)
	}
}

// P14.1: a field that the kind has not is zero in each of a tree's nodes; At is any number.
func TestFields(t *testing.T) {
	x := api.Tree{lit("1", "m"), ref("x"), join(api.Add, 0, 1), lit("2", ""), join(api.Sub, 2, 3), neg(4), ref("y"), join(api.Mul, 5, 6), pow(7, -2), lit("3.0", ""), join(api.Div, 8, 9)}
	wantGood(t, x, true)
	for i := range x {
		for _, n := range edges() {
			for _, y := range []api.Tree{
				changed(x, i, func(m *api.Node) { m.A = n }),
				changed(x, i, func(m *api.Node) { m.B = n }),
				changed(x, i, func(m *api.Node) { m.N = n }),
				changed(x, i, func(m *api.Node) { m.Kind = n }),
			} {
				wantGood(t, y, mayBe(y))
			}
			wantGood(t, changed(x, i, func(m *api.Node) { m.At = n }), true)
		}
		for _, text := range []string{"", "1", "x", "m", "in", " ", "2.50e-3", "\xff"} {
			y, z := changed(x, i, func(m *api.Node) { m.Text = text }), changed(x, i, func(m *api.Node) { m.Unit = text })
			wantGood(t, y, mayBe(y))
			wantGood(t, z, mayBe(z))
		}
	}
}

// P14.1: a node whose fields all are zero is none, whatever its At; so is one of any other kind.
func TestNoKind(t *testing.T) {
	for _, kind := range []int{math.MinInt, -3, -1, 0, 9, 10, 11, 12, 100, 257, math.MaxInt} {
		for _, at := range []int{0, 1, -1} {
			none := api.Node{Kind: kind, At: at}
			wantGood(t, api.Tree{none}, false)
			wantGood(t, api.Tree{none, neg(0)}, false)
			wantGood(t, api.Tree{ref("x"), none}, false)
			wantGood(t, api.Tree{ref("x"), none, join(api.Add, 0, 1)}, false)
			for _, n := range []api.Node{{Text: "1"}, {Text: "x"}, {A: 0, B: 1}, {N: 2}} {
				n.Kind, n.At = kind, at
				wantGood(t, api.Tree{n}, false)
				wantGood(t, api.Tree{ref("x"), ref("y"), n}, false)
			}
		}
	}
}

// P14.1: Good of every list of up to four of these nodes.
func TestGoodOfShortLists(t *testing.T) {
	nodes := []api.Node{lit("1", "m"), ref("x")}
	for a := -1; a <= 3; a++ {
		nodes = append(nodes, neg(a), pow(a, 2))
		for b := -1; b <= 3; b++ {
			nodes = append(nodes, join(api.Mul, a, b))
		}
	}
	var grow func(x api.Tree)
	grow = func(x api.Tree) {
		if got, want := tree.Good(x), mayBe(x); got != want {
			t.Fatalf("Good(%v) = %v", x, got)
		}
		if len(x) == 4 {
			return
		}
		for _, n := range nodes {
			grow(append(x, n))
		}
	}
	grow(make(api.Tree, 0, 4))
}

// P14.1: Good of trees in which one place was changed, taken away, or added.
func TestGoodOfChangedTrees(t *testing.T) {
	r := rand.New(rand.NewSource(14))
	for range 20000 {
		x := randomTree(r, 1+r.Intn(40))
		wantGood(t, x, true)
		i := r.Intn(len(x))
		y := kept(x)
		switch r.Intn(6) {
		case 0:
			y[i].A += r.Intn(5) - 2
		case 1:
			y[i].B += r.Intn(5) - 2
		case 2:
			y[i] = y[r.Intn(len(y))]
		case 3:
			y = append(y[:i], y[i+1:]...)
		case 4:
			y = append(y[:i:i], append(api.Tree{randomLeaf(r)}, y[i:]...)...)
		case 5:
			y[i].Kind = r.Intn(10)
		}
		wantGood(t, y, mayBe(y))
	}
}

// P14.1: from one node to MaxNodes of them, as they are handed in.
func TestNodesHandedIn(t *testing.T) {
	for _, nodes := range []int{1, 2, 1998, 1999, 2000, 2001, 2002, 100000} {
		wantGood(t, negs(nodes), nodes <= 2000)
	}
	for _, terms := range []int{1, 2, 999, 1000, 1001, 50000} {
		wantGood(t, leftChain(terms), terms <= 1000)
		wantGood(t, rightChain(terms), terms <= 1000)
	}
}

// P14.1: calls end for lists of very many nodes too, wherever their children are said to stand.
func TestManyNodes(t *testing.T) {
	for _, nodes := range []int{2000, 2001, 200000} {
		for _, a := range []int{math.MinInt, -1, 0, 1, nodes - 1, nodes, math.MaxInt} {
			for _, kind := range []int{0, api.Lit, api.Add, api.Neg, api.Pow, 9} {
				x := make(api.Tree, nodes)
				for i := range x {
					x[i] = api.Node{Kind: kind, A: a, B: a, N: 2}
				}
				wantGood(t, x, false)
				y, ok := tree.Join(api.Add, x, x)
				wantNone(t, "Join", y, ok)
				y, ok = tree.Neg(x)
				wantNone(t, "Neg", y, ok)
				y, ok = tree.Pow(x, 2)
				wantNone(t, "Pow", y, ok)
			}
		}
	}
}
