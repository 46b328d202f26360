package tree_test

import (
	"math"
	"math/rand"
	"slices"
	"testing"

	"steelyard/api"
	"steelyard/tree"
)

// wantSame asks whether two trees are the same, whichever goes first.
func wantSame(t *testing.T, a, b api.Tree, want bool) {
	t.Helper()
	if tree.Same(a, b) != want || tree.Same(b, a) != want {
		t.Errorf("Same(%s, %s) = %v, %v", shown(a), shown(b), tree.Same(a, b), tree.Same(b, a))
	}
}

// P14.1: trees are the same if they are alike in all but At.
func TestSame(t *testing.T) {
	all := grove()
	for i, a := range all {
		for j, b := range all {
			half := len(all) / 2
			wantSame(t, a, b, i%half == j%half)
		}
		for _, bad := range wild() {
			wantSame(t, a, bad, false)
		}
	}
}

// unlike tells copies of x that each differ from it in one field of the node at i, but not in At.
func unlike(x api.Tree, i int) []api.Tree {
	return []api.Tree{
		changed(x, i, func(n *api.Node) { n.Kind++ }),
		changed(x, i, func(n *api.Node) { n.A++ }),
		changed(x, i, func(n *api.Node) { n.B++ }),
		changed(x, i, func(n *api.Node) { n.N++ }),
		changed(x, i, func(n *api.Node) { n.Text += "0" }),
		changed(x, i, func(n *api.Node) { n.Unit += "0" }),
	}
}

// wantSameButForOneField asks whether x is the same with any At of the node at i, and not with any other field changed.
func wantSameButForOneField(t *testing.T, x api.Tree, i int) {
	t.Helper()
	for _, at := range []int{math.MinInt, -1, 1, math.MaxInt} {
		wantSame(t, x, changed(x, i, func(n *api.Node) { n.At = at }), true)
	}
	for _, y := range unlike(x, i) {
		wantSame(t, x, y, false)
	}
}

// P14.1: lists of nodes that may not be are the same if they are alike in all but At, as trees are.
func TestSameOfWhatMayNotBe(t *testing.T) {
	all := wild()
	for i, a := range all {
		for j, b := range all {
			wantSame(t, a, kept(b), i == j || len(a)+len(b) == 0)
		}
	}
	for _, a := range all {
		for i := range min(len(a), 5) {
			wantSameButForOneField(t, a, i)
		}
	}
	wantSame(t, nil, api.Tree{}, true)
	wantSame(t, nil, api.Tree{{}}, false)
	wantSame(t, nil, grove()[0], false)
}

// placeless tells a copy of x whose nodes stand nowhere in a text.
func placeless(x api.Tree) api.Tree {
	out := kept(x)
	for i := range out {
		out[i].At = 0
	}
	return out
}

// P14.1: Same of every two lists of up to two of these nodes, most of which may not be.
func TestSameOfShortLists(t *testing.T) {
	nodes := api.Tree{{}, {At: 3}, {Kind: 9, N: 1}, lit("1", ""), lit("x", "]"), ref("x"), ref(""), neg(0), neg(-1), pow(0, 65), join(api.Add, 0, 1), {Kind: api.Neg, A: 0, At: -1}}
	lists := []api.Tree{nil}
	for _, a := range nodes {
		lists = append(lists, api.Tree{a})
		for _, b := range nodes {
			lists = append(lists, api.Tree{a, b})
		}
	}
	for _, a := range lists {
		for _, b := range lists {
			wantSame(t, a, b, slices.Equal(placeless(a), placeless(b)))
		}
	}
}

// P14.1: lists of very many nodes are the same but for their last one's fields, and as long as each other.
func TestSameOfManyNodes(t *testing.T) {
	for _, nodes := range []int{api.MaxNodes, api.MaxNodes + 1, 100000} {
		x := negs(nodes)
		wantSame(t, x, negs(nodes), true)
		wantSame(t, x, negs(nodes+1), false)
		wantSameButForOneField(t, x, nodes-1)
		wantSameButForOneField(t, make(api.Tree, nodes), nodes-1)
	}
}

// P14.1: trees that differ in one field of one node alone.
func TestSameButForOneField(t *testing.T) {
	x := api.Tree{lit("1", "m"), ref("x"), join(api.Add, 0, 1), pow(2, 3), ref("y"), join(api.Div, 3, 4)}
	for i := range x {
		wantSameButForOneField(t, x, i)
	}
	wantSame(t, api.Tree{lit("1", "")}, api.Tree{lit("1.0", "")}, false)
	wantSame(t, api.Tree{lit("1", "")}, api.Tree{lit("1", "1")}, false)
	wantSame(t, api.Tree{lit("1", "m")}, api.Tree{lit("1", " m")}, false)
	wantSame(t, api.Tree{ref("x")}, api.Tree{ref("X")}, false)
}

// P14.1: a tree and a longer one that begins with it.
func TestSameOfOtherLengths(t *testing.T) {
	for _, x := range grove() {
		wantSame(t, x, above(neg(0), x), false)
		wantSame(t, x, x[:len(x)-1], false)
	}
	wantSame(t, leftChain(1000), leftChain(1000), true)
	wantSame(t, leftChain(1000), leftChain(999), false)
}

// P14.1: the depth of each kind, and of chains either way.
func TestDeep(t *testing.T) {
	is := made(t)
	x := is(tree.Ref("x"))
	sum := is(tree.Join(api.Add, x, is(tree.Lit("1", ""))))
	for _, c := range []struct {
		x    api.Tree
		want int
	}{
		{x, 1}, {is(tree.Lit("1", "m")), 1}, {is(tree.Neg(x)), 2}, {is(tree.Pow(x, 2)), 2}, {sum, 2},
		{is(tree.Neg(sum)), 3}, {is(tree.Join(api.Mul, sum, x)), 3}, {is(tree.Join(api.Mul, x, sum)), 3}, {is(tree.Join(api.Div, sum, sum)), 3},
		{is(tree.Join(api.Sub, is(tree.Neg(sum)), sum)), 4}, {is(tree.Join(api.Sub, sum, is(tree.Pow(sum, 2)))), 4},
		{negs(2000), 2000}, {leftChain(1000), 1000}, {rightChain(1000), 1000}, {negs(2001), 0}, {nil, 0}, {api.Tree{{}}, 0},
	} {
		if got := tree.Deep(c.x); got != c.want {
			t.Errorf("Deep(%s) = %d, want %d", shown(c.x), got, c.want)
		}
	}
}

// P14.2: a tree has one node more than its children together, these as they were, in postorder.
func TestNodesOfChildren(t *testing.T) {
	r := rand.New(rand.NewSource(142))
	for range 3000 {
		a, b := randomTree(r, 30), randomTree(r, 30)
		kind, n := joins()[r.Intn(4)], r.Intn(129)-64
		both, ok := tree.Join(kind, a, b)
		wantTree(t, "Join", both, ok, above(join(kind, 0, 0), a, b))
		below, ok := tree.Neg(a)
		wantTree(t, "Neg", below, ok, above(neg(0), a))
		power, ok := tree.Pow(a, n)
		wantTree(t, "Pow", power, ok, above(pow(0, n), a))
		if len(both) != len(a)+len(b)+1 || len(below) != len(a)+1 || len(power) != len(a)+1 {
			t.Errorf("%d, %d, %d nodes of %d and %d", len(both), len(below), len(power), len(a), len(b))
		}
		for _, x := range []api.Tree{both, below, power} {
			wantGood(t, x, true)
			if !slices.Equal(x[:len(a)], a) || x[len(x)-1].At != 0 {
				t.Errorf("%s of %s", shown(x), shown(a))
			}
		}
		if tree.Deep(both) != 1+max(tree.Deep(a), tree.Deep(b)) || tree.Deep(below) != 1+tree.Deep(a) || tree.Deep(power) != 1+tree.Deep(a) {
			t.Errorf("depths of %s and %s", shown(a), shown(b))
		}
	}
}

// A tree that is taken apart and made again is the same.
func TestMadeAgain(t *testing.T) {
	r := rand.New(rand.NewSource(143))
	for range 2000 {
		x := randomTree(r, 60)
		again := rebuilt(t, x, len(x)-1)
		wantSame(t, x, again, true)
		for i, n := range again {
			if n.At != 0 {
				t.Errorf("%s has a place at %d", shown(again), i)
			}
		}
	}
}

// rebuilt makes what stands beneath x[i], from its leaves on.
func rebuilt(t *testing.T, x api.Tree, i int) api.Tree {
	is := made(t)
	switch n := x[i]; n.Kind {
	case api.Lit:
		return is(tree.Lit(n.Text, n.Unit))
	case api.Ref:
		return is(tree.Ref(n.Text))
	case api.Neg:
		return is(tree.Neg(rebuilt(t, x, n.A)))
	case api.Pow:
		return is(tree.Pow(rebuilt(t, x, n.A), n.N))
	default:
		return is(tree.Join(n.Kind, rebuilt(t, x, n.A), rebuilt(t, x, n.B)))
	}
}
