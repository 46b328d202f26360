package write_test

import (
	"math/rand"
	"slices"
	"testing"

	"steelyard/api"
)

// changes tells what may be done to a declaration, each to another field.
func changes() []func(d *api.Decl) {
	return []func(d *api.Decl){
		func(d *api.Decl) { d.Kind++ },
		func(d *api.Decl) { d.Kind = -d.Kind - 1 },
		func(d *api.Decl) { d.Name += "_" },
		func(d *api.Decl) { d.Other += " " },
		func(d *api.Decl) { d.Num += "0" },
		func(d *api.Decl) { d.Var += "0" },
		func(d *api.Decl) { d.Unit += "]" },
		func(d *api.Decl) { d.Places++ },
		func(d *api.Decl) { d.Places -= 1 << 40 },
		func(d *api.Decl) { d.Tree = append(slices.Clone(d.Tree), ref("x")) },
		func(d *api.Decl) { d.Tree = append(api.Tree{{}}, d.Tree...) },
	}
}

// nodeChanges tells what may be done to a node, each to another field.
func nodeChanges() []func(n *api.Node) {
	return []func(n *api.Node){
		func(n *api.Node) { n.Kind++ },
		func(n *api.Node) { n.A++ },
		func(n *api.Node) { n.B-- },
		func(n *api.Node) { n.N++ },
		func(n *api.Node) { n.Text += "1" },
		func(n *api.Node) { n.Unit += "m" },
	}
}

// odd tells declarations that may not be, each another.
func odd() api.Script {
	return api.Script{
		{}, {Kind: 6}, {Kind: -1, Name: "let"}, {Kind: api.DLet, Name: "v"}, {Kind: api.DUnit, Name: "1", Num: "--1", Unit: "]"}, {Kind: api.DCov, Name: "x", Places: -1},
		{Kind: api.DOutput, Name: "y", Tree: api.Tree{{}}}, {Kind: api.DOutput, Name: "y", Tree: api.Tree{{}, {}}}, {Kind: api.DOutput, Name: "y", Tree: api.Tree{neg(5)}, Places: 99}, {Name: "\xff", Other: "\xff", Num: "\xff", Var: "\xff", Unit: "\xff", Places: 1 << 60},
	}
}

// P16.1: nil and empty lists are one.
func TestSameOfNone(t *testing.T) {
	wantSame(t, nil, nil, true)
	wantSame(t, nil, api.Script{}, true)
	wantSame(t, api.Script{}, api.Script{}, true)
	wantSame(t, api.Script{{}}, api.Script{{Tree: api.Tree{}}}, true)
	wantSame(t, nil, api.Script{{}}, false)
	wantSame(t, api.Script{{}}, api.Script{{}, {}}, false)
	for _, d := range shapes() {
		if len(d.Tree) == 0 {
			other := d
			other.Tree = make(api.Tree, 0, 5)
			wantSame(t, api.Script{d}, api.Script{other}, true)
		}
		wantSame(t, nil, api.Script{d}, false)
	}
}

// P16.1: every two declarations, that may be or not, alone and among others.
func TestSameOfEveryTwo(t *testing.T) {
	all := append(shapes(), odd()...)
	again := kept(all)
	for i, a := range all {
		for j, b := range again {
			wantSame(t, api.Script{a}, api.Script{b}, i == j)
			wantSame(t, api.Script{a, a, b}, api.Script{a, a, b}, true)
			wantSame(t, api.Script{a, b}, api.Script{b, a}, i == j)
			wantSame(t, api.Script{a}, api.Script{a, b}, false)
			wantSame(t, api.Script{a, b, a}, api.Script{a, a, a}, i == j)
		}
	}
	wantSame(t, all, again, true)
	wantSame(t, all, again[1:], false)
	wantSame(t, all[:len(all)-1], again, false)
}

// P16.1: scripts that differ in one field of one declaration, or in its At alone.
func TestSameOfFields(t *testing.T) {
	all := append(shapes(), odd()...)
	for i, d := range all {
		for _, f := range changes() {
			other := kept(all)
			f(&other[i])
			wantSame(t, all, other, false)
			wantSame(t, api.Script{d}, api.Script{changed(d, f)}, false)
			wantSame(t, other, other, true)
		}
		for _, at := range edges() {
			other := kept(all)
			other[i].At = at
			wantSame(t, all, other, true)
		}
	}
}

// P16.1: scripts that differ in one field of one node, or in its At alone.
func TestSameOfNodes(t *testing.T) {
	all := append(shapes(), odd()...)
	for i, d := range all {
		for j := range d.Tree {
			for _, f := range nodeChanges() {
				other := kept(all)
				f(&other[i].Tree[j])
				wantSame(t, all, other, false)
			}
			for _, at := range edges() {
				other := kept(all)
				other[i].Tree[j].At = at
				wantSame(t, all, other, true)
			}
		}
		if len(d.Tree) > 0 {
			other := kept(all)
			other[i].Tree = other[i].Tree[1:]
			wantSame(t, all, other, false)
		}
	}
}

// P16.1: random scripts, their places changed, and perhaps something else.
func TestSameOfRandomScripts(t *testing.T) {
	r := rand.New(rand.NewSource(163))
	for range 2000 {
		var all api.Script
		for range 1 + r.Intn(6) {
			all = append(all, randomDecl(r, 8))
		}
		other := kept(all)
		for i := range other {
			other[i].At = r.Intn(100)
			for j := range other[i].Tree {
				other[i].Tree[j].At = r.Intn(100)
			}
		}
		wantSame(t, all, other, true)
		i := r.Intn(len(all))
		if x := other[i].Tree; len(x) > 0 && r.Intn(2) == 0 {
			nodeChanges()[r.Intn(6)](&x[r.Intn(len(x))])
		} else {
			changes()[r.Intn(11)](&other[i])
		}
		wantSame(t, all, other, alike(all, other))
		wantSame(t, all, other, false)
	}
}

// P16.1: lists that are too long, and formulas that are, are asked the same.
func TestSameOfManyDeclarations(t *testing.T) {
	a, b := times(100000, shapes()[2]), times(100000, shapes()[2])
	wantSame(t, a, b, true)
	wantSame(t, a, b[1:], false)
	b[99999].Var = ""
	wantSame(t, a, b, false)
	long := api.Decl{Kind: api.DLet, Name: "v", Tree: negs(100000)}
	wantSame(t, api.Script{long}, kept(api.Script{long}), true)
	wantSame(t, api.Script{long}, api.Script{changed(long, func(d *api.Decl) { d.Tree[50000].A++ })}, false)
}
