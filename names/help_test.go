package names_test

import (
	"fmt"
	"math"
	"math/rand"
	"slices"
	"strings"
	"testing"

	"steelyard/api"
	"steelyard/names"
	"steelyard/parse"
)

// sixteen is a word of as many bytes: as many as a name may have.
const sixteen = "abcdefghijklmnop"

// most tells limits of which each is the one of api.
func most() api.Limits {
	return api.Limits{Text: api.MaxText, Deep: api.MaxDeep, Nodes: api.MaxNodes, Power: api.MaxPower}
}

// edges are numbers that are far out, or near a limit.
func edges() []int {
	return []int{math.MinInt, math.MinInt32, -61, -2, -1, 0, 1, 2, 5, 6, 59, 60, 61, 4000, math.MaxInt32, math.MaxInt}
}

// read tells the declarations of a text.
func read(t *testing.T, s string) api.Script {
	t.Helper()
	l, f := parse.Script(s, most())
	if f != (api.Fault{}) {
		t.Fatalf("%.200q is not read: %v", s, f)
	}
	return l
}

// unit, source, cov, let and output tell a declaration that may be, without any place in a text.
func unit(name string) api.Decl {
	return api.Decl{Kind: api.DUnit, Name: name, Num: "2", Unit: "m"}
}

func source(name string) api.Decl {
	return api.Decl{Kind: api.DSource, Name: name, Num: "3", Var: "1/4", Unit: "s"}
}

func cov(name, other string) api.Decl {
	return api.Decl{Kind: api.DCov, Name: name, Other: other, Num: "-1/8"}
}

func let(name string, refs ...string) api.Decl {
	return api.Decl{Kind: api.DLet, Name: name, Tree: product(refs...)}
}

func output(name string, refs ...string) api.Decl {
	return api.Decl{Kind: api.DOutput, Name: name, Tree: product(refs...), Places: 3}
}

// product tells the formula of names times one another; of none, that of 1.
func product(refs ...string) api.Tree {
	if len(refs) == 0 {
		return api.Tree{{Kind: api.Lit, Text: "1"}}
	}
	x := api.Tree{{Kind: api.Ref, Text: refs[0]}}
	for _, r := range refs[1:] {
		x = append(x, api.Node{Kind: api.Ref, Text: r}, api.Node{Kind: api.Mul, A: len(x) - 1, B: len(x)})
	}
	return x
}

// placed tells a copy of declarations, of which each, and each node, stands at a place of its own.
func placed(l api.Script) api.Script {
	out := kept(l)
	for i := range out {
		out[i].At = 10000 * (i + 1)
		for j := range out[i].Tree {
			out[i].Tree[j].At = out[i].At + 1 + j
		}
	}
	return out
}

// standsAhead tells whether a declaration ahead of number i has this name, and one of these kinds.
func standsAhead(l api.Script, i int, name string, kinds ...int) bool {
	for _, d := range l[:i] {
		if d.Name == name && slices.Contains(kinds, d.Kind) {
			return true
		}
	}
	return false
}

// pairAhead tells whether a cov ahead of number i has the same two names as that one.
func pairAhead(l api.Script, i int) bool {
	for _, d := range l[:i] {
		if d.Kind == api.DCov && (d.Name == l[i].Name && d.Other == l[i].Other || d.Name == l[i].Other && d.Other == l[i].Name) {
			return true
		}
	}
	return false
}

// faultOf tells the first fault of declarations that may be, by the document's words, one of them after the other.
func faultOf(l api.Script) api.Fault {
	for i, d := range l {
		twice, stranger := false, false
		switch d.Kind {
		case api.DUnit:
			twice = standsAhead(l, i, d.Name, api.DUnit)
		case api.DSource, api.DLet, api.DOutput:
			twice = standsAhead(l, i, d.Name, api.DSource, api.DLet, api.DOutput)
		case api.DCov:
			stranger = !standsAhead(l, i, d.Name, api.DSource) || !standsAhead(l, i, d.Other, api.DSource)
			twice = d.Name == d.Other || pairAhead(l, i)
		}
		if stranger {
			return api.Fault{E: api.ErrName, At: d.At}
		}
		if twice {
			return api.Fault{E: api.ErrTwice, At: d.At}
		}
		for _, n := range d.Tree {
			if n.Kind == api.Ref && !standsAhead(l, i, n.Text, api.DSource, api.DLet) {
				return api.Fault{E: api.ErrName, At: n.At}
			}
		}
	}
	return api.Fault{}
}

// foundOf tells what is found of a name below the number ahead, by the document's words.
func foundOf(l api.Script, name string, ahead int) (int, bool) {
	for i, d := range l {
		if i < ahead && (d.Kind == api.DSource || d.Kind == api.DLet) && d.Name == name {
			return i, true
		}
	}
	return 0, false
}

// shown tells a script's first declarations as text.
func shown(l api.Script) string {
	text := ""
	for i, d := range l {
		if i == 10 {
			text += fmt.Sprintf(" and %d more", len(l)-i)
			break
		}
		text += fmt.Sprintf(" {%d %.20q %.20q @%d, %d nodes:", d.Kind, d.Name, d.Other, d.At, len(d.Tree))
		for _, n := range d.Tree[:min(len(d.Tree), 10)] {
			text += fmt.Sprintf(" %d %.20q @%d", n.Kind, n.Text, n.At)
		}
		text += "}"
	}
	return "[" + text + " ]"
}

// wantCheck asks for this fault of declarations, or for none, if it is the zero one.
func wantCheck(t *testing.T, l api.Script, want api.Fault) {
	t.Helper()
	if got := names.Check(l); got != want {
		t.Errorf("Check(%s) = %v, want %v", shown(l), got, want)
	}
}

// wantText asks for this error of a text's declarations, at the byte that the text has marked by "|", or for none, if there is no mark.
func wantText(t *testing.T, marked string, e api.Errno) {
	t.Helper()
	at := max(0, strings.Index(marked, "|"))
	s := strings.Replace(marked, "|", "", 1)
	if got, want := names.Check(read(t, s)), (api.Fault{E: e, At: at}); got != want {
		t.Errorf("Check(%.200q) = %v, want %v", s, got, want)
	}
}

// wantFind asks for the declaration of this number, or for none, if it is below 0.
func wantFind(t *testing.T, l api.Script, name string, ahead, want int) {
	t.Helper()
	if got, ok := names.Find(l, name, ahead); got != max(0, want) || ok != (want >= 0) {
		t.Errorf("Find(%s, %.20q, %d) = %d, %v, want %d", shown(l), name, ahead, got, ok, want)
	}
}

// wantSources asks for these names.
func wantSources(t *testing.T, l api.Script, want ...string) {
	t.Helper()
	if got := names.Sources(l); !slices.Equal(got, want) {
		t.Errorf("Sources(%s) = %.200q, want %.200q", shown(l), got, want)
	}
}

// kept tells a copy of a script, its texts and formulas too.
func kept(l api.Script) api.Script {
	out := slices.Clone(l)
	for i, d := range out {
		d.Name, d.Other, d.Num, d.Var, d.Unit = strings.Clone(d.Name), strings.Clone(d.Other), strings.Clone(d.Num), strings.Clone(d.Var), strings.Clone(d.Unit)
		d.Tree = slices.Clone(d.Tree)
		for j, n := range d.Tree {
			d.Tree[j].Text, d.Tree[j].Unit = strings.Clone(n.Text), strings.Clone(n.Unit)
		}
		out[i] = d
	}
	return out
}

// times tells so many copies of a declaration, one behind the other.
func times(n int, d api.Decl) api.Script {
	var l api.Script
	for range n {
		l = append(l, d)
	}
	return l
}

// sourcesOf tells so many sources, of names x0, x1, ...
func sourcesOf(n int) api.Script {
	var l api.Script
	for i := range n {
		l = append(l, source(fmt.Sprint("x", i)))
	}
	return l
}

// with tells a copy of declarations with others behind them.
func with(l api.Script, others ...api.Decl) api.Script {
	return append(slices.Clone(l), others...)
}

// ordinary tells declarations of all kinds that have no fault.
func ordinary() api.Script {
	return placed(api.Script{
		unit("x"), source("x"), source("y"), cov("y", "x"), let("a", "x", "y"), unit("a"), source("z"), cov("x", "z"), cov("z", "y"),
		output("b", "a", "z", "a"), let("c", "a"), unit("b"), output(sixteen), output("d", "c", "x"), unit("c"),
	})
}

// odd tells declarations that may not be, each for another reason.
func odd() api.Script {
	changed := func(d api.Decl, f func(d *api.Decl)) api.Decl {
		f(&d)
		return d
	}
	return api.Script{
		{}, {Kind: -1, Name: "x"}, {Kind: 6, Name: "x"}, {Kind: math.MaxInt, Name: "x"}, {Kind: api.DLet, Name: "x"}, {Kind: api.DSource, Name: "x"}, {Kind: api.DUnit, Name: "x", Num: "1"}, {Kind: api.DCov, Name: "x", Other: "y"}, {Kind: api.DOutput, Name: "x", Places: 1},
		source(""), source("let"), source("1"), source("x y"), source("abcdefghijklmnopq"), let("\xff"), unit("in"), output("é"), cov("x", ""), cov("", "y"), cov("x", "cov"),
		let("v", ""), let("v", "in"), output("v", "x", "1"), changed(let("v", "x"), func(d *api.Decl) { d.Num = "1" }), changed(source("x"), func(d *api.Decl) { d.Other = "y" }), changed(source("x"), func(d *api.Decl) { d.Num = "--1" }), changed(source("x"), func(d *api.Decl) { d.Var = "" }),
		changed(source("x"), func(d *api.Decl) { d.Tree = product("x") }), changed(unit("x"), func(d *api.Decl) { d.Unit = "" }), changed(unit("x"), func(d *api.Decl) { d.Unit = "]" }), changed(cov("x", "y"), func(d *api.Decl) { d.Unit = "m" }), changed(cov("x", "y"), func(d *api.Decl) { d.Tree = product() }), changed(output("v"), func(d *api.Decl) { d.Places = 61 }), changed(output("v"), func(d *api.Decl) { d.Places = -1 }),
		changed(let("v"), func(d *api.Decl) { d.Tree = append(product("x"), product("y")...) }), changed(let("v"), func(d *api.Decl) { d.Tree = api.Tree{{}} }), changed(let("v"), func(d *api.Decl) { d.Tree = api.Tree{{Kind: api.Neg}} }),
	}
}

// choices tells declarations of all kinds, of two names, with formulas of up to two of them.
func choices() api.Script {
	var l api.Script
	for _, name := range []string{"x", "y"} {
		l = append(l, unit(name), source(name), let(name), let(name, "x"), let(name, "y"), output(name), output(name, "x", "y"), cov(name, "x"), cov(name, "y"))
	}
	return l
}

// randomDecl tells a declaration that may be, of few names, so that they often come again.
func randomDecl(r *rand.Rand, few []string) api.Decl {
	pick := func() string { return few[r.Intn(len(few))] }
	var refs []string
	for range r.Intn(4) {
		refs = append(refs, pick())
	}
	switch r.Intn(6) {
	case 0:
		return unit(pick())
	case 1:
		return cov(pick(), pick())
	case 2:
		return let(pick(), refs...)
	case 3:
		return output(pick(), refs...)
	}
	return source(pick())
}

// sound tells random declarations, as many as asked for at most, of which each one that would bring a fault is left out.
func sound(r *rand.Rand, n int) api.Script {
	few := []string{"a", "b", "c", "d", "e", "f", "g", "h", "x_1", "x_2", sixteen}
	var l api.Script
	for range n {
		if next := with(l, randomDecl(r, few)); faultOf(next) == (api.Fault{}) {
			l = next
		}
	}
	return l
}
