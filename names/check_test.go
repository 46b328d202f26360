package names_test

import (
	"fmt"
	"math/rand"
	"slices"
	"strings"
	"testing"

	"steelyard/api"
)

// P17.1: declarations whose names all stand for something, and once.
func TestNoFault(t *testing.T) {
	for _, s := range []string{
		"", "# none", "source x=1:0;", "source x=1:0; let a=x*x; output y=a+x : 2;", "let a=1; let b=a; let c=a+b;", "source x=1:0; source y=1:0; cov y x=0;",
		"source x=1:0; source y=1:0; source z=1:0; cov x y=1; cov y z=1; cov z x=1;", "output y=1:0; output z=2[m] in [cm]:0;", "source b=1:0; source a=1:0; cov b a=1; let c=-(a-b)^2/a;",
		"unit m=1[s]; source s=1[m]:0; let km=s;", "let X=1; let x=X; let _=x; let _1=_;",
	} {
		wantText(t, s, api.OK)
	}
	wantCheck(t, nil, api.Fault{})
	wantCheck(t, api.Script{}, api.Fault{})
	wantCheck(t, ordinary(), api.Fault{})
}

// P17.1: of every two kinds, which may have one name: those of sources, lets and outputs are one kind, those of units another one.
func TestTwice(t *testing.T) {
	values := []func(name string) api.Decl{source, func(name string) api.Decl { return let(name) }, func(name string) api.Decl { return output(name) }}
	for _, name := range []string{"x", "_", "kg", sixteen} {
		for _, first := range values {
			for _, second := range values {
				l := placed(api.Script{first(name), source("other"), second(name)})
				wantCheck(t, l, api.Fault{E: api.ErrTwice, At: l[2].At})
				wantCheck(t, placed(api.Script{first(name), second("y" + name[1:])}), api.Fault{})
			}
			wantCheck(t, placed(api.Script{first(name), unit(name)}), api.Fault{})
			wantCheck(t, placed(api.Script{unit(name), first(name)}), api.Fault{})
			wantCheck(t, placed(api.Script{unit("u"), first(name), unit(name), unit("v")}), api.Fault{})
		}
		l := placed(api.Script{unit(name), let("a"), unit(name)})
		wantCheck(t, l, api.Fault{E: api.ErrTwice, At: l[2].At})
	}
	wantText(t, "source x=1:0; source |x=1:0;", api.ErrTwice)
	wantText(t, "unit x=1[m]; source x=1:0; unit y=1[m]; unit |x=1[m];", api.ErrTwice)
	wantText(t, "let a=1; let b=2; let c=3; let |b=4; let c=5;", api.ErrTwice)
	wantText(t, "let a=1; let A=2; let _a=3; let a_=4;", api.OK)
}

// P17.1: what a formula may name: sources and lets that stand ahead of it.
func TestRefs(t *testing.T) {
	for _, behind := range []string{"let v = 2 * |x;", "output v=|x:0;", "let v=(1-(-|x)^2);", "output v=1[x]/|x in [m]:0;"} {
		plain := strings.Replace(behind, "|", "", 1)
		wantText(t, "source x=1:0;"+plain, api.OK)
		wantText(t, "let x=1;"+plain, api.OK)
		wantText(t, "let x=1; let y=x; source z=1:0;"+plain, api.OK)
		wantText(t, behind, api.ErrName)
		for _, ahead := range []string{"unit x=1[m];", "output x=1:0;", "unit x=1[m];output x=1:0;", "source X=1:0;", "source y=1:0;", "source xx=1:0;let x_=2;"} {
			wantText(t, ahead+behind, api.ErrName)
		}
		wantText(t, behind+"source x=1:0;", api.ErrName)
		wantText(t, behind+"let x=1;", api.ErrName)
	}
}

// P17.3: a let, an output does not stand ahead of itself.
func TestNoNameStandsForItself(t *testing.T) {
	wantText(t, "let x = |x ;", api.ErrName)
	wantText(t, "output x = |x : 0 ;", api.ErrName)
	wantText(t, "let x=1+2*|x;", api.ErrName)
	wantText(t, "let a=|b; let b=a;", api.ErrName)
	wantText(t, "let a=1; let b=a+|b;", api.ErrName)
	wantText(t, "source a=1:0; let b=a; let c=b*(a-|c);", api.ErrName)
	l := ordinary()
	for i, d := range l {
		if d.Kind == api.DLet || d.Kind == api.DOutput {
			other := kept(l)
			other[i].Tree = api.Tree{{Kind: api.Ref, Text: d.Name, At: -7}}
			wantCheck(t, other, api.Fault{E: api.ErrName, At: -7})
		}
	}
}

// P17.1: covs are of two sources that stand ahead, and once of the same two.
func TestCovs(t *testing.T) {
	two := "source x=1:0; source y=1:0; let a=x; unit u=1[m]; output o=x:0;"
	for _, s := range []string{"cov x y=1;", "cov y x=1;"} {
		wantText(t, two+s, api.OK)
	}
	for _, other := range []string{"z", "a", "u", "o", "X", "xy"} {
		for _, s := range []string{"cov |x Z=1;", "cov |Z x=1;", "cov |Z y=1;", "cov |y Z=1;", "cov |Z Z=1;"} {
			wantText(t, two+strings.ReplaceAll(s, "Z", other), api.ErrName)
		}
	}
	wantText(t, two+"cov |x x=1;", api.ErrTwice)
	wantText(t, two+"cov |y y=0;", api.ErrTwice)
	wantText(t, "cov |x x=1;"+two, api.ErrName)
	wantText(t, "cov |x y=1;"+two, api.ErrName)
	wantText(t, "source x=1:0; cov |x y=1; source y=1:0;", api.ErrName)
	wantText(t, "source x=1:0; cov |y x=1; source y=1:0;", api.ErrName)
	wantText(t, "source y=1:0; cov |x x=1; source x=1:0;", api.ErrName)
	for _, first := range []string{"cov x y=1;", "cov y x=1;"} {
		for _, second := range []string{"cov |x y=1;", "cov |y x=1;", "let b=2; cov |x y=0;", "source z=1:0; cov x z=1; cov z y=2; cov |y x=7;"} {
			wantText(t, two+first+second, api.ErrTwice)
		}
		wantText(t, two+first+"cov |x z=1; source z=1:0;", api.ErrName)
		wantText(t, two+first+"source z=1:0; cov z x=1; cov y z=1;", api.OK)
	}
	// Two names side by side are not one.
	wantText(t, "source a=1:0; source ab=1:0; source bc=1:0; source c=1:0; cov a bc=1; cov ab c=1; cov c a=1;", api.OK)
}

// P17.1: of several faults the first one by declarations, and in one: the name, then the formula, by its nodes.
func TestOrderOfFaults(t *testing.T) {
	wantText(t, "let a=1; let |a=b;", api.ErrTwice)
	wantText(t, "let a=1; output |a=b:0;", api.ErrTwice)
	wantText(t, "let a=1; let |a=a;", api.ErrTwice)
	wantText(t, "let a=|b; let a=1;", api.ErrName)
	wantText(t, "let a=|b; let a=c;", api.ErrName)
	wantText(t, "let a=1; let |a=b; let c=d; cov x y=1;", api.ErrTwice)
	wantText(t, "cov |x y=1; let a=1; let a=b;", api.ErrName)
	wantText(t, "source x=1:0; cov |x x=1; cov x y=1;", api.ErrTwice)
	wantText(t, "unit u=1[m]; unit |u=1[m]; unit u=1[m];", api.ErrTwice)
	wantText(t, "let a=|b+c;", api.ErrName)
	wantText(t, "let b=1; let a=b*b+|c-d;", api.ErrName)
	wantText(t, "let b=1; let a=b/(2+(-|c)^2)*d;", api.ErrName)
	wantText(t, "let v=|a*(b*(c*(d)));", api.ErrName)
	// By nodes, not by where they stand in a text.
	d := let("v", "p", "q", "r")
	for i := range d.Tree {
		d.Tree[i].At = 50 - i
	}
	wantCheck(t, api.Script{d}, api.Fault{E: api.ErrName, At: 50})
	wantCheck(t, api.Script{source("p"), d}, api.Fault{E: api.ErrName, At: 49})
	wantCheck(t, api.Script{source("p"), let("q"), d}, api.Fault{E: api.ErrName, At: 47})
	// A literal's text and unit are no names, nor is what a node of another kind has.
	wantText(t, "let v = 1 [a] * 2 [v] ;", api.OK)
}

// P17.1: places are told as they stand in declarations and nodes, whatever they are.
func TestPlaces(t *testing.T) {
	for _, at := range edges() {
		for _, l := range []api.Script{{let("v", "x")}, {source("x"), output("v", "x", "y")}, {let("w"), let("v", "v", "w")}} {
			last := &l[len(l)-1]
			last.At = -99
			for i := range last.Tree {
				last.Tree[i].At = at
			}
			wantCheck(t, l, api.Fault{E: api.ErrName, At: at})
		}
		for _, x := range []struct {
			l api.Script
			e api.Errno
		}{
			{api.Script{unit("x"), unit("x")}, api.ErrTwice}, {api.Script{let("x"), source("x")}, api.ErrTwice}, {api.Script{source("x"), let("x", "y")}, api.ErrTwice}, {api.Script{let("x"), output("x", "x")}, api.ErrTwice},
			{api.Script{cov("x", "y")}, api.ErrName}, {api.Script{source("x"), cov("x", "x")}, api.ErrTwice}, {api.Script{source("x"), source("y"), cov("x", "y"), cov("x", "y")}, api.ErrTwice},
		} {
			l := placed(x.l)
			l[len(l)-1].At = at
			wantCheck(t, l, api.Fault{E: x.e, At: at})
		}
		l := ordinary()
		for i := range l {
			l[i].At = at
		}
		wantCheck(t, l, api.Fault{})
	}
}

// P17.1: a declaration that may not be, wherever it stands, goes ahead of every fault of names.
func TestDeclarationsThatMayNotBe(t *testing.T) {
	for _, d := range odd() {
		d.At = 7
		wantCheck(t, api.Script{d}, api.Fault{E: api.ErrArg})
		l := ordinary()
		for i := range len(l) + 1 {
			wantCheck(t, slices.Insert(slices.Clone(l), i, d), api.Fault{E: api.ErrArg})
		}
		for _, wrong := range []api.Decl{let("v", "v"), unit("x"), cov("x", "x"), output("x"), cov("v", "w")} {
			wantCheck(t, with(with(l, wrong), d), api.Fault{E: api.ErrArg})
			wantCheck(t, with(api.Script{d}, with(l, wrong)...), api.Fault{E: api.ErrArg})
		}
	}
}

// P17.1: as many declarations as may be, and one more.
func TestHowManyDeclarations(t *testing.T) {
	full := placed(sourcesOf(api.MaxDecls))
	wantCheck(t, full, api.Fault{})
	wantCheck(t, full[:api.MaxDecls-1], api.Fault{})
	last := full[api.MaxDecls-1].Name
	for _, d := range []api.Decl{source("v"), source("x0"), let("v", "v"), cov("x0", "x0"), {}} {
		wantCheck(t, with(full, d), api.Fault{E: api.ErrArg})
		wantCheck(t, with(api.Script{d}, full...), api.Fault{E: api.ErrArg})
	}
	for _, n := range []int{61, 62, 100, 1000, 100000} {
		wantCheck(t, sourcesOf(n), api.Fault{E: api.ErrArg})
		wantCheck(t, times(n, let("v", "v")), api.Fault{E: api.ErrArg})
		wantCheck(t, make(api.Script, n), api.Fault{E: api.ErrArg})
	}
	for _, d := range []api.Decl{let("x0"), output(last), cov("x0", last), let("v", "x0", last, "w"), let("v", "x0", last), unit("x0")} {
		l := placed(with(full[1:], d))
		wantCheck(t, l, faultOf(l))
		l = placed(with(full[:api.MaxDecls-1], d))
		wantCheck(t, l, faultOf(l))
	}
	// Every name and every two of ten sources, in the most that there may be.
	var covs api.Script
	for i := range 10 {
		for j := range i {
			covs = append(covs, cov(fmt.Sprint("x", i), fmt.Sprint("x", j)))
		}
	}
	l := placed(with(sourcesOf(10), covs...))
	wantCheck(t, l, api.Fault{})
	for i, d := range covs {
		again := placed(with(l, cov(d.Other, d.Name)))
		wantCheck(t, again, api.Fault{E: api.ErrTwice, At: again[len(l)].At})
		missing := placed(with(with(l[:10], covs[:i]...), covs[i+1:]...))
		wantCheck(t, with(missing, d), api.Fault{})
	}
}

// P17.1: formulas of as many nodes as may be; the one name that stands for nothing is found wherever it is.
func TestLongFormulas(t *testing.T) {
	refs := slices.Repeat([]string{"x0", "x1", "x2", "a"}, api.MaxNodes/8)
	l := with(sourcesOf(3), let("a", "x1"), let("v", refs...))
	wantCheck(t, placed(l), api.Fault{})
	for _, i := range []int{0, 1, 2, 3, 4, 500, 998, 999} {
		other := slices.Clone(refs)
		other[i] = "w"
		wrong := placed(with(l[:4], output("v", other...), let("w")))
		node := max(0, 2*i-1)
		wantCheck(t, wrong, api.Fault{E: api.ErrName, At: wrong[4].Tree[node].At})
	}
	wantCheck(t, with(l, let("w", append(refs, "x0")...)), api.Fault{E: api.ErrArg})
}

// P17.1: every script of up to three declarations, and of four of fewer, against the document's words.
func TestEveryShortScript(t *testing.T) {
	var try func(l api.Script, of api.Script, more int)
	try = func(l api.Script, of api.Script, more int) {
		p := placed(l)
		wantCheck(t, p, faultOf(p))
		if more > 0 {
			for _, d := range of {
				try(with(l, d), of, more-1)
			}
		}
	}
	try(nil, choices(), 3)
	try(nil, api.Script{source("x"), source("y"), cov("x", "y"), cov("y", "x"), cov("y", "y"), let("y", "x"), output("x"), unit("y")}, 4)
	try(api.Script{source("x"), source("y"), source("z")}, api.Script{cov("x", "y"), cov("y", "x"), cov("y", "z"), cov("z", "y"), cov("z", "x"), cov("x", "x"), cov("w", "x")}, 4)
}

// P17.1: random scripts against the document's words.
func TestRandomScripts(t *testing.T) {
	r := rand.New(rand.NewSource(171))
	for range 20000 {
		few := []string{"a", "b", "c", "d", "e", "f", "g", "h"}[:2+r.Intn(7)]
		l := sound(r, r.Intn(30))
		for range r.Intn(3) {
			l = slices.Insert(l, r.Intn(len(l)+1), randomDecl(r, few))
		}
		p := placed(l)
		wantCheck(t, p, faultOf(p))
	}
}
