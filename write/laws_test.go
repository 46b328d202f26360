package write_test

import (
	"math/rand"
	"strings"
	"testing"

	"steelyard/api"
	"steelyard/parse"
	"steelyard/tree"
	"steelyard/write"
)

// wantBack asks that the text of x is parsed as x, and written again as that text; or, if reading it goes too deep, that this is told.
func wantBack(t *testing.T, x api.Tree) {
	t.Helper()
	text, ok := write.Formula(x)
	if !ok {
		t.Fatalf("Formula(%s): false", shownTree(x))
	}
	y, f := parse.Formula(text, most())
	if openOf(x, len(x)-1) > api.MaxDeep || len(text) > api.MaxText {
		if f.E != api.ErrLimit {
			t.Errorf("%.250q, of %s, is parsed with %v", text, shownTree(x), f)
		}
		return
	}
	if f != (api.Fault{}) || !tree.Same(x, y) {
		t.Errorf("%.250q, of %s, is parsed as %s, %v", text, shownTree(x), shownTree(y), f)
	}
	wantFormula(t, y, text)
}

// wantScriptBack asks that the text of declarations is parsed as these, and written again as that text.
func wantScriptBack(t *testing.T, all api.Script) {
	t.Helper()
	text, e := write.Script(all)
	if e != api.OK {
		t.Fatalf("Script(%s): error %d", shown(all), e)
	}
	back, f := parse.Script(text, most())
	if f != (api.Fault{}) || !alike(all, back) {
		t.Errorf("%.250q, of %s, is parsed as %s, %v", text, shown(all), shown(back), f)
	}
	wantSame(t, all, back, true)
	wantScript(t, back, text)
}

// wantLimit asks that the text of declarations may be, but is parsed with ErrLimit.
func wantLimit(t *testing.T, all api.Script) {
	t.Helper()
	text, e := write.Script(all)
	if e != api.OK {
		t.Fatalf("Script(%s): error %d", shown(all), e)
	}
	if back, f := parse.Script(text, most()); f.E != api.ErrLimit || len(back) != 0 {
		t.Errorf("%.250q, of %s, is parsed as %s, %v", text, shown(all), shown(back), f)
	}
}

// P16.2: the text of every tree of up to six nodes is parsed as that tree.
func TestEveryShortFormulaBack(t *testing.T) {
	for _, trees := range everyTree(6, ref("x"), lit("2", "m")) {
		for _, x := range trees {
			wantBack(t, x)
		}
	}
}

// P16.2: no two trees of up to five nodes have one text.
func TestTextsDiffer(t *testing.T) {
	seen := map[string]api.Tree{}
	for _, trees := range everyTree(5, ref("x"), lit("2", ""), lit("2", "m")) {
		for _, x := range trees {
			text, _ := write.Formula(x)
			if y, ok := seen[text]; ok {
				t.Errorf("%q is the text of %s and of %s", text, shownTree(x), shownTree(y))
			}
			seen[text] = x
		}
	}
}

// P16.2: the text of random trees, and of declarations, is parsed as what it was.
func TestRandomTextsBack(t *testing.T) {
	r := rand.New(rand.NewSource(164))
	for range 3000 {
		wantBack(t, randomTree(r, 1+r.Intn(80)))
	}
	for range 2000 {
		var all api.Script
		for range r.Intn(20) {
			all = append(all, randomDecl(r, 12))
		}
		wantScriptBack(t, all)
	}
	wantScriptBack(t, nil)
	wantScriptBack(t, shapes())
	for _, d := range shapes() {
		wantScriptBack(t, times(60, d))
	}
}

// P16.2: formulas as deep as may be while they are read, and deeper by one.
func TestDepthBack(t *testing.T) {
	let := func(x api.Tree) api.Script { return api.Script{{Kind: api.DLet, Name: "v", Tree: x}} }
	for _, kind := range joins() {
		wantBack(t, rightChain(kind, 62, ref("x")))
		wantBack(t, rightChain(kind, 63, ref("x")))
		wantScriptBack(t, let(rightChain(kind, 62, ref("x"))))
		wantLimit(t, let(rightChain(kind, 63, ref("x"))))
		wantBack(t, leftChain(kind, 1000, ref("x")))
		wantScriptBack(t, let(leftChain(kind, 900, ref("x"))))
	}
	wantScriptBack(t, let(negs(61)))
	wantLimit(t, let(negs(62)))
	wantScriptBack(t, let(pows(62)))
	wantLimit(t, let(pows(63)))
	for deep := 55; deep < 65; deep++ {
		x := negs(deep)
		for _, y := range []api.Tree{above(pow(0, 2), x), above(neg(0), above(join(api.Mul, 0, 0), x, x)), above(join(api.Sub, 0, 0), x, above(join(api.Add, 0, 0), x, x)), above(pow(0, -1), above(neg(0), above(join(api.Div, 0, 0), x, x)))} {
			wantBack(t, y)
			if openOf(y, len(y)-1) <= api.MaxDeep {
				wantScriptBack(t, let(y))
			} else {
				wantLimit(t, let(y))
			}
		}
	}
	for _, x := range []api.Tree{negs(2000), pows(500), rightChain(api.Add, 600, ref("x"))} {
		wantBack(t, x)
		wantLimit(t, let(x))
	}
}

// P16.2: as many nodes of all formulas together as may be, and one more.
func TestNodesBack(t *testing.T) {
	let := func(factors int) api.Decl {
		return api.Decl{Kind: api.DLet, Name: "v", Tree: leftChain(api.Mul, factors, ref("x"))}
	}
	with := func(d api.Decl) api.Decl {
		d.Tree = above(pow(0, 2), d.Tree)
		return d
	}
	wantBack(t, let(1000).Tree)
	wantBack(t, above(neg(0), let(1000).Tree))
	wantScriptBack(t, api.Script{let(1000)})
	wantScriptBack(t, api.Script{with(let(1000))})
	wantScriptBack(t, api.Script{let(500), let(500)})
	wantScriptBack(t, api.Script{let(500), with(let(500))})
	wantScriptBack(t, api.Script{with(let(500)), with(let(500))})
	wantScriptBack(t, api.Script{let(500), with(let(500)), let(1)})
	wantLimit(t, api.Script{with(let(500)), with(let(500)), let(1)})
	wantLimit(t, api.Script{let(1), let(1000), let(1)})
	wantLimit(t, api.Script{let(700), let(700), let(300)})
	wantScriptBack(t, times(60, let(17)))
	wantLimit(t, times(60, let(18)))
}

// P16.2: texts as long as may be are parsed as what they were.
func TestLongTextsBack(t *testing.T) {
	for _, bytes := range []int{3999, 4000} {
		wantScriptBack(t, of(t, bytes))
	}
	long := lit(strings.Repeat("7", mostLiteral), strings.Repeat("u", mostUnit))
	wantBack(t, leftChain(api.Sub, 6, long))
	wantBack(t, rightChain(api.Sub, 6, long))
	wantBack(t, leftChain(api.Mul, 7, long))
	wantScriptBack(t, api.Script{{Kind: api.DOutput, Name: sixteen, Tree: rightChain(api.Div, 6, long), Unit: strings.Repeat("u", mostUnit), Places: 60}})
	num := "-" + strings.Repeat("7", mostLiteral) + "/" + strings.Repeat("1", mostLiteral)
	wantScriptBack(t, api.Script{{Kind: api.DSource, Name: "x", Num: num, Var: num, Unit: strings.Repeat("u", mostUnit)}, {Kind: api.DCov, Name: "x", Other: "y", Num: num}})
}

// P16.2, F6: a text that parses is written, and parsed, as what it was, though its blanks, notes and brackets were others.
func TestTextsThatParse(t *testing.T) {
	for _, s := range []string{
		"", "# a note\n", "let a=1;", "unit u=1/2[m];let b=((a));# c\n output\ty=( ( x ) + ( y * z ) ) - ( - ( 1 ) ^ 007 ) in[ m ]:07;", "let a=--(-(x))^-0;", "source x=-0/0[#]:- 1 / 2;cov x x = - 1;",
		"let a=(x+y)+z;let b=x+(y+z);let c=((x*y))*z;let d=x*((y*z));let e=(x^2);let f=(2[m])^2;let g=-(2)^2;let h=(-2)^2;",
		strings.Repeat("let a=(((x)))-(y);", 60),
	} {
		all, f := parse.Script(s, most())
		if f != (api.Fault{}) {
			t.Fatalf("%q: %v", s, f)
		}
		wantScriptBack(t, all)
		again, f := parse.Script(strings.ReplaceAll(linesOf(all), "\n", "# \n"), most())
		if f != (api.Fault{}) {
			t.Errorf("%q with notes: %v", s, f)
		}
		wantSame(t, all, again, true)
	}
}
