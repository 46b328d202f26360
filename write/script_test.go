package write_test

import (
	"math/rand"
	"slices"
	"strconv"
	"strings"
	"testing"

	"steelyard/api"
	"steelyard/write"
)

// P16.1: no declarations have no text.
func TestNoDeclarations(t *testing.T) {
	wantScript(t, nil, "")
	wantScript(t, api.Script{}, "")
}

// P16.1: a line of each kind, with and without what may be left out.
func TestLines(t *testing.T) {
	for _, x := range []struct {
		d    api.Decl
		text string
	}{
		{api.Decl{Kind: api.DUnit, Name: "nmi", Num: "1852", Unit: "m"}, "unit nmi = 1852 [m] ;\n"},
		{api.Decl{Kind: api.DUnit, Name: "u", Num: "-1", Unit: " kg / s "}, "unit u = -1 [ kg / s ] ;\n"},
		{api.Decl{Kind: api.DUnit, Name: "_", Num: "5/09", Unit: "K"}, "unit _ = 5/09 [K] ;\n"},
		{api.Decl{Kind: api.DUnit, Name: "u1", Num: "-1.50e-3/7", Unit: " "}, "unit u1 = -1.50e-3/7 [ ] ;\n"},
		{api.Decl{Kind: api.DSource, Name: "x", Num: "1", Var: "2"}, "source x = 1 : 2 ;\n"},
		{api.Decl{Kind: api.DSource, Name: "x", Num: "-2/3", Var: "1e-4", Unit: "mi"}, "source x = -2/3 [mi] : 1e-4 ;\n"},
		{api.Decl{Kind: api.DSource, Name: "x", Num: "0", Var: "-0/7", Unit: "#"}, "source x = 0 [#] : -0/7 ;\n"},
		{api.Decl{Kind: api.DCov, Name: "x", Other: "y", Num: "1"}, "cov x y = 1 ;\n"},
		{api.Decl{Kind: api.DCov, Name: "x", Other: "x", Num: "-0.01/3"}, "cov x x = -0.01/3 ;\n"},
		{api.Decl{Kind: api.DLet, Name: "v", Tree: api.Tree{ref("x")}}, "let v = x ;\n"},
		{api.Decl{Kind: api.DLet, Name: "v", Tree: api.Tree{ref("x"), neg(0), lit("2", "m"), join(api.Add, 1, 2)}}, "let v = -x + 2 [m] ;\n"},
		{api.Decl{Kind: api.DOutput, Name: "y", Tree: api.Tree{ref("x")}}, "output y = x : 0 ;\n"},
		{api.Decl{Kind: api.DOutput, Name: "y", Tree: api.Tree{ref("x"), pow(0, 2)}, Places: 60}, "output y = x^2 : 60 ;\n"},
		{api.Decl{Kind: api.DOutput, Name: "y", Tree: api.Tree{lit("1", "m")}, Unit: "cm"}, "output y = 1 [m] in [cm] : 0 ;\n"},
		{api.Decl{Kind: api.DOutput, Name: "y", Tree: api.Tree{lit("1", "")}, Unit: "in", Places: 7}, "output y = 1 in [in] : 7 ;\n"},
	} {
		wantGood(t, x.d, true)
		for _, at := range edges() {
			x.d.At = at
			wantScript(t, api.Script{x.d}, x.text)
			wantScript(t, api.Script{x.d, x.d, x.d}, x.text+x.text+x.text)
		}
	}
	for n := range api.MaxPlaces + 1 {
		wantScript(t, api.Script{{Kind: api.DOutput, Name: "y", Tree: api.Tree{ref("x")}, Places: n}}, "output y = x : "+strconv.Itoa(n)+" ;\n")
	}
}

// P16.1: all declarations' texts, in their order, whatever they say together.
func TestManyLines(t *testing.T) {
	all := shapes()
	wantScript(t, all, linesOf(all))
	slices.Reverse(all)
	wantScript(t, all, linesOf(all))
	for _, d := range shapes() {
		for _, other := range shapes() {
			wantScript(t, api.Script{d, other}, lineOf(d)+lineOf(other))
		}
	}
	r := rand.New(rand.NewSource(161))
	for range 2000 {
		var all api.Script
		for range r.Intn(20) {
			all = append(all, randomDecl(r, 12))
		}
		wantScript(t, all, linesOf(all))
	}
}

// times tells a declaration so many times.
func times(n int, d api.Decl) api.Script {
	var all api.Script
	for range n {
		all = append(all, d)
	}
	return all
}

// P16.1: as many declarations as may be, and more.
func TestHowManyDeclarations(t *testing.T) {
	for _, d := range shapes() {
		if len(lineOf(d))*api.MaxDecls > api.MaxText {
			t.Fatal(lineOf(d))
		}
		for _, n := range []int{0, 1, 2, 59, 60} {
			wantScript(t, times(n, d), strings.Repeat(lineOf(d), n))
		}
		for _, n := range []int{61, 62, 120, 5000} {
			wantError(t, times(n, d), api.ErrArg)
		}
	}
}

// P16.1: one that may not be, among others that may.
func TestOneThatMayNotBe(t *testing.T) {
	for _, bad := range []api.Decl{{}, {Kind: 6, Name: "x"}, {Kind: api.DCov, Name: "x", Num: "1"}, {Kind: api.DLet, Name: "let", Tree: api.Tree{ref("x")}}, {Kind: api.DLet, Name: "v"}, {Kind: api.DOutput, Name: "v", Tree: api.Tree{ref("x")}, Places: 61}} {
		wantGood(t, bad, false)
		for _, n := range []int{1, 2, 13, 60} {
			for i := range n {
				all := slices.Repeat(shapes(), 5)[:n]
				all[i] = bad
				wantError(t, all, api.ErrArg)
			}
		}
	}
}

// of tells sources of which the text has so many bytes.
func of(t *testing.T, bytes int) api.Script {
	t.Helper()
	const rest = len("source x =  : 1 ;\n")
	var all api.Script
	for bytes > 0 {
		now := min(bytes, 300)
		if left := bytes - now; left > 0 && left < 50 {
			now -= 50
		}
		all = append(all, api.Decl{Kind: api.DSource, Name: "x", Num: strings.Repeat("7", now-rest), Var: "1"})
		bytes -= now
	}
	return all
}

// P16.1: texts as long as may be, and longer by a byte and more, whatever stands last.
func TestLongTexts(t *testing.T) {
	for _, bytes := range []int{50, 1000, 3998, 3999, 4000} {
		all := of(t, bytes)
		text := linesOf(all)
		if len(text) != bytes {
			t.Fatal(len(text), bytes)
		}
		wantScript(t, all, text)
	}
	for _, bytes := range []int{4001, 4002, 4300, 8000, 12000} {
		wantError(t, of(t, bytes), api.ErrLimit)
	}
	for _, d := range shapes() {
		for more := range 3 {
			all := append(of(t, api.MaxText-len(lineOf(d))+more), d)
			ahead := append(api.Script{d}, all[:len(all)-1]...)
			if more == 0 {
				wantScript(t, all, linesOf(all))
				wantScript(t, ahead, linesOf(ahead))
				continue
			}
			wantError(t, all, api.ErrLimit)
			wantError(t, ahead, api.ErrLimit)
			wantError(t, append(all, d), api.ErrLimit)
		}
	}
}

// P16.1: a formula's text alone may be longer than a script's.
func TestLongFormulas(t *testing.T) {
	let := func(x api.Tree) api.Script { return api.Script{{Kind: api.DLet, Name: "v", Tree: x}} }
	for _, x := range []api.Tree{negs(2000), leftChain(api.Mul, 1000, ref("xy"))} {
		wantScript(t, let(x), "let v = "+textOf(x)+" ;\n")
	}
	// A let of v has eleven bytes beside its formula's: 1000 names of three bytes, ten of them one shorter, and 999 signs leave no room.
	x := leftChain(api.Mul, 1000, ref("abc"))
	for i := range 10 {
		x[len(x)-2-2*i].Text = "ab"
	}
	if len(textOf(x)) != api.MaxText-11 {
		t.Fatal(len(textOf(x)))
	}
	wantScript(t, let(x), "let v = "+textOf(x)+" ;\n")
	x[0].Text += "d"
	wantFormula(t, x, textOf(x))
	wantError(t, let(x), api.ErrLimit)
	for _, x := range []api.Tree{pows(2000), rightChain(api.Sub, 1000, ref("x")), leftChain(api.Add, 1000, lit(strings.Repeat("7", mostLiteral), strings.Repeat("u", mostUnit)))} {
		wantGood(t, let(x)[0], true)
		wantError(t, let(x), api.ErrLimit)
		wantError(t, times(60, let(x)[0]), api.ErrLimit)
		wantError(t, times(61, let(x)[0]), api.ErrArg)
		wantError(t, api.Script{{Kind: api.DOutput, Name: "y", Tree: x, Unit: "m", Places: 3}}, api.ErrLimit)
	}
}

// P16.1: ErrArg goes ahead of ErrLimit, wherever stands what may not be.
func TestWhichErrorGoesAhead(t *testing.T) {
	long := of(t, 6000)
	bad := api.Decl{Kind: api.DSource, Name: "x", Num: "1", Var: ""}
	wantError(t, long, api.ErrLimit)
	wantError(t, append(slices.Clone(long), bad), api.ErrArg)
	wantError(t, append(api.Script{bad}, long...), api.ErrArg)
	for i := range long {
		all := slices.Clone(long)
		all[i] = bad
		wantError(t, all, api.ErrArg)
	}
	many := slices.Repeat(long, 3)
	wantError(t, many[:60], api.ErrLimit)
	wantError(t, slices.Repeat(long, 9)[:61], api.ErrArg)
	wantError(t, slices.Repeat(long, 9)[:60], api.ErrLimit)
}

// P16.1: Good of each of a script's declarations is what Script asks for.
func TestGoodAndScript(t *testing.T) {
	r := rand.New(rand.NewSource(162))
	for range 3000 {
		d := randomDecl(r, 12)
		wantGood(t, d, true)
		other := randomDecl(r, 12)
		switch r.Intn(8) {
		case 0:
			d.Kind = other.Kind
		case 1:
			d.Name = other.Num
		case 2:
			d.Other = other.Other
		case 3:
			d.Num = other.Num
		case 4:
			d.Var = other.Var
		case 5:
			d.Unit = other.Unit
		case 6:
			d.Tree = other.Tree
		case 7:
			d.Places = other.Places
		}
		wantGood(t, d, mayBe(d))
		if _, e := write.Script(api.Script{d}); (e == api.OK) != mayBe(d) {
			t.Errorf("Script(%s): error %d", shown(api.Script{d}), e)
		}
	}
}
