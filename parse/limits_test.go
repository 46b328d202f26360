package parse_test

import (
	"math"
	"strconv"
	"strings"
	"testing"

	"steelyard/api"
)

// A text is too long whatever stands in it, and whatever else is too much.
func TestTextLimit(t *testing.T) {
	for _, s := range append(append(declarations(), formulas()...), "", " ", "?", "2x", "let", "((((", "# note") {
		for _, n := range append(edges(), len(s)-1, len(s), len(s)+1, api.MaxText-1, api.MaxText, api.MaxText+1, math.MaxInt) {
			l := most()
			l.Text = n
			check(t, s, l)
			if len(s) > max(n, 0) {
				wantFault(t, s, l, api.ErrLimit, 0)
				wantNoTree(t, s, l, api.ErrLimit, 0)
			}
		}
	}
	for _, size := range []int{api.MaxText, api.MaxText + 1, 2*api.MaxText + 7} {
		for _, begin := range []string{"", "let v=1;", "x", "?", "2x", "let v=?", "((", "#"} {
			s := begin + strings.Repeat(" ", size-len(begin))
			for _, n := range []int{api.MaxText - 1, api.MaxText, api.MaxText + 1, size, math.MaxInt} {
				l := api.Limits{Text: n}
				check(t, s, l)
				if size > api.MaxText || n < size {
					wantFault(t, s, l, api.ErrLimit, 0)
					wantNoTree(t, s, l, api.ErrLimit, 0)
				}
			}
		}
	}
}

// With the zero Limits the empty text alone is not too long.
func TestZeroLimits(t *testing.T) {
	for _, l := range []api.Limits{{}, {Text: -1, Deep: -1, Nodes: -1, Power: -1}, {Text: math.MinInt, Deep: math.MinInt, Nodes: math.MinInt, Power: math.MinInt}} {
		wantScript(t, "", l)
		wantNoTree(t, "", l, api.ErrSyntax, 0)
		for _, s := range append(append(declarations(), formulas()...), " ", "?", "#") {
			wantFault(t, s, l, api.ErrLimit, 0)
			wantNoTree(t, s, l, api.ErrLimit, 0)
		}
		l.Text = 100
		wantScript(t, " # none", l)
		wantScript(t, "cov x y=1;", l, api.Decl{Kind: api.DCov, Name: "x", Other: "y", Num: "1", At: 4})
		wantTooMuch(t, "|x", l)
		wantTooMuch(t, "|1[m]", l)
		wantTooMuch(t, "|(x)", l)
		wantTooMuch(t, "|-x", l)
		wantNoTree(t, "+x", l, api.ErrSyntax, 0)
		wantFault(t, "let v=;", l, api.ErrSyntax, 6)
	}
}

// What is open counts, be it "(" or "-", and what was closed does not.
func TestDepth(t *testing.T) {
	l := most()
	for deep, forms := range map[int][]string{
		0: {"x", "x-y", "1-2-3", "x^-2", "x - y ^ - 2", "2[-(]"},
		1: {"(x)", "-x", "(x)+(y)", "-x*-y", "-x-(y)-z", "x--y", "x^-2-(y)^-2", "-x^-2", "(x)^-2*(y-z)", "(1-2)-(3-4)"},
		2: {"((x))", "-(x)", "(-x)", "--x", "-x*(-y)", "(x)-(-y)-z", "-(x)-(y)", "(x^-2-(y))", "-(x-y)", "(a)*((b)-(c))"},
		3: {"-(-x)+(-x)", "(((x)))", "---x", "-((x))", "(--x)", "(-(x))", "-(-x)", "-(a*-b)*-(-c)", "((a)-(b))*((-c))", "--(a-b)"},
	} {
		for _, s := range forms {
			for n := -2; n < 6; n++ {
				l.Deep = n
				check(t, s, l)
				_, f := readFormula(s, l)
				if (f == api.Fault{}) != (max(n, 0) >= deep) {
					t.Errorf("%q is of depth %d, and %d tells %v", s, deep, n, f)
				}
			}
		}
	}
	l.Deep = 2
	for _, marked := range []string{
		"((|(x)))", "--|-x", "(-|(x))", "-(|-x)", "(x)+((y)+(|(z)))", "-x*-(|-y)", "--x-(-|-y)", "(a)-(b)-(c-(|-d))", "((|(", "--|-", "((|-)", "((a)-(|(x)))", "((a)^2-(|-b))", "(-a^-2-(|-b",
	} {
		wantTooMuch(t, marked, l)
	}
	l.Deep = 0
	for _, marked := range []string{"|(", "|-", "|(x)", "|-x", "a+|(b)", "a-|-b", "a*|-b", "a^2-|(b)", "|()", "|-)"} {
		wantTooMuch(t, marked, l)
	}
	for _, marked := range []string{"x|(", "1|(y)", "x^|(2)", "x^-|-2", "|)("} {
		s, at := unmarked(marked)
		wantNoTree(t, s, l, api.ErrSyntax, at)
	}
}

// Brackets and signs in every mixture, up to the depth of api and one more.
func TestDeepest(t *testing.T) {
	for mix := range 64 {
		open, end := "", ""
		for i := range api.MaxDeep {
			if mix>>(i%6)&1 == 0 {
				open, end = open+"(", end+")"
			} else {
				open += "-"
			}
		}
		for _, n := range []int{api.MaxDeep - 1, api.MaxDeep, api.MaxDeep + 1, math.MaxInt} {
			l := most()
			l.Deep = n
			check(t, open+"x"+end, l)
			check(t, "let v="+open+"x"+end+";", l)
			if n < api.MaxDeep {
				wantTooMuch(t, open[:59]+"|"+open[59:]+"x"+end, l)
				continue
			}
			wantTooMuch(t, open+"|(x)"+end, l)
			wantTooMuch(t, open+"|-x"+end, l)
			wantTooMuch(t, open+"x"+end+"+"+open+"|-", l)
			if _, f := readFormula(open+"x"+end, l); f != (api.Fault{}) {
				t.Errorf("%q tells %v", open+"x"+end, f)
			}
		}
	}
}

// A node is made when what belongs to it was read, and told where it stands, if it is one too many.
func TestNodes(t *testing.T) {
	l := most()
	for marked, n := range map[string]int{
		"|a": 0, "|1[m]": 0, "(|a)": 0,
		"a+b|*c": 3, "a|+b*c": 4, "a+b*|c": 2, "a+|b*c": 1, "|a+b*c": 0,
		"a*b|+c": 4, "a*b+|c": 3, "a|*b+c": 2, "a-b|-c": 4, "a|-b-c": 2,
		"|-b": 1, "-|b": 0, "-|-b": 1, "|--b": 2, "|-b^2": 2, "-b|^2": 1, "(-b)|^2": 2, "(|-b)^2": 1,
		"b|^-2": 1, "(a|/b)^-2": 2, "(a/b)|^-2": 3, "a*(|b)": 1, "a|*(b)": 2, "2[m]|*3[s]": 2, "2[m]*|3[s]": 1, "a+|-b": 2, "a|+-b": 3, "((a)|-(b))": 2,
	} {
		l.Nodes = n
		wantTooMuch(t, marked, l)
		s, _ := unmarked(marked)
		for m := -1; m < 9; m++ {
			l.Nodes = m
			check(t, s, l)
		}
	}
}

// Nodes are counted over all formulas of a script, and nowhere else.
func TestNodesOfAllFormulas(t *testing.T) {
	s := "let a=1+x;source n=-1/2:3/4;unit u=-1[m];let b=-(x^2);cov x y=-1/2;output c=a*b in[m]:60;output d=x:1;"
	want, f := readScript(s, most())
	if f != (api.Fault{}) {
		t.Fatal(f)
	}
	l := api.Limits{Text: 200, Deep: 2, Nodes: 10, Power: 2}
	wantScript(t, s, l, want...)
	for n, marked := range []string{"let a=|1+x;", "let a=1+|x;", "let a=1|+x;", "let b=-(|x^2);", "let b=-(x|^2);", "let b=|-(x^2);", "output c=|a*b in", "output c=a*|b in", "output c=a|*b in", "output d=|x:1;"} {
		part, at := unmarked(marked)
		l.Nodes = n
		wantFault(t, s, l, api.ErrLimit, strings.Index(s, part)+at)
	}
	// Each formula has its own places, though all count together.
	wantScript(t, "let a=1+2;let b=3+4;", api.Limits{Text: 20, Nodes: 6},
		api.Decl{Kind: api.DLet, Name: "a", Tree: api.Tree{lit("1", "", 6), lit("2", "", 8), join(api.Add, 0, 1, 7)}, At: 4},
		api.Decl{Kind: api.DLet, Name: "b", Tree: api.Tree{lit("3", "", 16), lit("4", "", 18), join(api.Add, 0, 1, 17)}, At: 14})
}

// No text has more nodes than MaxNodes with limits as they stand, but some have just as many.
func TestMostNodes(t *testing.T) {
	sum := "a" + strings.Repeat("+a", api.MaxNodes/2-1)
	for _, n := range []int{api.MaxNodes - 2, api.MaxNodes - 1, api.MaxNodes, api.MaxNodes + 1, math.MaxInt} {
		l := most()
		l.Nodes = n
		check(t, sum, l)
		check(t, sum+"^2", l)
		check(t, "-"+sum, l)
		check(t, "-("+sum+")", l)
		check(t, sum+"*a^2", l)
		check(t, sum+"+a", l)
		check(t, "let v="+sum[:1999]+";", l)
	}
	x, f := readFormula(sum, most())
	if f != (api.Fault{}) || len(x) != api.MaxNodes-1 {
		t.Fatal(len(x), f)
	}
	wantTree(t, sum, most(), x...)
	wantTree(t, "(("+sum+"))", most(), moved(x, 2)...)
	wantTree(t, "-"+sum, most(), append(append(moved(x[:1], 1), neg(0, 0)), behindOne(moved(x[1:], 1))...)...)
	wantNoTree(t, "-"+sum+"+a", most(), api.ErrLimit, 2001)
	wantNoTree(t, sum+"+a", most(), api.ErrLimit, 1999)
	wantNoTree(t, sum+"*a^2", most(), api.ErrLimit, 1999)
	// What can't stand behind it is read later.
	wantNoTree(t, sum+"+a b", most(), api.ErrLimit, 1999)
	wantNoTree(t, sum+" b+a", most(), api.ErrSyntax, 2000)
}

// moved tells nodes as they stand so many bytes further on.
func moved(x api.Tree, by int) api.Tree {
	out := append(api.Tree(nil), x...)
	for i := range out {
		out[i].At += by
	}
	return out
}

// behindOne tells nodes as they are behind one node more than there was.
func behindOne(x api.Tree) api.Tree {
	for i := range x {
		if x[i].Kind == api.Add {
			x[i].A++
			x[i].B++
		}
	}
	return x
}

// An exponent's number is held against Power, whatever sign it has.
func TestPowerLimit(t *testing.T) {
	l := most()
	for _, most := range append(edges(), 9, 10, 63, 64, 65, 66, 999, 1000, math.MaxInt) {
		l.Power = most
		for n := range 70 {
			digits := strconv.Itoa(n)
			check(t, "x^"+digits, l)
			check(t, "let v=(a-x)^-"+digits+";", l)
			if n > max(most, 0) || n > api.MaxPower {
				wantTooMuch(t, "x^|"+digits, l)
				wantTooMuch(t, "-x^- |"+digits, l)
				wantTooMuch(t, "x^|"+digits+"*y^", l)
			}
		}
	}
	l.Power = 0
	wantTree(t, "x^000", l, ref("x", 0), pow(0, 0, 1))
	wantTree(t, "x^-0", l, ref("x", 0), pow(0, 0, 1))
	wantTooMuch(t, "x^|1", l)
	// A number that can't stand there is not held against it.
	wantWrong(t, "x^|1000")
	wantNoTree(t, "x^1.5", l, api.ErrSyntax, 2)
	wantNoTree(t, "x^0.0", l, api.ErrSyntax, 2)
}

// A declaration is one too many at its first word, if that is one.
func TestDeclarationLimit(t *testing.T) {
	for _, one := range declarations() {
		all := strings.Repeat(one+"\n", api.MaxDecls)
		check(t, all, most())
		if all, f := readScript(all, most()); f != (api.Fault{}) || len(all) != api.MaxDecls {
			t.Errorf("%q: %d, %v", one, len(all), f)
		}
		for _, word := range []string{"unit", "source", "cov", "let", "output"} {
			wantLimit(t, all+"|"+word, most())
			wantLimit(t, all+" # note\n |"+word+" [m]", most())
		}
		for _, next := range declarations() {
			wantLimit(t, all+"|"+next, most())
		}
		for _, marked := range []string{"|x", "|in", "|;", "|1", "|[let]", "|=", "|Let v=1;"} {
			wantSyntax(t, all+marked)
		}
		wantFault(t, all+"?", most(), api.ErrLex, len(all))
	}
	// A text has its declarations alone, and a formula none.
	many := strings.Repeat("let a=1;", api.MaxDecls)
	wantLimit(t, many+"|let a=1;let a=1;let", most())
	wantScript(t, "let a=1;", most(), api.Decl{Kind: api.DLet, Name: "a", Tree: api.Tree{lit("1", "", 6)}, At: 4})
	wantNoTree(t, "let a=1;", most(), api.ErrSyntax, 0)
}

// Of two faults that one is told which is read first.
func TestOrderOfFaults(t *testing.T) {
	few := api.Limits{Text: 40, Deep: 1, Nodes: 2, Power: 3}
	for marked, e := range map[string]api.Errno{
		"let |1 = 1 1": api.ErrSyntax, "let v = x^|9 1": api.ErrLimit, "let v = x |1 ^9": api.ErrSyntax, "let v = (|(x": api.ErrLimit, "let v = x|((": api.ErrSyntax, "let v = (x |y + (": api.ErrSyntax,
		"let v = a|+b ((": api.ErrLimit, "let v = a+b^|9": api.ErrLimit, "let v = a+b|^3": api.ErrLimit, "let v = a+b^|y": api.ErrSyntax, "let v = a+|*b": api.ErrSyntax, "let v = a^3*|b": api.ErrLimit, "let v = a^3|^9": api.ErrSyntax,
		"let v = -|-": api.ErrLimit, "let v = -|)": api.ErrSyntax, "let v = a-(b |c)": api.ErrSyntax, "let v = a-(b-|(": api.ErrLimit,
		"output y = x : |61 1": api.ErrLimit, "output y = x |1 : 61": api.ErrSyntax, "output y = |-x^3 : 61": api.ErrLimit, "output y = x^|9 : 61": api.ErrLimit, "output y = x in |: 61": api.ErrSyntax, "output y = x in [m] : |99": api.ErrLimit, "output y = x : |061": api.ErrSyntax,
	} {
		s, at := unmarked(marked)
		wantFault(t, s, few, e, at)
	}
	// Lex's fault is ahead of all but a text's length.
	for _, s := range []string{"? let", "let ?", "x ?", "let v=1;;?", "let v=((?", "let v=x^99 ?", "let v=x+x+x ?", "output y=1:99; ?", strings.Repeat("let a=1;", 4) + "2x", "[", ") ] (", "let v=1 # note\n ?"} {
		at := strings.IndexAny(s, "?]")
		if at < 0 {
			at = max(strings.Index(s, "2x"), 0)
		}
		wantFault(t, s, few, api.ErrLex, at)
		wantNoTree(t, s, few, api.ErrLex, at)
		short := few
		short.Text = len(s) - 1
		wantFault(t, s, short, api.ErrLimit, 0)
		wantNoTree(t, s, short, api.ErrLimit, 0)
	}
}

// Each limit at each number near what a text wants, below 0, and far out.
func TestEveryLimit(t *testing.T) {
	texts := []string{
		"let a=-(x-2)^3*-y;", "output y=(1+x)^-2 in[m]:60;let b=--x;", "let a=1;let b=a;let c=(a+b)^2;", "-x^2", "a*(b+c)^-3", "(-(-x))^2", "2[m]", "unit u=1[m];cov x y=-1;source x=-1/2[m]:3;",
	}
	for _, s := range texts {
		for text := -1; text <= 1; text++ {
			for deep := -1; deep <= 4; deep++ {
				for nodes := -1; nodes <= 10; nodes++ {
					for power := -1; power <= 4; power++ {
						check(t, s, api.Limits{Text: len(s) + text, Deep: deep, Nodes: nodes, Power: power})
					}
				}
			}
		}
		for _, far := range []int{math.MinInt, math.MinInt32, math.MaxInt32, math.MaxInt, 1 << 40} {
			check(t, s, api.Limits{Text: far, Deep: far, Nodes: far, Power: far})
			check(t, s, api.Limits{Text: 99, Deep: far, Nodes: 9, Power: 9})
			check(t, s, api.Limits{Text: 99, Deep: 9, Nodes: far, Power: 9})
			check(t, s, api.Limits{Text: 99, Deep: 9, Nodes: 9, Power: far})
		}
	}
}
