package parse_test

import (
	"strconv"
	"strings"
	"testing"

	"steelyard/api"
)

// ownWords are the words that the script's text has for itself.
func ownWords() []string {
	return []string{"unit", "source", "cov", "let", "output", "in"}
}

func TestNoDeclarations(t *testing.T) {
	for _, s := range []string{"", " ", "\n", "\t \n", "#", "# let a=1;", " # unit\n\n#\n ", strings.Repeat(" ", api.MaxText), strings.Repeat("#", api.MaxText)} {
		wantScript(t, s, most())
	}
}

func TestUnits(t *testing.T) {
	wantScript(t, "unit nmi = 1852 [m];", most(), api.Decl{Kind: api.DUnit, Name: "nmi", Num: "1852", Unit: "m", At: 5})
	wantScript(t, "unit u=-1[a b]\n;", most(), api.Decl{Kind: api.DUnit, Name: "u", Num: "-1", Unit: "a b", At: 5})
	wantScript(t, "\nunit #u\n_ = 1.5e-3 / 007 [#]; # 1", most(), api.Decl{Kind: api.DUnit, Name: "_", Num: "1.5e-3/007", Unit: "#", At: 9})
	wantScript(t, "unit u=-0/0[ ];", most(), api.Decl{Kind: api.DUnit, Name: "u", Num: "-0/0", Unit: " ", At: 5})
	for _, marked := range []string{
		"unit|", "unit |=1[m];", "unit |1=1[m];", "unit |[u]=1[m];", "unit u|", "unit u |1[m];", "unit u |u=1[m];", "unit u=|", "unit u=|[m];", "unit u=|x[m];", "unit u=|(1)[m];",
		"unit u=-|", "unit u=-|[m];", "unit u=-|-1[m];", "unit u=|+1[m];", "unit u=1|", "unit u=1|;", "unit u=1|:1;", "unit u=1 |2[m];", "unit u=1|*2[m];", "unit u=1|^2[m];", "unit u=1|-2[m];", "unit u=1 |m;",
		"unit u=1/|", "unit u=1/|;", "unit u=1/|[m];", "unit u=1/|-2[m];", "unit u=1/2|;", "unit u=1/2|/3[m];", "unit u=1[m]|", "unit u=1[m]|[m];", "unit u=1[m]|/2;", "unit u=1[m]|:1;", "unit u=1[m] |in[m];", "unit u=1[m] |let v=1;",
	} {
		wantSyntax(t, marked)
	}
}

func TestSources(t *testing.T) {
	wantScript(t, "source x=1:2;", most(), api.Decl{Kind: api.DSource, Name: "x", Num: "1", Var: "2", At: 7})
	wantScript(t, "source x = 2.5 [km/h] : 1/9 ;", most(), api.Decl{Kind: api.DSource, Name: "x", Num: "2.5", Var: "1/9", Unit: "km/h", At: 7})
	wantScript(t, "  source x_1=- 2 / # by\n3[m]:- 1e2/ 4;", most(), api.Decl{Kind: api.DSource, Name: "x_1", Num: "-2/3", Var: "-1e2/4", Unit: "m", At: 9})
	wantScript(t, "source unit_=0 : 0 ;", most(), api.Decl{Kind: api.DSource, Name: "unit_", Num: "0", Var: "0", At: 7})
	for _, marked := range []string{
		"source|", "source |:", "source x|", "source x |y=1:1;", "source x|:1;", "source x=|:1;", "source x=|[m]:1;", "source x=|y:1;", "source x=-|:1;", "source x=-|-1:1;", "source x=1|", "source x=1|;", "source x=1 |2:1;", "source x=1|*2:1;",
		"source x=1/|:1;", "source x=1/|[m]:1;", "source x=1/2|/3:1;", "source x=1[m]|", "source x=1[m]|;", "source x=1[m]|/2:1;", "source x=1[m]|[m]:1;", "source x=1 |in[m]:1;",
		"source x=1:|", "source x=1:|;", "source x=1:|[m];", "source x=1:|:1;", "source x=1:|y;", "source x=1:|(1);", "source x=1:-|;", "source x=1:1|", "source x=1:1|[m];", "source x=1:1|:1;", "source x=1:1/|;", "source x=1:1/|-2;", "source x=1:1/2|", "source x=1:1/2|/3;", "source x=1[m]:1|[m];",
	} {
		wantSyntax(t, marked)
	}
}

func TestCovs(t *testing.T) {
	wantScript(t, "cov x y=1;", most(), api.Decl{Kind: api.DCov, Name: "x", Other: "y", Num: "1", At: 4})
	wantScript(t, "cov x x = - 0.5 / 3 ;", most(), api.Decl{Kind: api.DCov, Name: "x", Other: "x", Num: "-0.5/3", At: 4})
	wantScript(t, "#\ncov\n#x\n y #z\n\t x=1e9;", most(), api.Decl{Kind: api.DCov, Name: "y", Other: "x", Num: "1e9", At: 10})
	for _, marked := range []string{
		"cov|", "cov |=1;", "cov |1 y=1;", "cov x|", "cov x|=1;", "cov x |1=1;", "cov x |[y]=1;", "cov x|:y=1;", "cov x y|", "cov x y |z=1;", "cov x y|:1;", "cov x y |1;", "cov x y=|", "cov x y=|;", "cov x y=|z;", "cov x y=|[m];", "cov x y=-|;",
		"cov x y=1|", "cov x y=1|[m];", "cov x y=1|:1;", "cov x y=1 |1;", "cov x y=1|-1;", "cov x y=1/|;", "cov x y=1/|-1;", "cov x y=1/2|", "cov x y=1/2|/3;", "cov x y=1/2|[m];",
	} {
		wantSyntax(t, marked)
	}
}

func TestLets(t *testing.T) {
	wantScript(t, "let v=1;", most(), api.Decl{Kind: api.DLet, Name: "v", Tree: api.Tree{lit("1", "", 6)}, At: 4})
	wantScript(t, "let\tv = -x ;", most(), api.Decl{Kind: api.DLet, Name: "v", Tree: api.Tree{ref("x", 9), neg(0, 8)}, At: 4})
	wantScript(t, "let v = 2 [m] * ( x - v ) ;", most(), api.Decl{Kind: api.DLet, Name: "v", At: 4, Tree: api.Tree{lit("2", "m", 8), ref("x", 18), ref("v", 22), join(api.Sub, 1, 2, 20), join(api.Mul, 0, 3, 14)}})
	for _, marked := range []string{
		"let|", "let |=1;", "let |1=1;", "let |(v)=1;", "let v|", "let v |1;", "let v |w=1;", "let v|:1;", "let v=|", "let v=|;", "let v=|=1;", "let v=|let w=1;", "let v=|[m];", "let v=1|", "let v=1|:1;", "let v=1 |in[m];", "let v=x|[m];", "let v=1|=1;", "let v=1 |let w=1;", "let v=(1|;", "let v=1|);", "let v=1;|;",
	} {
		wantSyntax(t, marked)
	}
}

func TestOutputs(t *testing.T) {
	one := api.Tree{lit("1", "", 9)}
	wantScript(t, "output y=1:0;", most(), api.Decl{Kind: api.DOutput, Name: "y", Tree: one, At: 7})
	wantScript(t, "output y=1[m]:3;", most(), api.Decl{Kind: api.DOutput, Name: "y", Tree: api.Tree{lit("1", "m", 9)}, Places: 3, At: 7})
	wantScript(t, "output y=1 in[m]:3;", most(), api.Decl{Kind: api.DOutput, Name: "y", Tree: one, Unit: "m", Places: 3, At: 7})
	wantScript(t, "output y=1 [m] in [cm] : 60 ;", most(), api.Decl{Kind: api.DOutput, Name: "y", Tree: api.Tree{lit("1", "m", 9)}, Unit: "cm", Places: 60, At: 7})
	wantScript(t, "output in_ = x^2 in # the unit\n [km / h] : 07;", most(), api.Decl{Kind: api.DOutput, Name: "in_", Tree: api.Tree{ref("x", 13), pow(0, 2, 14)}, Unit: "km / h", Places: 7, At: 7})
	for _, marked := range []string{
		"output|", "output |in=1:1;", "output |=1:1;", "output y|", "output y |y=1:1;", "output y|:1;", "output y=|", "output y=|:1;", "output y=|in[m]:1;", "output y=|;", "output y=1|", "output y=1|;", "output y=1|=1;", "output y=1 |1:1;", "output y=x|[m]:1;", "output y=(1 |in[m]):1;", "output y=(1)|[m]:1;", "output y=1[m]|[m]:1;", "output y=1 |inn[m]:1;",
		"output y=1 in|", "output y=1 in|:1;", "output y=1 in |m:1;", "output y=1 in |1:1;", "output y=1 in |in[m]:1;", "output y=1 in|;", "output y=1 in[m]|", "output y=1 in[m]|;", "output y=1 in[m]|[m]:1;", "output y=1 in[m] |in[m]:1;", "output y=1 in[m]|+1:1;", "output y=1 in[m] |1;",
		"output y=1:|", "output y=1:|;", "output y=1:|-1;", "output y=1:|x;", "output y=1:|[1];", "output y=1:|:1;", "output y=1:|(1);", "output y=1:1|", "output y=1:1|:1;", "output y=1:1|/1;", "output y=1:1 |1;", "output y=1:1|[m];", "output y=1:1 |in[m];", "output y=1:1|+1;",
	} {
		wantSyntax(t, marked)
	}
}

// An output's number of places is of one or two digits, and at most MaxPlaces.
func TestPlaces(t *testing.T) {
	for n := range 100 {
		for _, digits := range []string{strconv.Itoa(n), strconv.Itoa(100 + n)[1:]} {
			s := "output y=1:" + digits + ";"
			if n <= api.MaxPlaces {
				wantScript(t, s, most(), api.Decl{Kind: api.DOutput, Name: "y", Tree: api.Tree{lit("1", "", 9)}, Places: n, At: 7})
				continue
			}
			wantFault(t, s, most(), api.ErrLimit, 11)
		}
	}
	for _, s := range []string{"000", "007", "060", "061", "100", "600", "1000", "1.5", "0.0", "1e0", "1e1", "1e-1", "9e9", "99999999999999999999999999", "18446744073709551617", "4294967297"} {
		wantSyntax(t, "output y=1 in [m] : |"+s+" ;")
	}
	// A limit of exponents is none of places.
	l := api.Limits{Text: 99, Nodes: 1}
	wantScript(t, "output y=1:60;", l, api.Decl{Kind: api.DOutput, Name: "y", Tree: api.Tree{lit("1", "", 9)}, Places: 60, At: 7})
	wantLimit(t, "output y=1:|61;", l)
	wantLimit(t, "output y=1:|61", most())
	wantLimit(t, "output y=1:|99 99", most())
}

// Names are words, and none of those that the text has for itself; declarations begin with five of these.
func TestWords(t *testing.T) {
	for _, w := range ownWords() {
		for _, marked := range []string{
			"unit |W=1[m];", "source |W=1:1;", "cov |W x=1;", "cov x |W=1;", "let |W=1;", "output |W=1:1;", "let v=|W;", "let v=1+|W;", "let v=(|W);", "let v=-|W;", "let v=x^|W;", "unit u=|W[m];", "source x=1:|W;", "cov x y=|W;", "output y=|W:1;", "output y=1:|W;", "output y=1 in |W[m]:1;", "let v=1;|[W] x=1;",
		} {
			wantSyntax(t, strings.ReplaceAll(marked, "W", w))
		}
	}
	for _, w := range []string{"x", "in", "Let", "LET", "lets", "le", "_let", "let_", "let1", "units", "sources", "covs", "outputs", "unit1", "_", "abcdefghijklmnop"} {
		wantSyntax(t, "|"+w+" v=1;")
		wantSyntax(t, "let a=1;|"+w+" v=1;")
		if w != "in" {
			wantScript(t, "let "+w+"=1;", most(), api.Decl{Kind: api.DLet, Name: w, Tree: api.Tree{lit("1", "", 5+len(w))}, At: 4})
			wantScript(t, "let v="+w+";", most(), api.Decl{Kind: api.DLet, Name: "v", Tree: api.Tree{ref(w, 6)}, At: 4})
		}
	}
	for _, s := range []string{"|1", "|[let] v=1;", "|;", "|;let v=1;", "|=", "|(let v=1;)", "|- let v=1;", "let v=1; |;", "let v=1; |1", "let v=1; |v", "let v=1; |[m]", "let v=1; |in", "let v=1; |in[m];"} {
		wantSyntax(t, s)
	}
}

// Declarations stand one behind the other, with no more between than blanks and notes.
func TestManyDeclarations(t *testing.T) {
	wantScript(t, "unit mi=1.6[km];source x=-2/3[mi]:1e-4;source n=5:0/7;cov x n=-0.01;let a=x*n;output y=a^2 in[cm]:3;output z=n:60;", most(),
		api.Decl{Kind: api.DUnit, Name: "mi", Num: "1.6", Unit: "km", At: 5},
		api.Decl{Kind: api.DSource, Name: "x", Num: "-2/3", Var: "1e-4", Unit: "mi", At: 23},
		api.Decl{Kind: api.DSource, Name: "n", Num: "5", Var: "0/7", At: 46},
		api.Decl{Kind: api.DCov, Name: "x", Other: "n", Num: "-0.01", At: 58},
		api.Decl{Kind: api.DLet, Name: "a", Tree: api.Tree{ref("x", 74), ref("n", 76), join(api.Mul, 0, 1, 75)}, At: 72},
		api.Decl{Kind: api.DOutput, Name: "y", Tree: api.Tree{ref("a", 87), pow(0, 2, 88)}, Unit: "cm", Places: 3, At: 85},
		api.Decl{Kind: api.DOutput, Name: "z", Tree: api.Tree{ref("n", 109)}, Places: 60, At: 107},
	)
	for _, first := range declarations() {
		for _, second := range declarations() {
			check(t, first+second, most())
			check(t, "# one\n"+first+" # two\n\t"+second+" # ;", most())
			wantSyntax(t, first+"|;"+second)
			wantSyntax(t, first+second+"|)")
			wantSyntax(t, strings.TrimSuffix(first, ";")+" |"+second)
			wantSyntax(t, first+strings.TrimSuffix(second, ";")+"|")
		}
	}
}
