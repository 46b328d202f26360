package write_test

import (
	"math"
	"strings"
	"testing"

	"steelyard/api"
)

// P16.1: declarations of all kinds may be, wherever their names stand.
func TestGood(t *testing.T) {
	for _, d := range shapes() {
		wantGood(t, d, true)
		for _, at := range edges() {
			d.At = at
			wantGood(t, d, true)
		}
		d.Tree = append(api.Tree{}, d.Tree...)
		wantGood(t, d, true)
	}
}

// P16.1: a kind that is none of the five is none, whatever else there is.
func TestGoodOfKinds(t *testing.T) {
	for _, d := range shapes() {
		for _, kind := range append(edges(), math.MinInt+1, -3, 3, 4, 8, 9, 256, 257, 258, 261, 1<<32+1) {
			other := changed(d, func(d *api.Decl) { d.Kind = kind })
			wantGood(t, other, mayBe(other))
			if kind < 1 || kind > 5 {
				wantGood(t, other, false)
			}
		}
	}
	for _, kind := range edges() {
		wantGood(t, api.Decl{Kind: kind}, false)
		wantGood(t, api.Decl{Kind: kind, Name: "x"}, false)
		wantGood(t, api.Decl{Kind: kind, At: 1}, false)
	}
}

// P16.1: names are names.
func TestGoodOfNames(t *testing.T) {
	good := []string{"x", "_", "_1", "X9_", "Let", "unit_", "ins", "abcdefghijklmno", sixteen}
	bad := append(ownWords(), "", " ", "1", "1x", "x ", " x", "x y", "x-y", "x\n", "é", "x.", "[x]", "x;", "\x00", "\xff", seventeen, strings.Repeat("x", 100000))
	for _, d := range shapes() {
		for _, s := range good {
			wantGood(t, changed(d, func(d *api.Decl) { d.Name = s }), true)
			wantGood(t, changed(d, func(d *api.Decl) { d.Other = s }), d.Kind == api.DCov)
		}
		for _, s := range bad {
			wantGood(t, changed(d, func(d *api.Decl) { d.Name = s }), false)
			wantGood(t, changed(d, func(d *api.Decl) { d.Other = s }), s == "" && d.Kind != api.DCov)
		}
	}
}

// P16.1: a num's text is a "-" or none, a literal, and a "/" and a literal or none.
func TestGoodOfNums(t *testing.T) {
	long := strings.Repeat("7", mostLiteral)
	good := []string{"0", "1", "-1", "-0", "007", "1.5", "1e3", "1e-3", "12.50e-123", "1/2", "-1/2", "0/0", "-1.5e-3/2.5e-3", "1e-1/1e-1", long, "-" + long, long + "/" + long, "-" + long + "/" + long}
	bad := []string{
		"", "-", "--1", "+1", "1/", "/2", "-/2", "/", "-/", "//", "1//2", "1/-2", "1/+2", "1/2/3", "1/2/", " 1", "1 ", "- 1", "1 /2", "1/ 2", "1.", ".5", "1e", "1e+3", "1e1234", "-1-", "1-", "1/2-", "x", "1x", "1,5", "0x1", "1_0", "1[m]", "1;", "\n", "1\n", "1/2\n", "\xff",
		"1" + long, "-1" + long, long + "/1" + long, "1" + long + "/" + long, strings.Repeat("-", 1000) + "1", strings.Repeat("1/", 1000) + "1", strings.Repeat("1", 1000000),
	}
	for _, s := range good {
		if !numMayBe(s) {
			t.Fatalf("%.50q", s)
		}
	}
	for _, s := range bad {
		if numMayBe(s) {
			t.Fatalf("%.50q", s)
		}
	}
	for _, d := range shapes() {
		formula := d.Kind == api.DLet || d.Kind == api.DOutput
		for _, s := range good {
			wantGood(t, changed(d, func(d *api.Decl) { d.Num = s }), !formula)
			wantGood(t, changed(d, func(d *api.Decl) { d.Var = s }), d.Kind == api.DSource)
		}
		for _, s := range bad {
			wantGood(t, changed(d, func(d *api.Decl) { d.Num = s }), s == "" && formula)
			wantGood(t, changed(d, func(d *api.Decl) { d.Var = s }), s == "" && d.Kind != api.DSource)
		}
	}
}

// P16.1: Good of every short text as a num, and as a variance.
func TestGoodOfEveryShortNum(t *testing.T) {
	symbols := []string{"0", "7", "-", "/", ".", "e", "+", " "}
	var grow func(s string)
	grow = func(s string) {
		wantGood(t, api.Decl{Kind: api.DCov, Name: "x", Other: "y", Num: s}, numMayBe(s))
		wantGood(t, api.Decl{Kind: api.DSource, Name: "x", Num: "1", Var: s}, numMayBe(s))
		if len(s) == 5 {
			return
		}
		for _, c := range symbols {
			grow(s + c)
		}
	}
	grow("")
}

// P16.1: a unit may be as a Lit's may; a DUnit's is there, a DCov's and a DLet's is not.
func TestGoodOfUnits(t *testing.T) {
	good := []string{"m", "kg m / s^2", " ", "#", "[", "[m", "unit", ";", "\t", "\x00", "\xff", strings.Repeat("é", mostUnit/2), strings.Repeat("u", mostUnit)}
	bad := []string{"]", "m]", "]m", "a]b", "\n", "m\n", "\nm", "a\nb", strings.Repeat("u", mostUnit+1), strings.Repeat("é", mostUnit/2) + "u", strings.Repeat("]", 100000), strings.Repeat("u", 100000)}
	for _, d := range shapes() {
		has := d.Kind == api.DUnit || d.Kind == api.DSource || d.Kind == api.DOutput
		for _, s := range good {
			wantGood(t, changed(d, func(d *api.Decl) { d.Unit = s }), has)
		}
		for _, s := range bad {
			wantGood(t, changed(d, func(d *api.Decl) { d.Unit = s }), false)
		}
		wantGood(t, changed(d, func(d *api.Decl) { d.Unit = "" }), d.Kind != api.DUnit)
	}
	for b := range 256 {
		s := string([]byte{byte(b)})
		wantGood(t, api.Decl{Kind: api.DUnit, Name: "u", Num: "1", Unit: s}, s != "]" && s != "\n")
		wantGood(t, api.Decl{Kind: api.DSource, Name: "u", Num: "1", Var: "1", Unit: "a" + s + "b"}, s != "]" && s != "\n")
	}
}

// P16.1: a formula may be, where there is one, and is not there elsewhere.
func TestGoodOfFormulas(t *testing.T) {
	for _, d := range shapes() {
		has := d.Kind == api.DLet || d.Kind == api.DOutput
		for _, x := range wild() {
			wantGood(t, changed(d, func(d *api.Decl) { d.Tree = x }), len(x) == 0 && !has)
		}
		for _, x := range []api.Tree{{ref("x")}, {lit("1", "m")}, {{Kind: api.Ref, Text: "x", At: -7}}, negs(2000), pows(2000), leftChain(api.Div, 1000, lit("2", ""))} {
			wantGood(t, changed(d, func(d *api.Decl) { d.Tree = x }), has)
		}
	}
}

// P16.1: an output's Places are from 0 to MaxPlaces, all others' 0.
func TestGoodOfPlaces(t *testing.T) {
	for _, d := range shapes() {
		for n := -100; n <= 200; n++ {
			wantGood(t, changed(d, func(d *api.Decl) { d.Places = n }), n == 0 || d.Kind == api.DOutput && n > 0 && n <= 60)
		}
		for _, n := range edges() {
			wantGood(t, changed(d, func(d *api.Decl) { d.Places = n }), n == 0 || d.Kind == api.DOutput && n > 0 && n <= 60)
		}
	}
}

// P16.1: every choice of which fields are there, for every kind.
func TestGoodOfEveryChoice(t *testing.T) {
	for kind := -1; kind <= 7; kind++ {
		for set := range 1 << 8 {
			d := api.Decl{Kind: kind}
			for i, put := range []func(){
				func() { d.Name = "x" }, func() { d.Other = "y" }, func() { d.Num = "-1/2" }, func() { d.Var = "3" },
				func() { d.Unit = "m" }, func() { d.Tree = api.Tree{ref("x")} }, func() { d.Places = 4 }, func() { d.At = 5 },
			} {
				if set>>i&1 == 1 {
					put()
				}
			}
			wantGood(t, d, mayBe(d))
		}
	}
}
