package parse_test

import (
	"fmt"
	"math"
	"reflect"
	"slices"
	"strconv"
	"strings"
	"testing"

	"steelyard/api"
	"steelyard/lex"
	"steelyard/parse"
	"steelyard/tree"
)

// most tells limits of which each is the one of api.
func most() api.Limits {
	return api.Limits{Text: api.MaxText, Deep: api.MaxDeep, Nodes: api.MaxNodes, Power: api.MaxPower}
}

// edges are numbers that are far out, or near 0.
func edges() []int {
	return []int{math.MinInt, math.MinInt + 1, math.MinInt32, -1000, -2, -1, 0, 1, 2, 3}
}

func lit(text, unit string, at int) api.Node {
	return api.Node{Kind: api.Lit, Text: text, Unit: unit, At: at}
}
func ref(name string, at int) api.Node { return api.Node{Kind: api.Ref, Text: name, At: at} }
func neg(a, at int) api.Node           { return api.Node{Kind: api.Neg, A: a, At: at} }
func pow(a, n, at int) api.Node        { return api.Node{Kind: api.Pow, A: a, N: n, At: at} }
func join(kind, a, b, at int) api.Node { return api.Node{Kind: kind, A: a, B: b, At: at} }

// isOf tells whether t is of a class: a text in quotes is that sign or word, a word in capitals what the document calls so.
func isOf(t api.Token, class string) bool {
	switch class {
	case "NAME":
		return t.Kind == api.Word && lex.IsName(t.Text)
	case "NUMBER":
		return t.Kind == api.Number
	case "UNITS":
		return t.Kind == api.Units
	case "PLACES":
		return t.Kind == api.Number && len(t.Text) <= 2 && strings.Trim(t.Text, "0123456789") == ""
	case "EXPONENT":
		return t.Kind == api.Number && len(t.Text) <= 3 && strings.Trim(t.Text, "0123456789") == ""
	}
	return (t.Kind == api.Word || t.Kind == api.Sign) && `"`+t.Text+`"` == class
}

// shapes is what stands in each declaration behind its word; of "units" and "in" there may be none.
func shapes(word string) (kind int, parts string) {
	switch word {
	case "unit":
		return api.DUnit, `NAME "=" num UNITS ";"`
	case "source":
		return api.DSource, `NAME "=" num units ":" num ";"`
	case "cov":
		return api.DCov, `NAME NAME "=" num ";"`
	case "let":
		return api.DLet, `NAME "=" formula ";"`
	case "output":
		return api.DOutput, `NAME "=" formula in ":" PLACES ";"`
	}
	return 0, ""
}

// reading goes along a text's tokens by the document's words; a fault is a panic of it.
type reading struct {
	left []api.Token
	size int
	most api.Limits
	made int
}

// begun tells the reading of s at its beginning.
func begun(s string, l api.Limits) *reading {
	held := func(n, most int) int {
		if n < 0 {
			return 0
		}
		return min(n, most)
	}
	m := &reading{size: len(s), most: api.Limits{Deep: held(l.Deep, 60), Nodes: held(l.Nodes, 2000), Power: held(l.Power, 64)}}
	if len(s) > held(l.Text, 4000) {
		m.stop(api.ErrLimit, 0)
	}
	all, f := lex.Tokens(s)
	if f != (api.Fault{}) {
		m.stop(f.E, f.At)
	}
	m.left = all
	return m
}

// stop tells a fault.
func (m *reading) stop(e api.Errno, at int) {
	panic(api.Fault{E: e, At: at})
}

// takes takes the next token, if it is of the class.
func (m *reading) takes(class string) (api.Token, bool) {
	if len(m.left) == 0 || !isOf(m.left[0], class) {
		return api.Token{}, false
	}
	t := m.left[0]
	m.left = m.left[1:]
	return t, true
}

// must takes the next token, which must be of the class.
func (m *reading) must(class string) api.Token {
	t, ok := m.takes(class)
	if !ok && len(m.left) == 0 {
		m.stop(api.ErrSyntax, m.size)
	} else if !ok {
		m.stop(api.ErrSyntax, m.left[0].At)
	}
	return t
}

// readScript tells what s is as a script, by the document's words.
func readScript(s string, l api.Limits) (all api.Script, f api.Fault) {
	defer func() {
		if x := recover(); x != nil {
			all, f = nil, x.(api.Fault)
		}
	}()
	m := begun(s, l)
	for len(m.left) > 0 {
		kind, parts := shapes(m.left[0].Text)
		if kind == 0 || m.left[0].Kind != api.Word {
			m.stop(api.ErrSyntax, m.left[0].At)
		}
		if len(all) == 60 {
			m.stop(api.ErrLimit, m.left[0].At)
		}
		m.left = m.left[1:]
		all = append(all, m.declaration(kind, strings.Fields(parts)))
	}
	return all, api.Fault{}
}

// readFormula tells what s is as a formula, by the document's words.
func readFormula(s string, l api.Limits) (x api.Tree, f api.Fault) {
	defer func() {
		if y := recover(); y != nil {
			x, f = nil, y.(api.Fault)
		}
	}()
	m := begun(s, l)
	x = m.formula()
	if len(m.left) > 0 {
		m.stop(api.ErrSyntax, m.left[0].At)
	}
	return x, api.Fault{}
}

// declaration takes a declaration of such parts.
func (m *reading) declaration(kind int, parts []string) api.Decl {
	d := api.Decl{Kind: kind}
	var names []api.Token
	var nums []string
	for _, p := range parts {
		switch p {
		case "NAME":
			names = append(names, m.must(p))
		case "num":
			nums = append(nums, m.num())
		case "UNITS":
			d.Unit = m.must(p).Text
		case "units":
			t, _ := m.takes("UNITS")
			d.Unit = t.Text
		case "in":
			if _, ok := m.takes(`"in"`); ok {
				d.Unit = m.must("UNITS").Text
			}
		case "formula":
			d.Tree = m.formula()
		case "PLACES":
			t := m.must(p)
			d.Places, _ = strconv.Atoi(t.Text)
			if d.Places > 60 {
				m.stop(api.ErrLimit, t.At)
			}
		default:
			m.must(p)
		}
	}
	d.Name, d.At = names[0].Text, names[0].At
	if len(names) == 2 {
		d.Other = names[1].Text
	}
	if len(nums) > 0 {
		d.Num = nums[0]
	}
	if len(nums) == 2 {
		d.Var = nums[1]
	}
	return d
}

// num takes a num.
func (m *reading) num() string {
	minus, _ := m.takes(`"-"`)
	text := minus.Text + m.must("NUMBER").Text
	if _, ok := m.takes(`"/"`); ok {
		text += "/" + m.must("NUMBER").Text
	}
	return text
}

// waiting is a sign, or a bracket, that waits for what belongs to it; what binds more has the higher rank.
type waiting struct {
	kind, first, rank, at int
}

// The ranks of what waits.
const (
	bracket = iota
	sum
	product
	minus
)

// signOf tells the kind and the rank of a sign between two parts; "", if the next token is none.
func (m *reading) signOf() (class string, kind, rank int) {
	for _, x := range []waiting{{kind: api.Add, rank: sum}, {kind: api.Sub, rank: sum}, {kind: api.Mul, rank: product}, {kind: api.Div, rank: product}} {
		class := []string{api.Add: `"+"`, api.Sub: `"-"`, api.Mul: `"*"`, api.Div: `"/"`}[x.kind]
		if len(m.left) > 0 && isOf(m.left[0], class) {
			return class, x.kind, x.rank
		}
	}
	return "", 0, 0
}

// grown tells x and n, unless that is a node too many.
func (m *reading) grown(x api.Tree, n api.Node) api.Tree {
	if m.made == m.most.Nodes {
		m.stop(api.ErrLimit, n.At)
	}
	m.made++
	return append(x, n)
}

// formula takes a formula, not by what stands within what, but along the tokens, with a list of what waits.
func (m *reading) formula() api.Tree {
	var x api.Tree
	var wait []waiting
	settle := func(rank int) {
		for len(wait) > 0 && wait[len(wait)-1].rank >= rank {
			w := wait[len(wait)-1]
			wait = wait[:len(wait)-1]
			n := api.Node{Kind: w.kind, A: w.first, B: len(x) - 1, At: w.at}
			if w.kind == api.Neg {
				n.A, n.B = len(x)-1, 0
			}
			x = m.grown(x, n)
		}
	}
	for {
		wait = m.opening(wait)
		x = m.grown(x, m.leaf())
		x = m.raised(x)
		settle(minus)
		class, kind, rank := m.signOf()
		for class == "" {
			settle(sum)
			if len(wait) == 0 {
				return x
			}
			m.must(`")"`)
			wait = wait[:len(wait)-1]
			x = m.raised(x)
			settle(minus)
			class, kind, rank = m.signOf()
		}
		settle(rank)
		wait = append(wait, waiting{kind: kind, first: len(x) - 1, rank: rank, at: m.must(class).At})
	}
}

// opening takes brackets and signs that stand ahead of a leaf, and tells them behind what waits.
func (m *reading) opening(wait []waiting) []waiting {
	for {
		w := waiting{kind: api.Neg, rank: minus}
		t, ok := m.takes(`"-"`)
		if !ok {
			w = waiting{rank: bracket}
			t, ok = m.takes(`"("`)
		}
		if !ok {
			return wait
		}
		w.at = t.At
		wait = append(wait, w)
		deep := 0
		for _, o := range wait {
			if o.rank == bracket || o.rank == minus {
				deep++
			}
		}
		if deep > m.most.Deep {
			m.stop(api.ErrLimit, t.At)
		}
	}
}

// leaf takes a number, perhaps with units, or a name.
func (m *reading) leaf() api.Node {
	if t, ok := m.takes("NUMBER"); ok {
		u, _ := m.takes("UNITS")
		return lit(t.Text, u.Text, t.At)
	}
	t := m.must("NAME")
	return ref(t.Text, t.At)
}

// raised tells x, to the power that comes next, if one does.
func (m *reading) raised(x api.Tree) api.Tree {
	sign, ok := m.takes(`"^"`)
	if !ok {
		return x
	}
	_, below := m.takes(`"-"`)
	t := m.must("EXPONENT")
	n, _ := strconv.Atoi(t.Text)
	if n > m.most.Power {
		m.stop(api.ErrLimit, t.At)
	}
	if below {
		n = -n
	}
	return m.grown(x, pow(len(x)-1, n, sign.At))
}

// sameDecl tells whether two declarations are alike; nil and empty trees are one.
func sameDecl(a, b api.Decl) bool {
	if !slices.Equal(a.Tree, b.Tree) {
		return false
	}
	a.Tree, b.Tree = nil, nil
	return reflect.DeepEqual(a, b)
}

// mostShown is how many items of a list what fails tells at most, so that it can be read.
const mostShown = 8

// shownTree tells a tree's first nodes as text.
func shownTree(x api.Tree) string {
	text := ""
	for i, n := range x {
		if i == mostShown {
			text += fmt.Sprintf(" and %d more", len(x)-i)
			break
		}
		text += fmt.Sprintf(" {%d %d %d %d %.30q %.30q @%d}", n.Kind, n.A, n.B, n.N, n.Text, n.Unit, n.At)
	}
	return "[" + text + " ]"
}

// shownScript tells a script's first declarations as text.
func shownScript(all api.Script) string {
	text := ""
	for i, d := range all {
		if i == mostShown {
			text += fmt.Sprintf(" and %d more", len(all)-i)
			break
		}
		text += fmt.Sprintf(" {%d %.30q %.30q %.30q %.30q %.30q %s %d @%d}", d.Kind, d.Name, d.Other, d.Num, d.Var, d.Unit, shownTree(d.Tree), d.Places, d.At)
	}
	return "[" + text + " ]"
}

// wantScript asks for these declarations, and no fault.
func wantScript(t *testing.T, s string, l api.Limits, want ...api.Decl) {
	t.Helper()
	got, f := parse.Script(s, l)
	if f != (api.Fault{}) || !slices.EqualFunc(got, want, sameDecl) {
		t.Errorf("Script(%.250q, %v), of %d bytes, = %s, %v, want %s", s, l, len(s), shownScript(got), f, shownScript(want))
	}
	for _, d := range got {
		if formula := d.Kind == api.DLet || d.Kind == api.DOutput; formula != tree.Good(d.Tree) {
			t.Errorf("Script(%.250q, %v): Good(%s) = %v", s, l, shownTree(d.Tree), !formula)
		}
	}
}

// wantTree asks for these nodes, and no fault.
func wantTree(t *testing.T, s string, l api.Limits, want ...api.Node) {
	t.Helper()
	got, f := parse.Formula(s, l)
	if f != (api.Fault{}) || !slices.Equal(got, want) {
		t.Errorf("Formula(%.250q, %v), of %d bytes, = %s, %v, want %s", s, l, len(s), shownTree(got), f, shownTree(want))
	}
	if f == (api.Fault{}) && !tree.Good(got) {
		t.Errorf("Formula(%.250q, %v): Good(%s) = false", s, l, shownTree(got))
	}
}

// wantFault asks for a fault of a script, beside which there is no declaration.
func wantFault(t *testing.T, s string, l api.Limits, e api.Errno, at int) {
	t.Helper()
	got, f := parse.Script(s, l)
	if f != (api.Fault{E: e, At: at}) || len(got) != 0 {
		t.Errorf("Script(%.250q, %v), of %d bytes, = %s, %v, want error %d at %d alone", s, l, len(s), shownScript(got), f, e, at)
	}
}

// wantNoTree asks for a fault of a formula, beside which there is no node.
func wantNoTree(t *testing.T, s string, l api.Limits, e api.Errno, at int) {
	t.Helper()
	got, f := parse.Formula(s, l)
	if f != (api.Fault{E: e, At: at}) || len(got) != 0 {
		t.Errorf("Formula(%.250q, %v), of %d bytes, = %s, %v, want error %d at %d alone", s, l, len(s), shownTree(got), f, e, at)
	}
}

// unmarked tells a text without the bar in it, and where that stood.
func unmarked(marked string) (s string, at int) {
	return strings.Replace(marked, "|", "", 1), strings.Index(marked, "|")
}

// wantSyntax asks for ErrSyntax where the bar stands in a script.
func wantSyntax(t *testing.T, marked string) {
	t.Helper()
	s, at := unmarked(marked)
	wantFault(t, s, most(), api.ErrSyntax, at)
}

// wantLimit asks for ErrLimit where the bar stands in a script.
func wantLimit(t *testing.T, marked string, l api.Limits) {
	t.Helper()
	s, at := unmarked(marked)
	wantFault(t, s, l, api.ErrLimit, at)
}

// wantWrong asks for ErrSyntax where the bar stands in a formula, and in a script's formula.
func wantWrong(t *testing.T, marked string) {
	t.Helper()
	s, at := unmarked(marked)
	wantNoTree(t, s, most(), api.ErrSyntax, at)
	wantFault(t, "let v="+s+";", most(), api.ErrSyntax, at+6)
}

// wantTooMuch asks for ErrLimit where the bar stands in a formula, and in a script's formula.
func wantTooMuch(t *testing.T, marked string, l api.Limits) {
	t.Helper()
	s, at := unmarked(marked)
	wantNoTree(t, s, l, api.ErrLimit, at)
	if at > 0 || len(s) <= l.Text-7 {
		wantFault(t, "let v="+s+";", l, api.ErrLimit, at+6)
	}
}

// check holds what is told of s, as a script and as a formula, against the reading.
func check(t *testing.T, s string, l api.Limits) {
	t.Helper()
	all, f := readScript(s, l)
	if f != (api.Fault{}) {
		wantFault(t, s, l, f.E, f.At)
	} else {
		wantScript(t, s, l, all...)
	}
	checkFormula(t, s, l)
}

// checkFormula holds what is told of s as a formula against the reading.
func checkFormula(t *testing.T, s string, l api.Limits) {
	t.Helper()
	x, f := readFormula(s, l)
	if f != (api.Fault{}) {
		wantNoTree(t, s, l, f.E, f.At)
	} else {
		wantTree(t, s, l, x...)
	}
}

// declarations tells texts of one declaration each, of all shapes, that have no fault.
func declarations() []string {
	return []string{
		"unit u=1[m];", "unit nmi = -1.852e3 / 7 [ km ] ;",
		"source x=1:2;", "source x_1 = - 2.5 / 3 [km/h] : - 1e-4 / 9 ;", "source y=1[m]:1/2;", "source z=-0:0;",
		"cov x y=1;", "cov a b = - 0.5 / 3 ;",
		"let v=x;", "let w = ( x - y ) * 2 [m] ^ -3 / - z ;",
		"output o=1:0;", "output p = x ^ 2 in [m^2] : 60 ;", "output q=-(x)in[m]:3;",
	}
}

// formulas tells texts of one formula each, of all shapes, that have no fault.
func formulas() []string {
	return []string{
		"x", "1", "2[m]", "1.5e-3 [kg m / s^2]", "(x)", "-x", "x^2", "x^-64", "x^000", "1+2", "a-b-c", "a*b/c*d", "a+b*c-d/e", "(a+b)*(c-d)",
		"-x^2", "(-x)^2", "--x", "-(-(x))", "a- -b", "a*-b", "((((x))))^2", "(x^2)^3", "2 [m]^2", "1 - (2 - (3 - 4))", "- ( a + - b ) ^ -1 / c",
	}
}
