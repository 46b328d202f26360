package write_test

import (
	"fmt"
	"math"
	"math/rand"
	"reflect"
	"regexp"
	"slices"
	"strconv"
	"strings"
	"testing"

	"steelyard/api"
	"steelyard/tree"
	"steelyard/write"
)

const (
	// mostLiteral is how many bytes a literal has at most.
	mostLiteral = 400
	// mostUnit is how many bytes a unit has at most.
	mostUnit = 200
	// sixteen and seventeen are words of as many bytes: as many as may be, and one more.
	sixteen   = "abcdefghijklmnop"
	seventeen = "abcdefghijklmnopq"
)

// What the document calls a literal, a num, a name but for the text's own words, and a text that may stand in brackets.
var (
	literals = regexp.MustCompile(`^[0-9]+(\.[0-9]+)?(e-?[0-9]{1,3})?$`)
	nums     = regexp.MustCompile(`^-?([^-/]([^/]*))(/([^/]*))?$`)
	names    = regexp.MustCompile(`^[A-Za-z_][A-Za-z0-9_]*$`)
	brackets = regexp.MustCompile(`^[^\]\n]*$`)
)

// most tells limits of which each is the one of api.
func most() api.Limits {
	return api.Limits{Text: api.MaxText, Deep: api.MaxDeep, Nodes: api.MaxNodes, Power: api.MaxPower}
}

// ownWords are the words that a script's text has for itself.
func ownWords() []string {
	return []string{"unit", "source", "cov", "let", "output", "in"}
}

// kinds are the kinds of nodes, joins those of two children.
func kinds() []int {
	return []int{api.Lit, api.Ref, api.Add, api.Sub, api.Mul, api.Div, api.Neg, api.Pow}
}

func joins() []int {
	return []int{api.Add, api.Sub, api.Mul, api.Div}
}

// edges are numbers that are far out, or near a limit.
func edges() []int {
	return []int{math.MinInt, math.MinInt32, -2001, -65, -61, -2, -1, 0, 1, 2, 5, 6, 7, 59, 60, 61, 64, 65, 2000, math.MaxInt32, math.MaxInt}
}

func lit(text, unit string) api.Node { return api.Node{Kind: api.Lit, Text: text, Unit: unit} }
func ref(name string) api.Node       { return api.Node{Kind: api.Ref, Text: name} }
func neg(a int) api.Node             { return api.Node{Kind: api.Neg, A: a} }
func pow(a, n int) api.Node          { return api.Node{Kind: api.Pow, A: a, N: n} }
func join(kind, a, b int) api.Node   { return api.Node{Kind: kind, A: a, B: b} }

// bracketed tells the text of a child, in brackets, if its kind is one of these.
func bracketed(text string, kind int, those ...int) string {
	if slices.Contains(those, kind) {
		return "(" + text + ")"
	}
	return text
}

// textOf tells the text of a formula that may be, by the document's words.
func textOf(x api.Tree) string {
	texts := make([]string, len(x))
	for i, n := range x {
		switch n.Kind {
		case api.Lit:
			texts[i] = n.Text
			if n.Unit != "" {
				texts[i] = n.Text + " [" + n.Unit + "]"
			}
		case api.Ref:
			texts[i] = n.Text
		case api.Add:
			texts[i] = texts[n.A] + " + " + bracketed(texts[n.B], x[n.B].Kind, api.Add, api.Sub)
		case api.Sub:
			texts[i] = texts[n.A] + " - " + bracketed(texts[n.B], x[n.B].Kind, api.Add, api.Sub)
		case api.Mul:
			texts[i] = bracketed(texts[n.A], x[n.A].Kind, api.Add, api.Sub) + "*" + bracketed(texts[n.B], x[n.B].Kind, api.Add, api.Sub, api.Mul, api.Div)
		case api.Div:
			texts[i] = bracketed(texts[n.A], x[n.A].Kind, api.Add, api.Sub) + "/" + bracketed(texts[n.B], x[n.B].Kind, api.Add, api.Sub, api.Mul, api.Div)
		case api.Neg:
			texts[i] = "-" + bracketed(texts[n.A], x[n.A].Kind, api.Add, api.Sub, api.Mul, api.Div)
		case api.Pow:
			texts[i] = bracketed(texts[n.A], x[n.A].Kind, api.Add, api.Sub, api.Mul, api.Div, api.Neg, api.Pow) + "^" + strconv.Itoa(n.N)
		}
	}
	return texts[len(x)-1]
}

// openOf tells how many brackets and signs of factors are open at once, at most, while the text of x[i] is read.
func openOf(x api.Tree, i int) int {
	child := func(c int, those ...int) int {
		if slices.Contains(those, x[c].Kind) {
			return 1 + openOf(x, c)
		}
		return openOf(x, c)
	}
	switch n := x[i]; n.Kind {
	case api.Add, api.Sub:
		return max(child(n.A), child(n.B, api.Add, api.Sub))
	case api.Mul, api.Div:
		return max(child(n.A, api.Add, api.Sub), child(n.B, api.Add, api.Sub, api.Mul, api.Div))
	case api.Neg:
		return 1 + child(n.A, api.Add, api.Sub, api.Mul, api.Div)
	case api.Pow:
		return child(n.A, api.Add, api.Sub, api.Mul, api.Div, api.Neg, api.Pow)
	}
	return 0
}

// lineOf tells the text of a declaration that may be, by the grammar: its parts with a blank between, of which those may be empty that may be left out.
func lineOf(d api.Decl) string {
	unit := ""
	if d.Unit != "" {
		unit = "[" + d.Unit + "]"
	}
	var parts []string
	switch d.Kind {
	case api.DUnit:
		parts = []string{"unit", d.Name, "=", d.Num, unit, ";"}
	case api.DSource:
		parts = []string{"source", d.Name, "=", d.Num, unit, ":", d.Var, ";"}
	case api.DCov:
		parts = []string{"cov", d.Name, d.Other, "=", d.Num, ";"}
	case api.DLet:
		parts = []string{"let", d.Name, "=", textOf(d.Tree), ";"}
	case api.DOutput:
		in := ""
		if unit != "" {
			in = "in"
		}
		parts = []string{"output", d.Name, "=", textOf(d.Tree), in, unit, ":", strconv.Itoa(d.Places), ";"}
	}
	return strings.Join(slices.DeleteFunc(parts, func(s string) bool { return s == "" }), " ") + "\n"
}

// linesOf tells the text of declarations that may be.
func linesOf(all api.Script) string {
	text := ""
	for _, d := range all {
		text += lineOf(d)
	}
	return text
}

// nameMayBe, numMayBe and unitMayBe tell whether a text may be one, by the document's words.
func nameMayBe(s string) bool {
	return names.MatchString(s) && len(s) <= api.MaxName && !slices.Contains(ownWords(), s)
}

func numMayBe(s string) bool {
	parts := nums.FindStringSubmatch(s)
	if parts == nil || parts[3] != "" && !literalMayBe(parts[4]) {
		return false
	}
	return literalMayBe(parts[1])
}

func literalMayBe(s string) bool {
	return literals.MatchString(s) && len(s) <= mostLiteral
}

func unitMayBe(s string) bool {
	return brackets.MatchString(s) && len(s) <= mostUnit
}

// mayBe tells whether a declaration may be, by the document's words.
func mayBe(d api.Decl) bool {
	noNum, noVar, noOther, noUnit, noTree, noPlaces := d.Num == "", d.Var == "", d.Other == "", d.Unit == "", len(d.Tree) == 0, d.Places == 0
	if !nameMayBe(d.Name) {
		return false
	}
	switch d.Kind {
	case api.DUnit:
		return numMayBe(d.Num) && unitMayBe(d.Unit) && !noUnit && noVar && noOther && noTree && noPlaces
	case api.DSource:
		return numMayBe(d.Num) && unitMayBe(d.Unit) && numMayBe(d.Var) && noOther && noTree && noPlaces
	case api.DCov:
		return nameMayBe(d.Other) && numMayBe(d.Num) && noVar && noUnit && noTree && noPlaces
	case api.DLet:
		return tree.Good(d.Tree) && noNum && noVar && noOther && noUnit && noPlaces
	case api.DOutput:
		return tree.Good(d.Tree) && unitMayBe(d.Unit) && d.Places >= 0 && d.Places <= 60 && noNum && noVar && noOther
	}
	return false
}

// unplaced tells a copy of declarations without any place in a text, so that such as are alike are equal.
func unplaced(all api.Script) api.Script {
	out := api.Script{}
	for _, d := range all {
		d.At = 0
		d.Tree = append(api.Tree{}, d.Tree...)
		for i := range d.Tree {
			d.Tree[i].At = 0
		}
		out = append(out, d)
	}
	return out
}

// alike tells whether declarations are alike in all but their places.
func alike(a, b api.Script) bool {
	return reflect.DeepEqual(unplaced(a), unplaced(b))
}

// mostShown is how many items of a list what fails tells at most, so that it can be read.
const mostShown = 8

// shownTree tells a tree's first nodes as text.
func shownTree(x api.Tree) string {
	text := ""
	for i, n := range x {
		if i == mostShown {
			text += fmt.Sprintf(" and %d more", len(x)-i)
			break
		}
		text += fmt.Sprintf(" {%d %d %d %d %.30q %.30q @%d}", n.Kind, n.A, n.B, n.N, n.Text, n.Unit, n.At)
	}
	return "[" + text + " ]"
}

// shown tells a script's first declarations as text.
func shown(all api.Script) string {
	text := ""
	for i, d := range all {
		if i == mostShown {
			text += fmt.Sprintf(" and %d more", len(all)-i)
			break
		}
		text += fmt.Sprintf(" {%d %.30q %.30q %.30q %.30q %.30q %s %d @%d}", d.Kind, d.Name, d.Other, d.Num, d.Var, d.Unit, shownTree(d.Tree), d.Places, d.At)
	}
	return "[" + text + " ]"
}

// wantFormula asks for this text of x, and for true.
func wantFormula(t *testing.T, x api.Tree, want string) {
	t.Helper()
	if got, ok := write.Formula(x); !ok || got != want {
		t.Errorf("Formula(%s) = %.250q, %v, of %d bytes, want %.250q, of %d", shownTree(x), got, ok, len(got), want, len(want))
	}
}

// wantNoFormula asks for false, and no text beside it.
func wantNoFormula(t *testing.T, x api.Tree) {
	t.Helper()
	if got, ok := write.Formula(x); ok || got != "" {
		t.Errorf("Formula(%s) = %.250q, %v, want none", shownTree(x), got, ok)
	}
}

// wantScript asks for this text of declarations, and no error.
func wantScript(t *testing.T, all api.Script, want string) {
	t.Helper()
	if got, e := write.Script(all); e != api.OK || got != want {
		t.Errorf("Script(%s) = %.250q, %d, of %d bytes, want %.250q, of %d", shown(all), got, e, len(got), want, len(want))
	}
}

// wantError asks for an error, and no text beside it.
func wantError(t *testing.T, all api.Script, want api.Errno) {
	t.Helper()
	if got, e := write.Script(all); e != want || got != "" {
		t.Errorf("Script(%s) = %.250q, %d, want error %d alone", shown(all), got, e, want)
	}
}

// wantGood asks whether d may be, and whether a script has it then.
func wantGood(t *testing.T, d api.Decl, want bool) {
	t.Helper()
	if got := write.Good(d); got != want {
		t.Errorf("Good(%s) = %v", shown(api.Script{d}), got)
	}
	if !want {
		wantError(t, api.Script{d}, api.ErrArg)
	}
}

// wantSame asks whether a and b are alike, either way round.
func wantSame(t *testing.T, a, b api.Script, want bool) {
	t.Helper()
	if got, back := write.Same(a, b), write.Same(b, a); got != want || back != want {
		t.Errorf("Same(%s, %s) = %v, and the other way round %v", shown(a), shown(b), got, back)
	}
}

// keptTree tells a copy of a formula, its texts too.
func keptTree(x api.Tree) api.Tree {
	out := slices.Clone(x)
	for i := range out {
		out[i].Text, out[i].Unit = strings.Clone(out[i].Text), strings.Clone(out[i].Unit)
	}
	return out
}

// kept tells a copy of a script, its texts and formulas too.
func kept(all api.Script) api.Script {
	out := slices.Clone(all)
	for i, d := range out {
		d.Name, d.Other, d.Num, d.Var, d.Unit = strings.Clone(d.Name), strings.Clone(d.Other), strings.Clone(d.Num), strings.Clone(d.Var), strings.Clone(d.Unit)
		d.Tree = keptTree(d.Tree)
		out[i] = d
	}
	return out
}

// changed tells a copy of a declaration that f has changed.
func changed(d api.Decl, f func(d *api.Decl)) api.Decl {
	out := kept(api.Script{d})[0]
	f(&out)
	return out
}

// above tells the nodes of root's children behind one another, moved to where they stand, and root.
func above(root api.Node, children ...api.Tree) api.Tree {
	var out api.Tree
	for _, c := range children {
		by := len(out)
		for _, n := range c {
			if n.Kind >= api.Add && n.Kind <= api.Div {
				n.A, n.B = n.A+by, n.B+by
			} else if n.Kind == api.Neg || n.Kind == api.Pow {
				n.A += by
			}
			out = append(out, n)
		}
		root.A, root.B = root.B, len(out)-1
	}
	if len(children) == 1 {
		root.A, root.B = root.B, 0
	}
	return append(out, root)
}

// negs tells a chain of as many nodes: a name, and a Neg on a Neg.
func negs(nodes int) api.Tree {
	x := api.Tree{ref("x")}
	for i := range nodes - 1 {
		x = append(x, neg(i))
	}
	return x
}

// pows tells a chain of as many nodes: a name, and a Pow on a Pow.
func pows(nodes int) api.Tree {
	x := api.Tree{ref("x")}
	for i := range nodes - 1 {
		x = append(x, pow(i, 2))
	}
	return x
}

// leftChain tells joins of so many leaves, each behind what joins those ahead.
func leftChain(kind, leaves int, leaf api.Node) api.Tree {
	x := api.Tree{leaf}
	for range leaves - 1 {
		x = append(x, leaf, join(kind, len(x)-1, len(x)))
	}
	return x
}

// rightChain tells joins of so many leaves, each ahead of what joins those behind.
func rightChain(kind, leaves int, leaf api.Node) api.Tree {
	var x api.Tree
	for range leaves {
		x = append(x, leaf)
	}
	for i := range leaves - 1 {
		x = append(x, join(kind, leaves-2-i, len(x)-1))
	}
	return x
}

// wild tells trees of all kinds that may not be.
func wild() []api.Tree {
	return []api.Tree{
		nil, {}, {{}}, {{Kind: -1}}, {{Kind: 9}}, {{Kind: math.MaxInt}}, {neg(0)}, {neg(-1)}, {pow(0, 2)}, {join(api.Add, 0, 0)}, {{At: 1}}, {{Kind: 0, Text: "x"}},
		{lit("", "")}, {lit("x", "")}, {lit("-1", "")}, {lit("1", "]")}, {lit("1", "\n")}, {lit("1", strings.Repeat("u", mostUnit+1))}, {lit(strings.Repeat("1", mostLiteral+1), "")}, {ref("")}, {ref("let")}, {ref("1")}, {ref(seventeen)},
		{ref("x"), ref("y")}, {ref("x"), neg(1)}, {ref("x"), neg(math.MaxInt)}, {ref("x"), neg(math.MinInt)}, {ref("x"), pow(0, 65)}, {ref("x"), pow(0, -65)}, {ref("x"), ref("y"), join(api.Add, 1, 0)}, {neg(1), neg(0)}, {join(api.Mul, 1, 1), neg(0)},
		{ref("x"), ref("y"), join(api.Add, 1, 1)}, {ref("x"), {}}, {{}, neg(0)}, {ref("x"), ref("y"), neg(0)}, {ref("x"), ref("y"), neg(1)}, negs(api.MaxNodes + 1), negs(100000), leftChain(api.Mul, 1001, ref("x")), make(api.Tree, 100000),
	}
}

// shapes tells declarations that may be, of all kinds, with and without what may be left out.
func shapes() api.Script {
	x := api.Tree{ref("x"), ref("y"), join(api.Sub, 0, 1), lit("2", "m"), join(api.Mul, 2, 3)}
	return api.Script{
		{Kind: api.DUnit, Name: "nmi", Num: "1852", Unit: "m"},
		{Kind: api.DUnit, Name: sixteen, Num: "-1.5e-3/007", Unit: " kg / s ", At: 1},
		{Kind: api.DSource, Name: "x", Num: "1", Var: "2"},
		{Kind: api.DSource, Name: "_", Num: "-2/3", Var: "-1/9", At: -5},
		{Kind: api.DSource, Name: "x", Num: "0", Var: "0", Unit: "#[m", At: 9},
		{Kind: api.DCov, Name: "x", Other: "y", Num: "1"},
		{Kind: api.DCov, Name: "x", Other: "x", Num: "-0.50/1e9", At: math.MaxInt},
		{Kind: api.DLet, Name: "v", Tree: api.Tree{ref("x")}},
		{Kind: api.DLet, Name: "v", Tree: x, At: math.MinInt},
		{Kind: api.DOutput, Name: "y", Tree: api.Tree{lit("1", "")}},
		{Kind: api.DOutput, Name: "y", Tree: x, Places: 60, At: 4},
		{Kind: api.DOutput, Name: "y", Tree: x, Unit: "m", Places: 1},
		{Kind: api.DOutput, Name: "y", Tree: negs(3), Unit: "in"},
	}
}

// randomLeaf tells a literal or a name.
func randomLeaf(r *rand.Rand) api.Node {
	if r.Intn(2) == 0 {
		return ref([]string{"x", "y", "_z9"}[r.Intn(3)])
	}
	return lit([]string{"1", "2.50", "3e-4"}[r.Intn(3)], []string{"", "m", "kg/s"}[r.Intn(3)])
}

// randomTree tells a tree of at most so many nodes, each with a place.
func randomTree(r *rand.Rand, most int) api.Tree {
	var x api.Tree
	switch pick := r.Intn(6); {
	case most > 2 && pick > 1:
		first := randomTree(r, most-2)
		x = above(join(joins()[r.Intn(4)], 0, 0), first, randomTree(r, most-1-len(first)))
	case most > 1 && pick == 1:
		x = above(neg(0), randomTree(r, most-1))
	case most > 1 && pick == 0:
		x = above(pow(0, r.Intn(129)-64), randomTree(r, most-1))
	default:
		x = api.Tree{randomLeaf(r)}
	}
	x[len(x)-1].At = r.Intn(4000)
	return x
}

// randomDecl tells a declaration that may be, with a formula of at most so many nodes, if it has one.
func randomDecl(r *rand.Rand, most int) api.Decl {
	num := func() string {
		return []string{"", "-"}[r.Intn(2)] + []string{"0", "12.50", "1e-4"}[r.Intn(3)] + []string{"", "/0", "/3.5e12"}[r.Intn(3)]
	}
	unit := []string{"", "", "m", "kg / s^2", "in"}[r.Intn(5)]
	d := api.Decl{Kind: 1 + r.Intn(5), Name: []string{"x", "y", "_z9", sixteen}[r.Intn(4)], At: r.Intn(9999) - 5000}
	switch d.Kind {
	case api.DUnit:
		d.Num, d.Unit = num(), unit+"m"
	case api.DSource:
		d.Num, d.Var, d.Unit = num(), num(), unit
	case api.DCov:
		d.Other, d.Num = []string{"x", "y", "_z9"}[r.Intn(3)], num()
	case api.DLet:
		d.Tree = randomTree(r, most)
	case api.DOutput:
		d.Tree, d.Unit, d.Places = randomTree(r, most), unit, r.Intn(61)
	}
	return d
}
