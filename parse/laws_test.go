package parse_test

import (
	"slices"
	"strings"
	"testing"

	"steelyard/api"
	"steelyard/parse"
	"steelyard/tree"
)

// parsed tells the formula of a text that has no fault.
func parsed(t *testing.T, s string) api.Tree {
	t.Helper()
	x, f := parse.Formula(s, most())
	if f != (api.Fault{}) {
		t.Fatalf("Formula(%.250q) = %v", s, f)
	}
	return x
}

// script tells the declarations of a text that has no fault.
func script(t *testing.T, s string) api.Script {
	t.Helper()
	all, f := parse.Script(s, most())
	if f != (api.Fault{}) {
		t.Fatalf("Script(%.250q) = %v", s, f)
	}
	return all
}

// placeless tells declarations without their places.
func placeless(all api.Script) []api.Decl {
	out := slices.Clone(all)
	for i := range out {
		out[i].At = 0
		out[i].Tree = slices.Clone(out[i].Tree)
		for j := range out[i].Tree {
			out[i].Tree[j].At = 0
		}
	}
	return out
}

// Of what is parsed each formula may be, and no other declaration has one.
func TestWhatIsParsedMayBe(t *testing.T) {
	for _, s := range formulas() {
		if x := parsed(t, s); !tree.Good(x) {
			t.Errorf("Good of Formula(%q), %s, = false", s, shownTree(x))
		}
		for _, d := range script(t, "let v="+s+"\n;output y="+s+"\n:1;output z="+s+"\nin[m]:1;") {
			if !tree.Good(d.Tree) {
				t.Errorf("Good of Script(%q), %s, = false", s, shownTree(d.Tree))
			}
		}
	}
	for _, s := range declarations() {
		d := script(t, s)[0]
		if formula := d.Kind == api.DLet || d.Kind == api.DOutput; tree.Good(d.Tree) != formula || (len(d.Tree) > 0) != formula {
			t.Errorf("Script(%q): %s", s, shownTree(d.Tree))
		}
	}
}

// Formulas are what layer 14 makes of their parts.
func TestFormulasAreTrees(t *testing.T) {
	same := func(s string, want api.Tree, ok bool) {
		t.Helper()
		if x := parsed(t, s); !ok || !tree.Same(x, want) {
			t.Errorf("Formula(%q) = %s, want %s, %v", s, shownTree(x), shownTree(want), ok)
		}
	}
	one := func(x api.Tree, ok bool) (api.Tree, bool) { return x, ok }
	signs := map[string]int{"+": api.Add, "-": api.Sub, "*": api.Mul, "/": api.Div}
	for _, a := range formulas() {
		x := parsed(t, a)
		same("("+a+")", x, true)
		want, ok := one(tree.Neg(x))
		same("-("+a+")", want, ok)
		want, ok = one(tree.Pow(x, -3))
		same("("+a+")^-3", want, ok)
		for _, b := range formulas() {
			for sign, kind := range signs {
				want, ok = one(tree.Join(kind, x, parsed(t, b)))
				same("("+a+")"+sign+"("+b+")", want, ok)
			}
		}
	}
}

// A formula alone is the one of a let and of an output, and its faults are theirs, but for where they stand.
func TestFormulaIsALets(t *testing.T) {
	limits := []api.Limits{most(), {Text: 100, Deep: 2, Nodes: 5, Power: 2}, {Text: 100, Deep: 1, Nodes: 100, Power: 100}}
	texts := append(formulas(), "", "(", "x)", "x y", "2x", "?", "x^", "x^65", "x^1000", "((((x))))", "+", "a*", "[m]", "-", "a=b", "let", "in")
	for _, s := range texts {
		for _, l := range limits {
			x, f := parse.Formula(s, l)
			for _, around := range [][2]string{{"let v=", ";"}, {"output y= ", " in [m]:1;"}, {"# note\n output y=", ":1;"}, {"let v=", " ;"}} {
				all, g := parse.Script(around[0]+s+around[1], l)
				by := len(around[0])
				switch {
				case f == api.Fault{}:
					if g != f || len(all) != 1 || !slices.Equal(all[0].Tree, moved(x, by)) {
						t.Errorf("Formula(%q) = %s, and within %q %s, %v", s, shownTree(x), around, shownScript(all), g)
					}
				case f.At < len(s):
					if g != (api.Fault{E: f.E, At: f.At + by}) || len(all) != 0 {
						t.Errorf("Formula(%q) = %v, and within %q %v", s, f, around, g)
					}
				default:
					end := by + len(s) + len(around[1]) - len(strings.TrimLeft(around[1], " "))
					if g != (api.Fault{E: f.E, At: end}) || len(all) != 0 {
						t.Errorf("Formula(%q) = %v, and within %q %v", s, f, around, g)
					}
				}
			}
		}
	}
}

// Blanks and notes between tokens change nothing but places.
func TestGapsChangeNothing(t *testing.T) {
	for _, s := range append(declarations(), strings.Join(declarations(), "")) {
		want := placeless(script(t, s))
		parts := split(t, s)
		for _, gap := range []string{" ", "\n", "\t", " \n\t ", "#\n", " # ; ) ? let\n", "##\n#\n"} {
			text := gap + strings.Join(parts, gap) + gap
			if len(text) > api.MaxText {
				continue
			}
			got := script(t, text)
			if !slices.EqualFunc(placeless(got), want, sameDecl) {
				t.Errorf("%q: %s, want %s", text, shownScript(got), shownScript(want))
			}
			for _, d := range got {
				standsThere(t, text, d)
			}
		}
	}
}

// standsThere asks whether a declaration's name stands in s where it is told to stand, and so each of its nodes.
func standsThere(t *testing.T, s string, d api.Decl) {
	t.Helper()
	if !strings.HasPrefix(s[d.At:], d.Name) {
		t.Errorf("%q: %s does not stand at %d", s, d.Name, d.At)
	}
	for _, n := range d.Tree {
		word := n.Text
		if word == "" {
			word = []string{api.Add: "+", api.Sub: "-", api.Mul: "*", api.Div: "/", api.Neg: "-", api.Pow: "^"}[n.Kind]
		}
		if !strings.HasPrefix(s[n.At:], word) {
			t.Errorf("%q: %s does not stand at %d", s, word, n.At)
		}
	}
}

// Scripts behind one another are the declarations of each, and what the second one has is further on.
func TestScriptsBehindOneAnother(t *testing.T) {
	for _, a := range declarations() {
		for _, b := range declarations() {
			first, second := script(t, a), script(t, b)
			for i := range second {
				second[i].At += len(a)
				second[i].Tree = moved(second[i].Tree, len(a))
			}
			wantScript(t, a+b, most(), append(first, second...)...)
		}
	}
}

// With greater limits what was no fault is none still, and tells the same.
func TestGreaterLimits(t *testing.T) {
	for _, s := range append(declarations(), strings.Join(declarations(), "")) {
		want := script(t, s)
		found := false
		for n := range 40 {
			got, f := parse.Script(s, api.Limits{Text: len(s), Deep: n, Nodes: n, Power: n})
			if f != (api.Fault{}) && found {
				t.Errorf("%q with %d tells %v, but none with less", s, n, f)
			}
			if f == (api.Fault{}) {
				found = true
				if !slices.EqualFunc(got, want, sameDecl) {
					t.Errorf("%q with %d tells %s, want %s", s, n, shownScript(got), shownScript(want))
				}
			}
		}
		if !found {
			t.Errorf("%q tells a fault with every limit tried", s)
		}
	}
}

// Every call ends, whatever stands in a text as long as may be.
func TestLongTexts(t *testing.T) {
	pieces := []string{
		"(", ")", "-", "+", "*", "/", "^", "=", ";", ":", "x", "1", "[m]", "x ", "1 ", "()", "(-", "-(", "(x)", "-x", "x+", "x*", "x-", "x/", "x^1*", "x^2+", "1[m]+", "-x-", "(x)+", "x--", "((x)-", "x^-64/",
		"let a=1;", "let ", "let a=", "let a=(", "let a=-", "cov ", "cov x y=1;", "output y=x:1;", "output y=", "source x=1:1;", "unit u=1[m];", "in ", "#", "# x\n", " ", "\n", "?", "[", "2x", "1e9", "7", "a.b", "\xff", "\x00", "é",
	}
	begins := []string{"", "let v=", "let v=x+", "output y=1 in[m]:1;let w=-"}
	for _, p := range pieces {
		for _, begin := range begins {
			for _, size := range []int{api.MaxText, api.MaxText + 1, 20000} {
				s := (begin + strings.Repeat(p, size))[:size]
				check(t, s, most())
				check(t, s, api.Limits{Text: size, Deep: 1, Nodes: 1000, Power: 1})
			}
			s := begin + strings.Repeat(p, (api.MaxText-len(begin)-2)/len(p)) + "x;"
			check(t, s, most())
		}
	}
	check(t, strings.Repeat("x", 1<<24), most())
}
