package parse_test

import (
	"fmt"
	"math/rand"
	"strings"
	"testing"

	"steelyard/api"
	"steelyard/lex"
	"steelyard/parse"
)

// grammar is the document's, with what may be left out, or comes more than one time, as rules of their own.
const grammar = `
script: | script unit | script source | script cov | script let | script output
unit: "unit" NAME "=" num UNITS ";"
source: "source" NAME "=" num units ":" num ";"
cov: "cov" NAME NAME "=" num ";"
let: "let" NAME "=" formula ";"
output: "output" NAME "=" formula in ":" PLACES ";"
units: | UNITS
in: | "in" UNITS
minus: | "-"
num: minus NUMBER | minus NUMBER "/" NUMBER
formula: term | formula "+" term | formula "-" term
term: factor | term "*" factor | term "/" factor
factor: "-" factor | atom | atom "^" minus EXPONENT
atom: NUMBER units | NAME | "(" formula ")"
`

// rules are a grammar's: of each name, the parts that may stand for it.
type rules map[string][][]string

// written tells the rules of the grammar.
func written() rules {
	all := rules{}
	for _, line := range strings.Split(strings.TrimSpace(grammar), "\n") {
		name, forms, _ := strings.Cut(line, ":")
		for _, form := range strings.Split(forms, "|") {
			all[name] = append(all[name], strings.Fields(form))
		}
	}
	return all
}

// state is a rule that was begun at a token, with as many of its parts behind.
type state struct {
	name              string
	form, part, begun int
}

// stands tells how many of the tokens can stand as name's beginning, and whether those may be all of it, with all ways through the rules tried at once.
func (all rules) stands(name string, tokens []api.Token) (int, bool) {
	var sets []map[state]bool
	now := map[state]bool{}
	for form := range all[name] {
		now[state{name: name, form: form}] = true
	}
	for i := 0; ; i++ {
		sets = append(sets, now)
		all.spread(sets)
		next := map[state]bool{}
		whole := false
		for s := range now {
			parts := all[s.name][s.form]
			if s.part == len(parts) {
				whole = whole || s.name == name && s.begun == 0
			} else if i < len(tokens) && all[parts[s.part]] == nil && isOf(tokens[i], parts[s.part]) {
				s.part++
				next[s] = true
			}
		}
		if len(next) == 0 {
			return i, whole
		}
		now = next
	}
}

// spread adds to the last set what its states begin and what they end.
func (all rules) spread(sets []map[state]bool) {
	at := len(sets) - 1
	for size := -1; size < len(sets[at]); {
		size = len(sets[at])
		var more []state
		for s := range sets[at] {
			parts := all[s.name][s.form]
			if s.part < len(parts) {
				for form := range all[parts[s.part]] {
					more = append(more, state{name: parts[s.part], form: form, begun: at})
				}
				continue
			}
			for o := range sets[s.begun] {
				if parts := all[o.name][o.form]; o.part < len(parts) && parts[o.part] == s.name {
					o.part++
					more = append(more, o)
				}
			}
		}
		for _, s := range more {
			sets[at][s] = true
		}
	}
}

// checkGrammar asks whether what is told of s, but for its limits, is what the grammar has.
func checkGrammar(t *testing.T, all rules, name, s string) {
	t.Helper()
	tokens, _ := lex.Tokens(s)
	n, whole := all.stands(name, tokens)
	at := len(s)
	if n < len(tokens) {
		at = tokens[n].At
	}
	var f api.Fault
	if name == "script" {
		_, f = parse.Script(s, most())
	} else {
		_, f = parse.Formula(s, most())
	}
	if f.E == api.ErrLimit && f.At < at {
		return
	}
	if want := (api.Fault{E: api.ErrSyntax, At: at}); whole && n == len(tokens) && f != (api.Fault{}) || !(whole && n == len(tokens)) && f != want {
		t.Errorf("%q as a %s tells %v, but %d tokens can stand, and be all: %v", s, name, f, n, whole)
	}
}

// vocabulary are tokens of all kinds, as they stand in texts.
func vocabulary() []string {
	return []string{"unit", "source", "cov", "let", "output", "in", "x", "_1", "2", "65", "123", "1234", "1.5", "2e3", "[m]", "[let]", "[2]", "[(]", "(", ")", "+", "-", "*", "/", "^", "=", ";", ":"}
}

// split tells the tokens of s as they stand in it.
func split(t *testing.T, s string) []string {
	t.Helper()
	tokens, f := lex.Tokens(s)
	if f != (api.Fault{}) {
		t.Fatalf("%q: %v", s, f)
	}
	var all []string
	for _, k := range tokens {
		text := k.Text
		if k.Kind == api.Units {
			text = "[" + text + "]"
		}
		all = append(all, text)
	}
	return all
}

// Each declaration ends too early behind each of its tokens but the last one.
func TestCutDeclarations(t *testing.T) {
	for _, ahead := range []string{"", "let a=1; "} {
		for _, s := range declarations() {
			parts := split(t, s)
			for i := 1; i < len(parts); i++ {
				for _, end := range []string{"", " ", "\n# ;", " #;\n"} {
					text := ahead + strings.Join(parts[:i], " ") + end
					wantFault(t, text, most(), api.ErrSyntax, len(text))
				}
			}
			check(t, ahead+strings.Join(parts, " "), most())
		}
	}
}

// With each token of a declaration, or of a formula, left out, doubled, or changed for each other one, the fault is where the grammar has it.
func TestChangedTokens(t *testing.T) {
	all := written()
	changed := func(name string, texts []string) {
		for _, s := range texts {
			parts := split(t, s)
			for i := range parts {
				texts := []string{strings.Join(append(append([]string{}, parts[:i]...), parts[i+1:]...), " ")}
				for _, v := range vocabulary() {
					with := append([]string{}, parts...)
					with[i] = v
					ahead := append(append(append([]string{}, parts[:i]...), v), parts[i:]...)
					texts = append(texts, strings.Join(with, " "), strings.Join(ahead, " "))
				}
				for _, text := range texts {
					checkGrammar(t, all, name, text)
					check(t, text, most())
				}
			}
		}
	}
	changed("script", declarations())
	changed("formula", formulas())
}

// Every row of up to five tokens of a formula's, and the first ones of scripts.
func TestEveryShortText(t *testing.T) {
	all := written()
	var row func(name string, words []string, ahead string, left int, grammar bool)
	row = func(name string, words []string, ahead string, left int, grammar bool) {
		if name == "script" {
			check(t, ahead, most())
		} else {
			checkFormula(t, ahead, most())
		}
		if grammar {
			checkGrammar(t, all, name, ahead)
		}
		if left == 0 {
			return
		}
		for _, w := range words {
			row(name, words, ahead+w+" ", left-1, grammar)
		}
	}
	row("formula", []string{"x", "2", "[m]", "(", ")", "+", "-", "*", "^"}, "", 5, false)
	row("formula", []string{"x", "2", "[m]", "(", ")", "-", "/", "^", "in", "="}, "", 3, true)
	row("script", vocabulary(), "", 2, true)
	row("script", []string{"2", "-", "/", "[m]", ":", ";", "x"}, "source x = ", 5, false)
	row("script", []string{"2", "-", "/", "[m]", ":", ";"}, "unit u = ", 4, false)
	row("script", []string{"2", "-", "/", ";", "x", "="}, "cov x ", 5, false)
	row("script", []string{"x", "in", "[m]", ":", "61", "2", ";"}, "output y = ", 5, false)
}

// random is a text that is made by the grammar, with the nodes that stand for it.
type random struct {
	*rand.Rand
	text  strings.Builder
	nodes api.Tree
}

// gap writes blanks and notes, or nothing.
func (r *random) gap() {
	r.text.WriteString([]string{"", "", "", " ", "\n", "\t ", "# ) ?\n", " #\n "}[r.Intn(8)])
}

// token writes a token behind a gap, and tells where it stands.
func (r *random) token(s string) int {
	r.gap()
	at := r.text.Len()
	r.text.WriteString(s)
	return at
}

// add adds a node, and tells its place.
func (r *random) add(n api.Node) int {
	r.nodes = append(r.nodes, n)
	return len(r.nodes) - 1
}

// formula writes a formula of no more than so much depth, and tells its root's place; so do those of its parts.
func (r *random) formula(deep int) int {
	return r.row(deep, r.term, []string{"+", "-"}, []int{api.Add, api.Sub})
}

func (r *random) term(deep int) int {
	return r.row(deep, r.factor, []string{"*", "/"}, []int{api.Mul, api.Div})
}

func (r *random) row(deep int, part func(int) int, signs []string, kinds []int) int {
	first := part(deep)
	for r.Intn(3) == 0 {
		which := r.Intn(2)
		at := r.token(signs[which])
		second := part(deep)
		first = r.add(join(kinds[which], first, second, at))
	}
	return first
}

func (r *random) factor(deep int) int {
	if deep > 0 && r.Intn(4) == 0 {
		at := r.token("-")
		return r.add(neg(r.factor(deep-1), at))
	}
	base := r.atom(deep)
	if r.Intn(3) > 0 {
		return base
	}
	at := r.token("^")
	n := r.Intn(65)
	digits := fmt.Sprintf("%0*d", r.Intn(4), n)
	if r.Intn(3) == 0 {
		r.token("-")
		n = -n
	}
	r.token(digits)
	return r.add(pow(base, n, at))
}

func (r *random) atom(deep int) int {
	if deep > 0 && r.Intn(3) == 0 {
		r.token("(")
		root := r.formula(deep - 1)
		r.token(")")
		return root
	}
	if r.Intn(2) == 0 {
		name := []string{"x", "_y", "let_", "In"}[r.Intn(4)]
		at := r.token(name)
		return r.add(ref(name, at))
	}
	number := []string{"1", "2.50", "3e-4", "007"}[r.Intn(4)]
	unit := []string{"", "", "m", "kg m / s^2", "("}[r.Intn(5)]
	at := r.token(number)
	if unit != "" {
		r.token("[" + unit + "]")
	}
	return r.add(lit(number, unit, at))
}

// made tells a random formula, its text and its nodes.
func made(seed *rand.Rand, deep int) (string, api.Tree) {
	r := &random{Rand: seed}
	r.formula(deep)
	r.gap()
	return r.text.String(), r.nodes
}

// A text that is made along with its nodes is read as these, and so is the formula of a script.
func TestRandomFormulas(t *testing.T) {
	seed := rand.New(rand.NewSource(1))
	for range 20000 {
		s, x := made(seed, 1+seed.Intn(6))
		if len(s) > 1000 {
			continue
		}
		wantTree(t, s, most(), x...)
		wantScript(t, "let v=1;let w="+s+";", most(),
			api.Decl{Kind: api.DLet, Name: "v", Tree: api.Tree{lit("1", "", 6)}, At: 4},
			api.Decl{Kind: api.DLet, Name: "w", Tree: moved(x, 14), At: 12})
		l := api.Limits{Text: 1000, Deep: seed.Intn(5), Nodes: seed.Intn(len(x) + 2), Power: seed.Intn(70)}
		check(t, s, l)
		check(t, "let v=1;let w="+s+";", l)
	}
}

// Random rows of tokens, most of which soon can't stand.
func TestRandomTokens(t *testing.T) {
	seed := rand.New(rand.NewSource(2))
	all, words := written(), vocabulary()
	for i := range 40000 {
		s := []string{"", "let v = ", "output y = ", "source x = ", "let a = 1 ; let v = - ( x ) "}[seed.Intn(5)]
		few := words[6:]
		if seed.Intn(4) == 0 {
			few = words
		}
		for range seed.Intn(12) {
			s += few[seed.Intn(len(few))] + []string{" ", " ", "\n", " # ;\n"}[seed.Intn(4)]
		}
		check(t, s, most())
		check(t, s, api.Limits{Text: 4000, Deep: seed.Intn(3), Nodes: seed.Intn(5), Power: seed.Intn(70)})
		if i%20 == 0 {
			checkGrammar(t, all, "script", s)
			checkGrammar(t, all, "formula", s)
		}
	}
}

// Random bytes, most of which lex has none for.
func TestRandomBytes(t *testing.T) {
	seed := rand.New(rand.NewSource(3))
	bytes := "()+-*/^=;:xin12.e[]# \n_"
	for range 40000 {
		s := []string{"", "let v=", "output y=x", "unit u=1"}[seed.Intn(4)]
		for range seed.Intn(10) {
			s += bytes[seed.Intn(len(bytes)):][:1]
		}
		check(t, s, most())
		check(t, s+";", most())
		check(t, s, api.Limits{Text: seed.Intn(20), Deep: 1, Nodes: 3, Power: 5})
	}
}
