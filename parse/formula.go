package parse

import "steelyard/api"

// mostPowerDigits is how many digits an exponent has at most.
const mostPowerDigits = 3

// tree reads a formula, and tells it.
func (r *reader) tree() api.Tree {
	r.nodes = nil
	r.formula()
	return r.nodes
}

// formula reads a formula: its root is the last node then, as a part's root is behind that part.
func (r *reader) formula() {
	r.term()
	for r.sees("+") || r.sees("-") {
		r.join(r.term)
	}
}

// term reads a term.
func (r *reader) term() {
	r.factor()
	for r.sees("*") || r.sees("/") {
		r.join(r.factor)
	}
}

// join reads a sign and a part, and joins the part with all that was read ahead of the sign.
func (r *reader) join(part func()) {
	first := r.last()
	sign := r.read()
	part()
	r.node(api.Node{Kind: joinKind(sign.Text), A: first, B: r.last(), At: sign.At})
}

// factor reads a factor.
func (r *reader) factor() {
	if r.sees("-") {
		at := r.open().At
		r.factor()
		r.opened--
		r.node(api.Node{Kind: api.Neg, A: r.last(), At: at})
		return
	}
	r.atom()
	if r.sees("^") {
		r.power()
	}
}

// power reads an exponent, with the "^" ahead of it, behind what it is the exponent of.
func (r *reader) power() {
	n := api.Node{Kind: api.Pow, A: r.last(), At: r.read().At}
	by := 1
	if r.sees("-") {
		r.read()
		by = -1
	}
	n.N = by * r.small(mostPowerDigits, r.most.Power)
	r.node(n)
}

// atom reads an atom.
func (r *reader) atom() {
	t := r.peek()
	switch {
	case t.Kind == api.Number:
		r.read()
		r.node(api.Node{Kind: api.Lit, Text: t.Text, Unit: r.units(), At: t.At})
	case r.sees("("):
		r.open()
		r.formula()
		r.sign(")")
		r.opened--
	default:
		r.node(api.Node{Kind: api.Ref, Text: r.name(), At: t.At})
	}
}

// open reads a "(" or "-" within which what comes is deeper.
func (r *reader) open() api.Token {
	if r.opened == r.most.Deep {
		r.fail(api.ErrLimit, r.peek().At)
	}
	r.opened++
	return r.read()
}

// node puts n behind the formula's nodes.
func (r *reader) node(n api.Node) {
	if r.made == r.most.Nodes {
		r.fail(api.ErrLimit, n.At)
	}
	r.made++
	r.nodes = append(r.nodes, n)
}

// last tells the place of the node that was made last.
func (r *reader) last() int {
	return len(r.nodes) - 1
}

// joinKind tells the kind of the nodes that a sign between two parts stands for.
func joinKind(sign string) int {
	switch sign {
	case "+":
		return api.Add
	case "-":
		return api.Sub
	case "*":
		return api.Mul
	}
	return api.Div
}
