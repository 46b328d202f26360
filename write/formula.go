package write

import (
	"strconv"
	"strings"

	"steelyard/api"
)

// How firmly a node's text holds together: one that is read alone, a sign ahead or an exponent behind, a product, a sum.
const (
	sum = 1 + iota
	product
	signed
	alone
)

// bond is how firm a kind's own text is, how firm those of its children must be to stand without brackets, and the sign between two of them.
type bond struct {
	own, first, second int
	sign               string
}

// bonds is the bond of each kind of nodes.
var bonds = [...]bond{
	api.Lit: {own: alone},
	api.Ref: {own: alone},
	api.Add: {own: sum, first: sum, second: product, sign: " + "},
	api.Sub: {own: sum, first: sum, second: product, sign: " - "},
	api.Mul: {own: product, first: product, second: signed, sign: "*"},
	api.Div: {own: product, first: product, second: signed, sign: "/"},
	api.Neg: {own: signed, first: signed},
	api.Pow: {own: signed, first: alone},
}

// writer puts the texts of a formula's nodes behind one another.
type writer struct {
	nodes api.Tree
	text  strings.Builder
}

// formula tells the text of a formula that may be.
func formula(t api.Tree) string {
	w := writer{nodes: t}
	w.node(len(t) - 1)
	return w.text.String()
}

// node writes what stands beneath the node at i, and itself.
func (w *writer) node(i int) {
	n := w.nodes[i]
	b := bonds[n.Kind]
	switch n.Kind {
	case api.Lit:
		w.put(n.Text)
		if n.Unit != "" {
			w.put(" " + inBrackets(n.Unit))
		}
	case api.Ref:
		w.put(n.Text)
	case api.Neg:
		w.put("-")
		w.child(n.A, b.first)
	case api.Pow:
		w.child(n.A, b.first)
		w.put("^" + strconv.Itoa(n.N))
	default:
		w.child(n.A, b.first)
		w.put(b.sign)
		w.child(n.B, b.second)
	}
}

// child writes what stands beneath the node at i, and itself, in brackets, unless it is as firm as is asked for.
func (w *writer) child(i, firm int) {
	if bonds[w.nodes[i].Kind].own >= firm {
		w.node(i)
		return
	}
	w.put("(")
	w.node(i)
	w.put(")")
}

// put writes s.
func (w *writer) put(s string) {
	w.text.WriteString(s)
}

// inBrackets tells a unit as it stands in a text.
func inBrackets(unit string) string {
	return "[" + unit + "]"
}
