package names

import (
	"slices"

	"steelyard/api"
)

// book has, by name, the number of the first declaration of that name: in another declaration a name stands for something, if that first one stands ahead of it.
type book struct {
	units   map[string]int
	sources map[string]int
	values  map[string]int // of sources and lets: what formulas may name
	taken   map[string]int // of sources, lets and outputs: no two of them may have one name
	covs    map[[2]string]int
}

// newBook tells the book of l.
func newBook(l api.Script) book {
	return book{
		units:   firsts(l, api.DUnit),
		sources: firsts(l, api.DSource),
		values:  valuesOf(l),
		taken:   firsts(l, api.DSource, api.DLet, api.DOutput),
		covs:    firstCovs(l),
	}
}

// valuesOf tells, by name, the number of the first source or let of l that has it.
func valuesOf(l api.Script) map[string]int {
	return firsts(l, api.DSource, api.DLet)
}

// firsts tells, by name, the number of the first declaration that has it, of those that are of these kinds.
func firsts(l api.Script, kinds ...int) map[string]int {
	first := make(map[string]int)
	for i, d := range l {
		if slices.Contains(kinds, d.Kind) {
			putFirst(first, d.Name, i)
		}
	}
	return first
}

// firstCovs tells, by both names, the number of the first cov that has them, in whatever order.
func firstCovs(l api.Script) map[[2]string]int {
	first := make(map[[2]string]int)
	for i, d := range l {
		if d.Kind == api.DCov {
			putFirst(first, pairOf(d), i)
		}
	}
	return first
}

// putFirst puts down the number i by key, unless one was put down ahead of it.
func putFirst[K comparable](first map[K]int, key K, i int) {
	if _, had := first[key]; !had {
		first[key] = i
	}
}

// pairOf tells both names of a cov, in an order that does not hang on which one stands first.
func pairOf(d api.Decl) [2]string {
	return [2]string{min(d.Name, d.Other), max(d.Name, d.Other)}
}

// isAhead tells whether the first declaration that has this key stands ahead of the one of number i.
func isAhead[K comparable](first map[K]int, key K, i int) bool {
	at, ok := first[key]
	return ok && at < i
}

// ownError tells the error of the names that d, of number i, has beside its formula.
func (b book) ownError(d api.Decl, i int) api.Errno {
	var twice bool
	switch d.Kind {
	case api.DUnit:
		twice = isAhead(b.units, d.Name, i)
	case api.DCov:
		if !isAhead(b.sources, d.Name, i) || !isAhead(b.sources, d.Other, i) {
			return api.ErrName
		}
		twice = d.Name == d.Other || isAhead(b.covs, pairOf(d), i)
	default:
		twice = isAhead(b.taken, d.Name, i)
	}
	if twice {
		return api.ErrTwice
	}
	return api.OK
}

// formulaFault tells the first fault of the names in t, the formula of the declaration of number i, if it has one.
func (b book) formulaFault(t api.Tree, i int) api.Fault {
	for _, n := range t {
		if n.Kind == api.Ref && !isAhead(b.values, n.Text, i) {
			return api.Fault{E: api.ErrName, At: n.At}
		}
	}
	return api.Fault{}
}
