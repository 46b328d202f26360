package parse

import (
	"strconv"

	"steelyard/api"
	"steelyard/lex"
)

// reader goes once along a text's tokens. Behind a fault no token is left to it, so that all that is still asked comes to its end at once; what it tells then is told to nobody.
type reader struct {
	tokens []api.Token
	size   int // of the text, in bytes
	most   api.Limits
	fault  api.Fault
	nodes  api.Tree // of the formula that is read
	made   int      // nodes, of all formulas
	opened int      // brackets and signs of factors that what is read stands within
}

// newReader tells a reader at the beginning of s.
func newReader(s string, l api.Limits) *reader {
	r := &reader{size: len(s), most: api.Limits{
		Text:  within(l.Text, api.MaxText),
		Deep:  within(l.Deep, api.MaxDeep),
		Nodes: within(l.Nodes, api.MaxNodes),
		Power: within(l.Power, api.MaxPower),
	}}
	if r.size > r.most.Text {
		r.fail(api.ErrLimit, 0)
		return r
	}
	r.tokens, r.fault = lex.Tokens(s)
	return r
}

// within tells n, or which of 0 and most is nearer to it.
func within(n, most int) int {
	return max(0, min(n, most))
}

// fail keeps a fault, unless there was one ahead of it.
func (r *reader) fail(e api.Errno, at int) {
	if !r.faulty() {
		r.fault = api.Fault{E: e, At: at}
		r.tokens = nil
	}
}

// faulty tells whether there was a fault.
func (r *reader) faulty() bool {
	return r.fault.E != api.OK
}

// refuse keeps the fault that the next token can't stand where it does, or that the text ends there.
func (r *reader) refuse() {
	at := r.size
	if r.more() {
		at = r.peek().At
	}
	r.fail(api.ErrSyntax, at)
}

// more tells whether a token is left.
func (r *reader) more() bool {
	return len(r.tokens) > 0
}

// peek tells the next token, and leaves it; the zero token, if none is left.
func (r *reader) peek() api.Token {
	if !r.more() {
		return api.Token{}
	}
	return r.tokens[0]
}

// read tells the next token, and goes on behind it.
func (r *reader) read() api.Token {
	t := r.peek()
	if r.more() {
		r.tokens = r.tokens[1:]
	}
	return t
}

// sees tells whether the next token is this sign; units between brackets may have the same text.
func (r *reader) sees(sign string) bool {
	t := r.peek()
	return t.Kind == api.Sign && t.Text == sign
}

// sign reads this sign.
func (r *reader) sign(sign string) {
	if !r.sees(sign) {
		r.refuse()
	}
	r.read()
}

// name reads a name.
func (r *reader) name() string {
	if !lex.IsName(r.peek().Text) {
		r.refuse()
	}
	return r.take(api.Word)
}

// take reads a token of this kind, and tells its text.
func (r *reader) take(kind int) string {
	if r.peek().Kind != kind {
		r.refuse()
	}
	return r.read().Text
}

// units tells the text of the units that come next; "", if others come.
func (r *reader) units() string {
	if r.peek().Kind != api.Units {
		return ""
	}
	return r.take(api.Units)
}

// small reads a number of so many digits at most, and of nothing else, and tells it.
func (r *reader) small(mostDigits, most int) int {
	t := r.peek()
	n, err := strconv.Atoi(t.Text)
	if t.Kind != api.Number || len(t.Text) > mostDigits || err != nil {
		r.refuse()
	} else if n > most {
		r.fail(api.ErrLimit, t.At)
	}
	r.read()
	return n
}
