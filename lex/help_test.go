package lex_test

import (
	"regexp"
	"slices"
	"strings"
	"testing"

	"steelyard/api"
	"steelyard/lex"
)

const (
	// mostNumber is how many bytes a number has at most.
	mostNumber = 400
	// mostUnits is how many bytes stand between brackets at most.
	mostUnits = 200
	// sixteen and seventeen are words of as many bytes: as many as may be, and one more.
	sixteen   = "abcdefghijklmnop"
	seventeen = "abcdefghijklmnopq"
)

const (
	letters = "ABCDEFGHIJKLMNOPQRSTUVWXYZabcdefghijklmnopqrstuvwxyz"
	figures = "0123456789"
	signs   = "()+-*/^=;:"
)

// What the document calls blanks and notes, a word, a number, and units; a number's literal as layer 9 tells it.
var (
	gaps     = regexp.MustCompile(`^([ \t\n]|#[^\n]*)*`)
	words    = regexp.MustCompile(`^[A-Za-z_][A-Za-z0-9_]*`)
	numbers  = regexp.MustCompile(`^[0-9]+(\.[0-9]+)?(e-?[0-9]{1,3})?`)
	behind   = regexp.MustCompile(`^[A-Za-z_.]`)
	brackets = regexp.MustCompile(`^\[[^\]\n]+\]`)
)

// own are the words that the script's text has for itself.
func own() []string {
	return []string{"unit", "source", "cov", "let", "output", "in"}
}

func word(s string, at int) api.Token   { return api.Token{Kind: api.Word, Text: s, At: at} }
func number(s string, at int) api.Token { return api.Token{Kind: api.Number, Text: s, At: at} }
func sign(s string, at int) api.Token   { return api.Token{Kind: api.Sign, Text: s, At: at} }
func units(s string, at int) api.Token  { return api.Token{Kind: api.Units, Text: s, At: at} }

// reading tells what s has for tokens, by the document's words.
func reading(s string) ([]api.Token, api.Fault) {
	if len(s) > api.MaxText {
		return nil, api.Fault{E: api.ErrLimit}
	}
	var all []api.Token
	for at := 0; ; {
		at += len(gaps.FindString(s[at:]))
		if at == len(s) {
			return all, api.Fault{}
		}
		token, size := beginning(s[at:])
		if size == 0 {
			return nil, api.Fault{E: api.ErrLex, At: at}
		}
		token.At = at
		all = append(all, token)
		at += size
	}
}

// beginning tells the token that s begins with, and its size in bytes; 0, if it begins with none.
func beginning(s string) (api.Token, int) {
	if w := words.FindString(s); w != "" && len(w) <= api.MaxName {
		return word(w, 0), len(w)
	}
	if n := numbers.FindString(s); n != "" && len(n) <= mostNumber && !behind.MatchString(s[len(n):]) {
		return number(n, 0), len(n)
	}
	if u := brackets.FindString(s); u != "" && len(u) <= mostUnits+2 {
		return units(u[1:len(u)-1], 0), len(u)
	}
	if strings.IndexByte(signs, s[0]) >= 0 {
		return sign(s[:1], 0), 1
	}
	return api.Token{}, 0
}

// check holds what is told of s against the reading.
func check(t *testing.T, s string) {
	t.Helper()
	want, f := reading(s)
	if f != (api.Fault{}) {
		wantFault(t, s, f.E, f.At)
		return
	}
	wantTokens(t, s, want...)
}

// wantTokens asks for these tokens alone, and no fault.
func wantTokens(t *testing.T, s string, want ...api.Token) {
	t.Helper()
	got, f := lex.Tokens(s)
	if f != (api.Fault{}) || !slices.Equal(got, want) {
		t.Errorf("Tokens(%.250q), of %d bytes, = %v, %v, want %v", s, len(s), got, f, want)
	}
}

// wantFault asks for a fault, beside which there is no token.
func wantFault(t *testing.T, s string, e api.Errno, at int) {
	t.Helper()
	got, f := lex.Tokens(s)
	if f != (api.Fault{E: e, At: at}) || len(got) != 0 {
		t.Errorf("Tokens(%.250q), of %d bytes, = %v, %v, want error %d at %d alone", s, len(s), got, f, e, at)
	}
}

// wantLex asks for ErrLex where the bar stands in s.
func wantLex(t *testing.T, marked string) {
	t.Helper()
	wantFault(t, strings.Replace(marked, "|", "", 1), api.ErrLex, strings.Index(marked, "|"))
}

// tokens tells the tokens of a text that has no fault.
func tokens(t *testing.T, s string) []api.Token {
	t.Helper()
	all, f := lex.Tokens(s)
	if f != (api.Fault{}) {
		t.Fatalf("Tokens(%.250q) = %v", s, f)
	}
	return all
}

// moved tells tokens that stand so many bytes further on.
func moved(all []api.Token, by int) []api.Token {
	out := slices.Clone(all)
	for i := range out {
		out[i].At += by
	}
	return out
}

// placeless tells tokens without their places.
func placeless(all []api.Token) []api.Token {
	out := slices.Clone(all)
	for i := range out {
		out[i].At = 0
	}
	return out
}

// standing tells the bytes that a token has in its text.
func standing(k api.Token) string {
	if k.Kind == api.Units {
		return "[" + k.Text + "]"
	}
	return k.Text
}

// everyByte tells all bytes, each as a text.
func everyByte() []string {
	var all []string
	for b := range 256 {
		all = append(all, string([]byte{byte(b)}))
	}
	return all
}

// scripts tells texts that have no fault, of all kinds.
func scripts() []string {
	return []string{
		"", " ", "\t", "\n", " \t\n \n\t ", "#", "#\n", "# 2x ? [ ]", "# a\n# b", "\n#\n\n##\n",
		"x", "_", "x_1", "in", sixteen, "x y", "x\ty\nz", "a#b\nc",
		"0", "007", "1.5", "2e3", "2e-3", "12.50e-1", "1e2345", "1 2", strings.Repeat("7", mostNumber),
		"[m]", "[ ]", "[a[b#]", "[\xff]", "[" + strings.Repeat("u", mostUnits) + "]", "[m][s]", "[km/h] [1]",
		signs, "()", "( )", "-x^2", "((1+2)*3)/4", "a=b;c:d",
		"unit nmi = 1852 [m];", "source x_1 = -2.5e3 [km/h] : 1/9;# note\n", "cov x y = -1/2;\n", "let v=(x-y)*2^-3; # 2x\n", "\toutput _y=x^2\nin[m]:3 #end",
		"unit a=1[b];source x=1:1;source y=2[a]:0.5;cov x y=1/9;let z=x*-y;output o=z/(x+y^2)in[a]:60;",
	}
}

// faulty tells texts that have a fault, of all kinds.
func faulty() []string {
	return []string{
		"?", "2x", "1.", "1..2", "1.5.2", "3e", "3e+", "1e5x", "2_", "x ? y", "]", "[", "[]", "[m", "[m\n]", "x[\n]", "a.b", ".5", "\xff", "x \r", "é",
		seventeen, "a " + seventeen, strings.Repeat("7", mostNumber+1), "[" + strings.Repeat("u", mostUnits+1) + "]", "let z = x ; # ?\n ?", "let z = 2x; ? ]",
	}
}
