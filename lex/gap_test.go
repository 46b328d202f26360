package lex_test

import (
	"strings"
	"testing"

	"steelyard/api"
)

// Blanks and notes alone have no token.
func TestNoTokens(t *testing.T) {
	for _, s := range []string{
		"", " ", "\t", "\n", "  ", "\t\t", "\n\n", " \t", " \n", "\t\n", " \t\n", "\n\t ", strings.Repeat(" \t\n", 1000),
		"#", "##", "# ", "#\n", "# \n ", "#\n#", "#\n#\n", "# a\n# b", " # a \n\t# b \n", "#a#b", "#\t#\n\n#", "\n#\n", strings.Repeat("#\n", 2000),
		"# 2x", "# ?", "#?\n", "# [m", "#[]\n#]", "#" + seventeen, "# 1..2\n", "#\r", "#\x00\n", "#\xff\xfe\n", "# é Ω\n", "#" + strings.Repeat("7", mostNumber+1), "#" + strings.Repeat("x", api.MaxText-1), "#[" + strings.Repeat("k", mostUnits+1) + "]",
	} {
		wantTokens(t, s)
	}
}

// A note goes to the end of its line, and no further.
func TestNotes(t *testing.T) {
	wantTokens(t, "a # b\nc", word("a", 0), word("c", 6))
	wantTokens(t, "a#b\nc", word("a", 0), word("c", 4))
	wantTokens(t, "#b\nc#d\n#e\nf#", word("c", 3), word("f", 10))
	wantTokens(t, "a#\nb", word("a", 0), word("b", 3))
	wantTokens(t, "a##b\nb", word("a", 0), word("b", 5))
	wantTokens(t, "1#.5\n2", number("1", 0), number("2", 5))
	wantTokens(t, "1#x\n#_\ny", number("1", 0), word("y", 7))
	wantTokens(t, "[m]#]\n[s]", units("m", 0), units("s", 6))
	wantTokens(t, "-#-\n-", sign("-", 0), sign("-", 4))
	wantTokens(t, sixteen+"#q\nq", word(sixteen, 0), word("q", 19))
	wantTokens(t, "x # ends with the text", word("x", 0))
	wantTokens(t, "x # ends with the line\n", word("x", 0))
	wantTokens(t, "[#]", units("#", 0))
	wantTokens(t, "[a#b] # c", units("a#b", 0))
	wantTokens(t, "[m # s]x", units("m # s", 0), word("x", 7))
	wantLex(t, "|[m # s\n]")
	wantLex(t, "# a\n|?")
	wantLex(t, "x # a\n|2x # b")
	wantLex(t, "#\n\n |]#")
	wantLex(t, "# [\n|]")
}

// Other bytes that look like blanks, or like the end of a line, are none.
func TestNoBlanks(t *testing.T) {
	for _, c := range []string{"\r", "\v", "\f", "\b", "\x00", "\x1f", "\x7f", "\x85", "\xa0", "\u0085", "\u00a0", "\u2003", "\u2028", "\u3000", "\ufeff"} {
		wantLex(t, "|"+c)
		wantLex(t, "x |"+c)
		wantLex(t, "x|"+c+"y")
		wantLex(t, "1|"+c)
		wantLex(t, "; |"+c+";")
		wantTokens(t, "# "+c+"?")
		wantTokens(t, "x#"+c+"?\ny", word("x", 0), word("y", len(c)+4))
		wantTokens(t, "["+c+"]", units(c, 0))
	}
}

// Each of the blanks parts words and numbers.
func TestBlanksPart(t *testing.T) {
	for _, c := range []string{" ", "\t", "\n", "#\n", "# x\n", " #1\n\t"} {
		n := len(c)
		wantTokens(t, "x"+c+"y", word("x", 0), word("y", n+1))
		wantTokens(t, "x"+c+"1", word("x", 0), number("1", n+1))
		wantTokens(t, "1"+c+"x", number("1", 0), word("x", n+1))
		wantTokens(t, "1"+c+"2", number("1", 0), number("2", n+1))
		wantTokens(t, "1"+c+"e5", number("1", 0), word("e5", n+1))
		wantTokens(t, "1e5"+c+"5", number("1e5", 0), number("5", n+3))
		wantTokens(t, "a"+c+"_", word("a", 0), word("_", n+1))
		wantTokens(t, "1"+c+"_", number("1", 0), word("_", n+1))
		wantTokens(t, c+"("+c+c+")"+c, sign("(", n), sign(")", 3*n+1))
		wantTokens(t, sixteen+c+"q", word(sixteen, 0), word("q", n+16))
		wantLex(t, "1"+c+"|.5")
		wantLex(t, "|1."+c+"5")
		wantLex(t, "|1e"+c+"5")
	}
}
