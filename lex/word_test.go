package lex_test

import (
	"strings"
	"testing"

	"steelyard/api"
	"steelyard/lex"
)

// wordBytes are those that a word has, but for digits also at its beginning.
const wordBytes = letters + "_" + figures

func TestWords(t *testing.T) {
	for _, s := range append(own(), "x", "X", "_", "__", "_1", "x1", "x_1", "x__", "a1b2", "e", "e5", "E", "Unit", "units", "outputs", "_in", "in_", "in2", "incov", "kg", "min", sixteen, strings.Repeat("_", 16), "A"+strings.Repeat("0", 15)) {
		wantTokens(t, s, word(s, 0))
		wantTokens(t, "\n "+s+" ", word(s, 2))
		wantTokens(t, s+" "+s, word(s, 0), word(s, len(s)+1))
		wantTokens(t, s+"+"+s, word(s, 0), sign("+", len(s)), word(s, len(s)+1))
		wantTokens(t, s+"[m]", word(s, 0), units("m", len(s)))
		wantTokens(t, s+"#"+s, word(s, 0))
		wantLex(t, s+"|.")
		wantLex(t, s+"|?")
		wantLex(t, s+" |.5")
	}
}

// Each letter, digit and _ at each place of a word; a digit at the first one begins a number.
func TestEveryByteOfWords(t *testing.T) {
	for i := range wordBytes {
		c := wordBytes[i : i+1]
		for n := range api.MaxName {
			s := strings.Repeat("x", n) + c
			for _, s := range []string{s, s + strings.Repeat("y", api.MaxName-len(s))} {
				if n == 0 && strings.Contains(figures, c) {
					check(t, s)
					continue
				}
				wantTokens(t, s, word(s, 0))
				wantName(t, s, true)
			}
		}
		if !strings.Contains(figures, c) {
			whole := strings.Repeat(c, api.MaxName)
			wantTokens(t, whole, word(whole, 0))
			wantLex(t, "|"+whole+c)
		}
		wantLex(t, "|"+sixteen+c)
	}
}

// A word of one byte more than may be is told at its first one, whatever its bytes are.
func TestLongWords(t *testing.T) {
	for n := 1; n <= api.MaxName; n++ {
		s := seventeen[:n]
		wantTokens(t, s, word(s, 0))
		wantTokens(t, "1 "+s+";", number("1", 0), word(s, 2), sign(";", n+2))
	}
	for _, s := range []string{seventeen, sixteen + "_", sixteen + "7", sixteen + "Z", strings.Repeat("_", 17), "_" + strings.Repeat("0", 16), "outputoutputoutput", strings.Repeat("in", 9), strings.Repeat("x", 32), strings.Repeat("x", 33), strings.Repeat("x", 256), strings.Repeat("x", 272), strings.Repeat("x", api.MaxText-10)} {
		wantLex(t, "|"+s)
		wantLex(t, "  |"+s)
		wantLex(t, "|"+s+" ")
		wantLex(t, "|"+s+";")
		wantLex(t, "|"+s+"[m]")
		wantLex(t, "|"+s+"#")
		wantLex(t, "|"+s+"\n?")
		wantLex(t, "x;|"+s)
		wantLex(t, "[m]|"+s)
		wantLex(t, "#\n|"+s)
		wantTokens(t, "#"+s)
	}
}

// wantName asks whether s is a name.
func wantName(t *testing.T, s string, want bool) {
	t.Helper()
	if lex.IsName(s) != want {
		t.Errorf("IsName(%.100q), of %d bytes, = %v", s, len(s), !want)
	}
}

func TestNames(t *testing.T) {
	for _, s := range []string{"x", "X", "_", "__", "_1", "_9_", "x1", "x_1", "a1b2", "e", "e5", "E5", "Z", "z", "A", "kg", "min", sixteen, strings.Repeat("_", 16), "Z" + strings.Repeat("9", 15)} {
		wantName(t, s, true)
	}
	for _, s := range []string{
		"", " ", "\t", "\n", "1", "0", "9", "1a", "2_", "1.5", "1e5", "007", "-", "-x", "+x", "(x)", "[m]", "m]", "[", ";", "#", "#x", "?", ".", "x.y", ".x", "x.",
		" x", "x ", "x y", "\tx", "x\t", "\nx", "x\n", "x\r", "\x00", "x\x00", "\x00x", "x\x80", "\x80x", "\xff", "x\xff", "é", "xé", "Ω", "µ", "x²", "x₁", "ａ", "\u0661", "x\u0661",
		"x-", "x-y", "x+y", "x=", "x:y", "x;", "x#", "x#y", "x[m]", "x/y", "x*y", "x^2", "x'", "$x", "x$", "@x", "x@", "`", "{x}", "x{", "x|y", "x~", "x,y", "x\\",
		seventeen, sixteen + "_", sixteen + "7", sixteen + " ", strings.Repeat("_", 17), strings.Repeat("x", 32), strings.Repeat("x", 256), strings.Repeat("x", 256+1), strings.Repeat("x", 1<<16), strings.Repeat("x", 1<<16+1), strings.Repeat(" ", 16),
	} {
		wantName(t, s, false)
	}
}

// The words that the text has for itself are no names; what is longer, shorter, or of another case, is one.
func TestOwnWords(t *testing.T) {
	for _, s := range own() {
		wantName(t, s, false)
		wantTokens(t, s, word(s, 0))
		for i := range len(s) {
			upper := s[:i] + strings.ToUpper(s[i:i+1]) + s[i+1:]
			wantName(t, upper, true)
			wantTokens(t, upper, word(upper, 0))
			wantName(t, s[:i]+"_"+s[i:], true)
			wantName(t, s[:i]+s[i:i+1]+s[i:], true)
			wantName(t, s[:i]+" "+s[i:], false)
			wantName(t, s[:i]+"."+s[i:], false)
			if i > 0 {
				wantName(t, s[:i], true)
				wantName(t, s[i:], true)
				wantName(t, s[:i]+"0"+s[i:], true)
			}
		}
		for _, other := range append(own(), "s", "S", "1", "_", "x") {
			wantName(t, s+other, len(s+other) <= api.MaxName)
		}
		wantName(t, strings.ToUpper(s), true)
		wantName(t, strings.ToUpper(s[:1])+s[1:], true)
		wantName(t, "_"+s, true)
		wantName(t, "x"+s, true)
		wantName(t, "1"+s, false)
		wantName(t, s+" ", false)
		wantName(t, " "+s, false)
		wantName(t, s+"\x00", false)
	}
	for _, s := range []string{"ni", "tel", "voc", "tinu", "ecruos", "tuptuo", "out", "put", "sources", "unity", "covar", "letter", "input", "inn", "i", "n", "min"} {
		wantName(t, s, true)
	}
}

// A text is a name, if it is the one token that it has, a word, and not the text's own.
func TestNamesAreWords(t *testing.T) {
	all := append(append(append(scripts(), faulty()...), pieces()...), wrongs()...)
	all = append(append(all, own()...), everyByte()...)
	for _, c := range everyByte() {
		all = append(all, "x"+c, c+"x", "x"+c+"y", sixteen+c, sixteen[:15]+c, c+sixteen[:15], "in"+c, c+"in", "i"+c+"n")
	}
	for _, s := range all {
		read, f := reading(s)
		want := f.E == api.OK && len(read) == 1 && read[0] == word(s, 0)
		for _, other := range own() {
			want = want && s != other
		}
		wantName(t, s, want)
	}
}
