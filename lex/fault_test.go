package lex_test

import (
	"strings"
	"testing"

	"steelyard/api"
	"steelyard/lex"
)

// The bytes with which no token begins, nor a note.
func TestEveryByteAtTheBeginning(t *testing.T) {
	for _, c := range everyByte() {
		switch {
		case strings.Contains(" \t\n#", c):
			wantTokens(t, c)
			wantTokens(t, c+"\nx", word("x", 2))
			wantTokens(t, "x"+c, word("x", 0))
		case strings.Contains(letters+"_", c):
			wantTokens(t, c, word(c, 0))
			wantTokens(t, " "+c+" ", word(c, 1))
			wantTokens(t, "x"+c, word("x"+c, 0))
			wantTokens(t, ";"+c, sign(";", 0), word(c, 1))
			wantTokens(t, "[m]"+c, units("m", 0), word(c, 3))
			wantLex(t, "|1"+c)
			wantLex(t, "|1.5"+c)
			wantLex(t, "|1e5"+c)
		case strings.Contains(figures, c):
			wantTokens(t, c, number(c, 0))
			wantTokens(t, " "+c+" ", number(c, 1))
			wantTokens(t, "x"+c, word("x"+c, 0))
			wantTokens(t, "1"+c, number("1"+c, 0))
			wantTokens(t, ";"+c, sign(";", 0), number(c, 1))
			wantTokens(t, "[m]"+c, units("m", 0), number(c, 3))
		case strings.Contains(signs, c):
			wantTokens(t, c, sign(c, 0))
			wantTokens(t, " "+c+" ", sign(c, 1))
			wantTokens(t, "x"+c, word("x", 0), sign(c, 1))
			wantTokens(t, "1"+c, number("1", 0), sign(c, 1))
			wantTokens(t, "[m]"+c, units("m", 0), sign(c, 3))
		case c == ".":
			wantLex(t, "|.")
			wantLex(t, " |.")
			wantLex(t, "x|.")
			wantLex(t, ";|.")
			wantLex(t, "[m]|.")
			wantLex(t, "|1.")
		default:
			wantLex(t, "|"+c)
			wantLex(t, " |"+c)
			wantLex(t, "\n\t|"+c+" ")
			wantLex(t, "x|"+c)
			wantLex(t, "x |"+c+"y")
			wantLex(t, "1|"+c)
			wantLex(t, "1.5|"+c+"2")
			wantLex(t, "1e5|"+c)
			wantLex(t, ";|"+c)
			wantLex(t, "[m]|"+c)
			wantLex(t, sixteen+"|"+c)
			wantLex(t, "# x\n|"+c)
		}
	}
}

// Every byte at every place of a few texts.
func TestEveryByteAtEachPlace(t *testing.T) {
	for _, c := range everyByte() {
		for _, s := range []string{"|", " |", "| ", "x|", "x |", "|x", "1|", "1 |", "|1", "1|2", "1.|", "1.|5", "1.5|", "1e|", "1e|5", "1e-|", "1e5|", "1e-5|", "1e55|", "1e555|", "1e555|5", "[|", "[|]", "[m|", "[m|]", "[|m]", "[m]|", "|]", "#|", "#|x", "#\n|", "# x |\ny", "x|y", "x|1", "-|", "|;", "|[m]", "|#x\ny", sixteen + "|", sixteen[:15] + "|", strings.Repeat("7", 399) + "|", strings.Repeat("7", 400) + "|", strings.Repeat("7", 398) + "|5", "[" + strings.Repeat("k", 199) + "|]", "[" + strings.Repeat("k", 200) + "|"} {
			check(t, strings.Replace(s, "|", c, 1))
			check(t, strings.Replace(s, "|", c+c, 1))
			check(t, strings.Replace(s, "|", c+" ", 1))
			check(t, strings.Replace(s, "|", c, 1)+" ?")
		}
	}
}

func TestLimitOfBytes(t *testing.T) {
	most := api.MaxText
	wantTokens(t, strings.Repeat(" ", most))
	wantTokens(t, strings.Repeat("\n", most))
	wantTokens(t, "#"+strings.Repeat("?", most-1))
	wantTokens(t, strings.Repeat(" ", most-1)+"x", word("x", most-1))
	wantTokens(t, "x"+strings.Repeat(" ", most-1), word("x", 0))
	wantTokens(t, strings.Repeat(" ", most-3)+"[m]", units("m", most-3))
	wantFault(t, strings.Repeat(" ", most-1)+"?", api.ErrLex, most-1)
	wantFault(t, strings.Repeat(" ", most-2)+"2x", api.ErrLex, most-2)
	wantFault(t, strings.Repeat(" ", most-1)+"[", api.ErrLex, most-1)
	wantFault(t, strings.Repeat("?", most), api.ErrLex, 0)
	wantFault(t, strings.Repeat("x", most), api.ErrLex, 0)
	wantFault(t, strings.Repeat("7", most), api.ErrLex, 0)
	wantFault(t, strings.Repeat("[", most), api.ErrLex, 0)
	for _, part := range []string{"x ", "1;", "[m]=", "let x=1;#\n"} {
		s := strings.Repeat(part, most/len(part))
		s += strings.Repeat(" ", most-len(s))
		check(t, s)
		if all := tokens(t, s); len(all) != len(tokens(t, part))*(most/len(part)) {
			t.Errorf("%d tokens of %q, again and again", len(all), part)
		}
	}
	for _, more := range []int{1, 2, 96, 4096 - most, 1 << 16, 1 << 20} {
		n := most + more
		for _, s := range []string{strings.Repeat(" ", n), strings.Repeat("\n", n), strings.Repeat("x ", n)[:n], strings.Repeat(";", n), "#" + strings.Repeat("x", n-1), strings.Repeat("?", n), strings.Repeat("\xff", n), strings.Repeat("\x00", n), strings.Repeat("x", n), strings.Repeat("7", n), strings.Repeat("[", n), "[" + strings.Repeat("m", n-2) + "]", "?" + strings.Repeat(" ", n-1), " ?" + strings.Repeat(" ", n-2), strings.Repeat(" ", n-1) + "?", "2x" + strings.Repeat(" ", n-2), "[m\n" + strings.Repeat("]", n-3), strings.Repeat(" ", most) + strings.Repeat("?", more)} {
			wantFault(t, s, api.ErrLimit, 0)
		}
	}
}

// The fault that stands first is told, and no token that stands ahead of it.
func TestTheFirstFaultIsTold(t *testing.T) {
	for _, first := range []string{"|?", "|.", "|]", "|[", "|[]", "|[m\n]", "|2x", "|1.", "|3e", "|1.5.2", "|1..2", "|é", "|\xff", "|\r", "|" + seventeen, "|" + strings.Repeat("7", 401), "|[" + strings.Repeat("k", 201) + "]"} {
		for _, second := range []string{"?", ".", "]", "[", "[]", "2x", "1.", "\xff", seventeen, strings.Repeat("7", 401)} {
			wantLex(t, first+"\n"+second)
			wantLex(t, "x = 1 [m] ; "+first+"\n"+second+" y")
			wantLex(t, "# "+second+"\n"+first+"\n"+second)
			wantLex(t, "["+strings.Repeat("?", 9)+"]\t"+first+"\n;"+second)
		}
	}
}

// Of every text each beginning, and what stands behind that: whatever is cut, the call ends with tokens, or with a fault, whose byte is in the text.
func TestEveryCallEnds(t *testing.T) {
	for _, s := range append(scripts(), faulty()...) {
		for i := range len(s) + 1 {
			for _, part := range []string{s[:i], s[i:], s[i:] + s[:i]} {
				all, f := lex.Tokens(part)
				if f.E == api.OK && f.At != 0 || f.E != api.OK && (f.E != api.ErrLex || len(all) != 0 || f.At < 0 || f.At >= len(part)) {
					t.Errorf("Tokens(%q) = %v, %v", part, all, f)
				}
				check(t, part)
			}
		}
	}
	for _, c := range append(everyByte(), "ab", "1.", "1e", "[m", "#\n", "e5", "in") {
		long := strings.Repeat(c, 1<<20/len(c))
		wantFault(t, long, api.ErrLimit, 0)
		wantName(t, long, false)
		check(t, long[:api.MaxText])
	}
}
