package lex_test

import (
	"strings"
	"testing"

	"steelyard/api"
)

func TestUnits(t *testing.T) {
	for _, s := range []string{"m", "km/h", "kg*m/s^2", " ", "\t", "  m  ", "#", "a#b", "[", "[[", "[a[b#", "?", ".", "2x", "1..2", "3e+", seventeen, "unit", "in", ";", "=", ":", "()", "\r", "\x00", "\x7f", "\x80", "\xff\xfe", "é", "µm", "Ω", "\u2028", "\u3000", "#[#", signs, strings.Repeat("7", 200), strings.Repeat("[", 200), strings.Repeat("\xff", 200), strings.Repeat("#", 200), strings.Repeat(" ", 200)} {
		n := len(s) + 2
		in := "[" + s + "]"
		wantTokens(t, in, units(s, 0))
		wantTokens(t, " \n"+in+" ", units(s, 2))
		wantTokens(t, "x"+in+"y", word("x", 0), units(s, 1), word("y", n+1))
		wantTokens(t, "1"+in+"2", number("1", 0), units(s, 1), number("2", n+1))
		wantTokens(t, ";"+in+":", sign(";", 0), units(s, 1), sign(":", n+1))
		wantTokens(t, in+in, units(s, 0), units(s, n))
		wantTokens(t, in+"#"+in, units(s, 0))
		wantTokens(t, in+"\n"+in, units(s, 0), units(s, n+1))
		wantLex(t, in+"|]")
		wantLex(t, in+" |]")
		wantLex(t, in+"|.")
		wantLex(t, in+"|[")
		wantLex(t, in+"|[]")
		wantLex(t, "|["+s)
		wantLex(t, "|["+s+"\n]")
		wantLex(t, "|["+s+"\n"+s+"]")
		wantLex(t, "|[\n"+s+"]")
	}
}

func TestUnitsThatAreNone(t *testing.T) {
	for _, marked := range []string{
		"|[", "|[]", "|[]]", "|[\n", "|[\n]", "|[m", "|[m\n", "|[m\n]", "|[ ", "|[ \n ]", "|[[", "|[#", "|[#\n]", "|[m#", "|[m;x", "|]", "|]]", "|][", "|][m]",
		"x|[", "x|[]", "x |]", "1|[", "1|]", "1|[]", "[m]|[", "[m]|[]", "[m]|]", "[m] |[s", "[m]x|]", "[m\x00]|]", "[[m]|]", ";|[\n;]", "x # [\n|]", "[m]\n|[\n[s]", "1 [m]; 2 |[; 3 [", "|[ x\n]", "|[" + strings.Repeat("k", 201) + "\n]",
	} {
		wantLex(t, marked)
		wantLex(t, " "+marked)
		wantLex(t, "# [m] \n"+marked)
	}
}

// Between the brackets stand as many bytes as may, and not one more.
func TestLongUnits(t *testing.T) {
	for n := 1; n <= mostUnits+60; n++ {
		s := strings.Repeat("k", n)
		if n <= mostUnits {
			wantTokens(t, "x["+s+"]", word("x", 0), units(s, 1))
			continue
		}
		wantLex(t, "x|["+s+"]")
	}
	for _, n := range []int{201, 202, 256, 400, 456, 512, 1000, api.MaxText - 5} {
		for _, c := range []string{"m", " ", "#", "[", "\xff", "\x00"} {
			s := strings.Repeat(c, n)
			wantLex(t, "|["+s+"]")
			wantLex(t, "|["+s)
			wantLex(t, "x;|["+s+"]")
			wantLex(t, "|["+s+"\n]")
		}
	}
	// Bytes count, not runes.
	wantTokens(t, "["+strings.Repeat("é", 100)+"]", units(strings.Repeat("é", 100), 0))
	wantLex(t, "|["+strings.Repeat("é", 100)+"m]")
	wantTokens(t, "["+strings.Repeat("€", 66)+"ms]", units(strings.Repeat("€", 66)+"ms", 0))
	wantLex(t, "|["+strings.Repeat("€", 67)+"]")
	wantLex(t, "|["+strings.Repeat("é", 101)+"]")
}

// Every byte but ] and a newline may stand between the brackets, at each place.
func TestEveryByteInUnits(t *testing.T) {
	for _, c := range everyByte() {
		for _, s := range []string{c, c + "m", "m" + c, "m" + c + "s", c + c, strings.Repeat("m", 199) + c, c + strings.Repeat("m", 199)} {
			switch c {
			case "\n":
				wantLex(t, "|["+s+"]")
				wantLex(t, "x|["+s+"]y")
			case "]":
				check(t, "["+s+"]")
				check(t, "["+s)
			default:
				wantTokens(t, "["+s+"]", units(s, 0))
				wantTokens(t, "x["+s+"]y", word("x", 0), units(s, 1), word("y", len(s)+3))
				wantLex(t, "|["+s)
			}
		}
	}
}

// The first ] ends units.
func TestTheFirstBracketEnds(t *testing.T) {
	wantTokens(t, "[m]s", units("m", 0), word("s", 3))
	wantTokens(t, "[m][s]", units("m", 0), units("s", 3))
	wantTokens(t, "[[m]", units("[m", 0))
	wantLex(t, "[m]s|]")
	wantLex(t, "[m]|]")
	wantLex(t, "|[]m]")
	wantLex(t, "|[]]")
	wantLex(t, "[[m]|]")
	most := strings.Repeat("k", mostUnits)
	wantTokens(t, "["+most+"] ["+most+"]", units(most, 0), units(most, mostUnits+3))
	wantLex(t, "["+most+"] |["+most+most+"]")
}
