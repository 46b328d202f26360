package lex_test

import (
	"math/rand"
	"strings"
	"testing"

	"steelyard/api"
)

func TestScripts(t *testing.T) {
	wantTokens(t, "source x = 4 [m] : 1;",
		word("source", 0), word("x", 7), sign("=", 9), number("4", 11), units("m", 13), sign(":", 17), number("1", 19), sign(";", 20))
	wantTokens(t, "unit nmi=1852[m];\nunit kn = 1 [nmi / h] ;",
		word("unit", 0), word("nmi", 5), sign("=", 8), number("1852", 9), units("m", 13), sign(";", 16),
		word("unit", 18), word("kn", 23), sign("=", 26), number("1", 28), units("nmi / h", 30), sign(";", 40))
	wantTokens(t, "cov x y = -1/2; # both\n",
		word("cov", 0), word("x", 4), word("y", 6), sign("=", 8), sign("-", 10), number("1", 11), sign("/", 12), number("2", 13), sign(";", 14))
	wantTokens(t, "let _v=-(x-2.5e-1[s])*y^-2/3;",
		word("let", 0), word("_v", 4), sign("=", 6), sign("-", 7), sign("(", 8), word("x", 9), sign("-", 10), number("2.5e-1", 11), units("s", 17), sign(")", 20),
		sign("*", 21), word("y", 22), sign("^", 23), sign("-", 24), number("2", 25), sign("/", 26), number("3", 27), sign(";", 28))
	wantTokens(t, "\toutput o=x+y\nin[m]:60;#end",
		word("output", 1), word("o", 8), sign("=", 9), word("x", 10), sign("+", 11), word("y", 12), word("in", 14), units("m", 16), sign(":", 19), number("60", 20), sign(";", 22))
}

func TestSigns(t *testing.T) {
	for i := range signs {
		c := signs[i : i+1]
		wantTokens(t, c, sign(c, 0))
		wantTokens(t, " "+c+"\n", sign(c, 1))
		wantTokens(t, "x"+c+"y", word("x", 0), sign(c, 1), word("y", 2))
		wantTokens(t, "1"+c+"2", number("1", 0), sign(c, 1), number("2", 2))
		wantTokens(t, "1.5"+c+"2e3", number("1.5", 0), sign(c, 3), number("2e3", 4))
		wantTokens(t, "1e5"+c+"2", number("1e5", 0), sign(c, 3), number("2", 4))
		wantTokens(t, "[m]"+c+"[s]", units("m", 0), sign(c, 3), units("s", 4))
		wantTokens(t, c+"#"+c+"\n"+c, sign(c, 0), sign(c, 4))
		wantTokens(t, sixteen+c, word(sixteen, 0), sign(c, 16))
		for j := range signs {
			d := signs[j : j+1]
			wantTokens(t, c+d, sign(c, 0), sign(d, 1))
			wantTokens(t, c+d+c, sign(c, 0), sign(d, 1), sign(c, 2))
			wantTokens(t, "x"+c+d+"7", word("x", 0), sign(c, 1), sign(d, 2), number("7", 3))
		}
	}
	wantTokens(t, "()+-*/^=;:", sign("(", 0), sign(")", 1), sign("+", 2), sign("-", 3), sign("*", 4), sign("/", 5), sign("^", 6), sign("=", 7), sign(";", 8), sign(":", 9))
	all := tokens(t, strings.Repeat("(", api.MaxText))
	for i, k := range all {
		if k != sign("(", i) {
			t.Fatalf("token %d of many (: %v", i, k)
		}
	}
	if len(all) != api.MaxText {
		t.Errorf("%d tokens of many (", len(all))
	}
}

// What stands at once behind a token is one of its own.
func TestTokensWithoutBlanks(t *testing.T) {
	wantTokens(t, "x[m]1", word("x", 0), units("m", 1), number("1", 4))
	wantTokens(t, "1[m]x", number("1", 0), units("m", 1), word("x", 4))
	wantTokens(t, "[m][s]", units("m", 0), units("s", 3))
	wantTokens(t, "[m]in[s]:2", units("m", 0), word("in", 3), units("s", 5), sign(":", 8), number("2", 9))
	wantTokens(t, "x#y", word("x", 0))
	wantTokens(t, "1#y", number("1", 0))
	wantTokens(t, "[m]#y", units("m", 0))
	wantTokens(t, ";#y", sign(";", 0))
	wantTokens(t, "1e2345", number("1e234", 0), number("5", 5))
	wantTokens(t, "1e-2345.5e6", number("1e-234", 0), number("5.5e6", 6))
	wantTokens(t, "1e00012", number("1e000", 0), number("12", 5))
}

// Of every text of up to five of these bytes.
func TestEveryShortText(t *testing.T) {
	for _, c := range []struct {
		bytes string
		most  int
	}{
		{"xe_7.-[]# \n+?\xff", 5},
		{"1e.-x", 7},
		{"[]#\n m", 7},
	} {
		all := []string{""}
		for range c.most {
			var longer []string
			for _, s := range all {
				for i := range len(c.bytes) {
					longer = append(longer, s+c.bytes[i:i+1])
				}
			}
			all = longer
			for _, s := range all {
				check(t, s)
			}
		}
	}
}

// pieces are what random texts are made of.
func pieces() []string {
	return append([]string{
		" ", "  ", "\t", "\n", "\n\n", "# note\n", "#2x ? [\n", "#\n", "x", "y_1", "_", "in", "let", "output", sixteen, "e", "E5", "Z9",
		"0", "7", "12", "1.5", "3e4", "3e-4", "0.0e000", "1e2345", strings.Repeat("9", 130), "[m]", "[ ]", "[a#b[c]", "[\xff\x00]", "[" + strings.Repeat("k", 90) + "]",
	}, strings.Split(signs, "")...)
}

// wrongs are what no text has, or not at each place.
func wrongs() []string {
	return []string{"?", ".", "]", "[", "[]", "2x", "1.", "3e", "\r", "\x00", "\xff", "é", "#", seventeen, "[m\n]", strings.Repeat("9", 300), "[" + strings.Repeat("k", 150)}
}

func TestRandomTexts(t *testing.T) {
	r := rand.New(rand.NewSource(13))
	right, wrong := pieces(), wrongs()
	faults := 0
	for range 60000 {
		var s strings.Builder
		for range r.Intn(25) {
			if r.Intn(60) == 0 {
				s.WriteString(wrong[r.Intn(len(wrong))])
			} else {
				s.WriteString(right[r.Intn(len(right))])
			}
			if r.Intn(3) == 0 {
				s.WriteByte(" \t\n"[r.Intn(3)])
			}
		}
		if _, f := reading(s.String()); f != (api.Fault{}) {
			faults++
		}
		check(t, s.String())
	}
	if faults < 6000 || faults > 54000 {
		t.Errorf("%d of the texts have a fault", faults)
	}
}

// Of any bytes, up to as many as may be and beyond.
func TestRandomBytes(t *testing.T) {
	r := rand.New(rand.NewSource(1313))
	for range 20000 {
		all := make([]byte, r.Intn(12))
		for i := range all {
			all[i] = byte(r.Intn(256))
		}
		check(t, string(all))
		check(t, "let x = "+string(all))
		check(t, "["+string(all)+"]")
	}
	for range 200 {
		check(t, strings.Repeat(" ", api.MaxText-5+r.Intn(10))+pieces()[r.Intn(30)])
	}
}
