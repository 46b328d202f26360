package unit_test

import (
	"math/rand"
	"strconv"
	"strings"
	"testing"

	"steelyard/api"
	"steelyard/unit"
)

func TestParse(t *testing.T) {
	x := unit.New()
	for _, c := range []struct {
		s, factor string
		dim       api.Dim
	}{
		{"1", "1", api.Dim{}},
		{"m", "1", api.Dim{1}},
		{"km", "1000", api.Dim{1}},
		{"min", "60", api.Dim{0, 0, 1}},
		{"m*s", "1", api.Dim{1, 0, 1}},
		{"m/s", "1", api.Dim{1, 0, -1}},
		{"m/s/s", "1", api.Dim{1, 0, -2}},
		{"m/s*s", "1", api.Dim{1}},
		{"m*s/s", "1", api.Dim{1}},
		{"km/h", "5/18", api.Dim{1, 0, -1}},
		{"kg*m/s^2", "1", api.Dim{1, 1, -2}},
		{"kg*m^2/s^2/m^3", "1", api.Dim{-1, 1, -2}},
		{"1/s", "1", api.Dim{0, 0, -1}},
		{"1*s", "1", api.Dim{0, 0, 1}},
		{"s*1", "1", api.Dim{0, 0, 1}},
		{"s/1", "1", api.Dim{0, 0, 1}},
		{"1*1/1", "1", api.Dim{}},
		{"1/1/1/m", "1", api.Dim{-1}},
		{"m^1", "1", api.Dim{1}},
		{"m^2", "1", api.Dim{2}},
		{"m^-2", "1", api.Dim{-2}},
		{"1/m^-2", "1", api.Dim{2}},
		{"s/m^-2", "1", api.Dim{2, 0, 1}},
		{"s*m^-2", "1", api.Dim{-2, 0, 1}},
		{"cm^3", "1/1000000", api.Dim{3}},
		{"cm^-3", "1000000", api.Dim{-3}},
		{"1/cm^3", "1000000", api.Dim{-3}},
		{"1/cm^-3", "1/1000000", api.Dim{3}},
		{"mL", "1/1000000", api.Dim{3}},
		{"min^2", "3600", api.Dim{0, 0, 2}},
		{"h/min", "60", api.Dim{}},
		{"g/cm^3", "1000", api.Dim{-3, 1}},
		{"V*A*s/J", "1", api.Dim{}},
		{"C*V/J", "1", api.Dim{}},
		{"mol*cd*K^-1", "1", api.Dim{0, 0, 0, 0, -1, 1, 1}},
		{"m*kg*s*A*K*mol*cd", "1", all(1)},
		{"1/m/kg/s/A/K/mol/cd", "1", all(-1)},
	} {
		wantText(t, x, c.s, of(c.factor, c.dim))
	}
}

func TestExponents(t *testing.T) {
	x := unit.New()
	for _, c := range []struct {
		exponent string
		n        int
	}{
		{"0", 0}, {"-0", 0}, {"00", 0}, {"-00", 0}, {"000", 0}, {"-000", 0}, {"1", 1}, {"-1", -1}, {"01", 1}, {"001", 1}, {"-01", -1}, {"-001", -1}, {"2", 2}, {"9", 9}, {"-9", -9},
		{"10", 10}, {"-10", -10}, {"12", 12}, {"21", 21}, {"010", 10}, {"-010", -10}, {"63", 63}, {"64", 64}, {"064", 64}, {"-63", -63}, {"-64", -64}, {"-064", -64},
	} {
		wantText(t, x, "m^"+c.exponent, of("1", api.Dim{c.n}))
		wantText(t, x, "1/m^"+c.exponent, of("1", api.Dim{-c.n}))
		wantText(t, x, "s*cd^"+c.exponent, of("1", api.Dim{0, 0, 1, 0, 0, 0, c.n}))
		check(t, x, table(), "kg/cm^"+c.exponent+"*min")
	}
}

// Every exponent of one to four digits, either way, of a number with a factor and of one without.
func TestEveryExponent(t *testing.T) {
	x, known := unit.New(), table()
	for n := range 10000 {
		digits := strconv.Itoa(n)
		for len(digits) < 5 {
			if n < 1000 || n%97 == 0 {
				check(t, x, known, "m^"+digits)
				check(t, x, known, "1/m^-"+digits)
				check(t, x, known, "s*km^"+digits+"*h")
				check(t, x, known, " uL ^ - "+digits+" ")
			}
			digits = "0" + digits
		}
	}
	for n := -64; n <= 64; n++ {
		wantText(t, x, "K^"+strconv.Itoa(n), of("1", api.Dim{0, 0, 0, 0, n}))
	}
}

// Blanks change nothing between names, ^, -, digits, *, / and 1, ahead and behind.
func TestBlanks(t *testing.T) {
	x := unit.New()
	for _, pieces := range [][]string{
		{"m"}, {"1"}, {"km", "/", "h"}, {"m", "^", "2"}, {"m", "^", "-", "2"}, {"1", "/", "s"}, {"s", "*", "1"}, {"kg", "*", "m", "/", "s", "^", "2"}, {"cm", "^", "-", "064", "*", "1", "/", "min", "^", "00"}, {"mol", "^", "12", "*", "K"},
	} {
		want, f := x.Parse(strings.Join(pieces, ""))
		if f != (api.Fault{}) {
			t.Fatalf("%q: %v", pieces, f)
		}
		for _, n := range []int{1, 2, 3, 7} {
			blanks := strings.Repeat(" ", n)
			wantText(t, x, strings.Join(pieces, blanks), want)
			wantText(t, x, blanks+strings.Join(pieces, blanks)+blanks, want)
			wantText(t, x, blanks+strings.Join(pieces, ""), want)
			wantText(t, x, strings.Join(pieces, "")+blanks, want)
			for i := range pieces {
				wantText(t, x, strings.Join(pieces[:i], "")+blanks+strings.Join(pieces[i:], ""), want)
			}
		}
	}
}

// N is kg*m/s^2, and the others of the first row are what the table says.
func TestUnitsAreTheirTexts(t *testing.T) {
	x := unit.New()
	for name, s := range map[string]string{
		"N": "kg*m/s^2", "Hz": "1/s", "Pa": "N/m^2", "J": "N*m", "W": "J/s", "C": "A*s", "V": "W/A", "L": "m^3/1*km/km*cm/cm*g/kg", "kg": "g*km/m", "h": "min^2/s", "km": "cm^2/mm*m/um*cm/m", "kN": "Mg*m/s^2", "mL": "cm^3", "kL": "m^3", "MPa": "N/mm^2",
	} {
		want, ok := x.Of(name)
		if !ok {
			t.Fatalf("%q is not there", name)
		}
		wantText(t, x, s, want)
	}
}

func TestLongTexts(t *testing.T) {
	x := unit.New()
	most := "m" + strings.Repeat("*m", 99)
	wantText(t, x, most, of("1", api.Dim{100}))
	wantText(t, x, most+" ", of("1", api.Dim{100}))
	wantText(t, x, strings.Repeat(" ", mostBytes-1)+"m", of("1", api.Dim{1}))
	wantText(t, x, "m"+strings.Repeat(" ", mostBytes-1), of("1", api.Dim{1}))
	wantText(t, x, "m^2"+strings.Repeat("*m^2", 49)+" ", of("1", api.Dim{100}))
	wantText(t, x, "m^"+strings.Repeat(" ", mostBytes-3)+"9", of("1", api.Dim{9}))
	wantText(t, x, "1"+strings.Repeat("/1", 99)+" ", of("1", api.Dim{}))
	wantText(t, x, "1"+strings.Repeat("/m", 99), of("1", api.Dim{-99}))
	wantText(t, x, "1"+strings.Repeat("*Mm/Mm", 33), of("1", api.Dim{}))
}

// symbols are the bytes of which every short text is asked: names of the table, names that were taught, such as there are not, digits, signs, blanks, and what is in no text.
const symbols = "mkbdq12 *^/-_#"

// Every text of up to five of the symbols, held against a reading byte by byte.
func TestEveryShortText(t *testing.T) {
	x, known := taught(t)
	good := 0
	var ask func(s string, left int)
	ask = func(s string, left int) {
		check(t, x, known, s)
		if _, f := x.Parse(s); f == (api.Fault{}) {
			good++
		}
		if left == 0 || t.Failed() {
			return
		}
		for _, c := range symbols {
			ask(s+string(c), left-1)
		}
	}
	ask("", 5)
	if good < 1000 {
		t.Errorf("only %d texts are such", good)
	}
}

// parts are what longer texts are put together of.
func parts() []string {
	return []string{"m", "min", "b", "B", "d", "e", "f", "mb", "Mm", "q", sixteen, seventeen, "1", "12", "0", "3", "64", "065", "999", "1234", "*", "/", "^", "^-", "-", " ", "  ", "_", "\t", "\xff", "m^2", "*m", "/b^2", "*d", "^064"}
}

// Every text of up to three parts.
func TestEveryTextOfFewParts(t *testing.T) {
	x, known := taught(t)
	for _, a := range parts() {
		check(t, x, known, a)
		for _, b := range parts() {
			check(t, x, known, a+b)
			for _, c := range parts() {
				check(t, x, known, a+b+c)
			}
		}
	}
}

// randomPiece tells a piece, with or without an exponent, blanks here and there.
func randomPiece(r *rand.Rand, names []string) string {
	blank := func() string { return strings.Repeat(" ", max(0, r.Intn(6)-4)) }
	if r.Intn(8) == 0 {
		return blank() + "1" + blank()
	}
	out := blank() + names[r.Intn(len(names))] + blank()
	if r.Intn(2) == 0 {
		return out
	}
	n := []int{4, 20, 64, 66, 999}[r.Intn(5)]
	digits := strconv.Itoa(r.Intn(n + 1))
	digits = strings.Repeat("0", r.Intn(4-len(digits))) + digits
	return out + "^" + blank() + []string{"", "-" + blank()}[r.Intn(2)] + digits + blank()
}

// Texts of any pieces, as they are and with a byte put in, left out or changed.
func TestRandomTexts(t *testing.T) {
	x, known := taught(t)
	names := append(tableNames(), "b", "B", "d", "e", "f", "mb", sixteen, "m", "s", "kg")
	r := rand.New(rand.NewSource(12))
	good := 0
	for range 30000 {
		s := randomPiece(r, names)
		for range r.Intn(7) {
			s += []string{"*", "/"}[r.Intn(2)] + randomPiece(r, names)
		}
		check(t, x, known, s)
		if _, f := x.Parse(s); f == (api.Fault{}) {
			good++
		}
		at := r.Intn(len(s))
		c := "mbq019 *^/-_#\t\n\x00\x80\xff+.(Ω"
		with := c[r.Intn(len(c)):][:1]
		check(t, x, known, s[:at]+with+s[at:])
		check(t, x, known, s[:at]+s[at+1:])
		check(t, x, known, s[:at]+with+s[at+1:])
		check(t, x, known, s[:at])
	}
	if good < 5000 {
		t.Errorf("only %d texts are such", good)
	}
}
