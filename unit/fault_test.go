package unit_test

import (
	"math/big"
	"strconv"
	"strings"
	"testing"

	"steelyard/api"
	"steelyard/unit"
)

// Each text's end is told, if something is missing there.
func TestMissing(t *testing.T) {
	x := unit.New()
	for _, s := range []string{"", " ", "  ", strings.Repeat(" ", mostBytes), "m*", "m/", "m* ", "m *  ", "1*", "1/", "1/ ", "m^", "m^ ", "m ^", "m^-", "m^- ", "m ^  -   ", "m^2*", "m^2 / ", "m*s*", "m*s^", "m/s^-", "km/h*1/"} {
		wantFault(t, x, s, api.ErrSyntax, len(s))
	}
}

// A bar stands ahead of the byte at which there is no unit's text any more.
func TestSyntax(t *testing.T) {
	x := unit.New()
	for _, marked := range []string{
		"|*m", "|/m", "|^2", "|-m", "|-1", "|+m", "|_m", "|2", "|0", "|9", "|2*m", "|0*m", "|_", "|(m)", "|[m]", "|.", " |*m", "  |2", "|\tm", "|\nm", "|\x00", "|\xff", "|µm", "|Ω", "|\u00a0m",
		"m |m", "kg |m/s^2", "m |1", "m |2", "1 |m", "1|m", "1|2", "1|0", "1|1", "1 |1", "1|^2", "1 |^2", "1|^", "1|_", "1|.", "1|e3", "1*1|0", "m*1|^2",
		"m*|*s", "m/|/s", "m*|/s", "m/|*s", "m* |*s", "m*|^2", "m/|-1", "m*|2", "m/|0", "m*|9s", "m*|_s", "m*|+s", "m*1|2",
		"m^|x", "m^|m", "m^|*s", "m^|^2", "m^|+2", "m^|_", "m^|.", "m^|/", "m^ |x", "m^-|-2", "m^- |-2", "m^-|+2", "m^-|x", "m^-|*", "m^-|^", "m^- |s", "m^|(2)",
		"m^2|^3", "m^2 |^3", "m^2|x", "m^2|_", "m^2|m", "m^2 |m", "m^2|-", "m^2|+", "m^2|.5", "m^2|\t", "m^2 |1", "m^2 |2", "m^1 |0", "m^01 |2", "m^0 |00", "m^-2|-", "m^-2 |s",
		"m|\t", "m|\n", "m|\r", "m|\v", "m|\x00", "m|\x7f", "m|\x80", "m|\xff", "m|\u00a0", "m|²", "m|µ", "m|#", "m|+s", "m|-s", "m|.s", "m|,s", "m|;", "m|=", "m|:", "m|(s)", "m|)", "m|]", "m|·s", "m|%",
		"m*|\ts", "m*|\xff", "m/|é", "m^|\t2", "m^|\xff", "m^-|\n2", "m^2|\t", "m^12|\x80", "1|\t", "1|\xff", "1/|\x00", "m |\ts", "m |\n",
	} {
		s := strings.Replace(marked, "|", "", 1)
		wantFault(t, x, s, api.ErrSyntax, strings.Index(marked, "|"))
	}
}

// Every byte where a piece may begin, behind a name and a blank, behind 1, "^", "-", digits and a sign.
func TestEveryByteAtEachPlace(t *testing.T) {
	x, known := taught(t)
	for b := range 256 {
		c := string([]byte{byte(b)})
		for _, s := range []string{"|", "|m", " |", "m|", "m|s", "m |", "m |s", "1|", "1 |", "1|m", "m*|", "m*|m", "m/|2", "m/ |1", "m^|", "m^|2", "m^ |2", "m^-|", "m^-|2", "m^2|", "m^2|2", "m^2 |", "m^22|", "m^021|3", "m^123|", "km^64|", "km^65|", "b^3|", "b*b*b|", "b*b*b |", "q|", "q |", sixteen + "|", seventeen + "|", sixteen[:15] + "|"} {
			check(t, x, known, strings.Replace(s, "|", c, 1))
			check(t, x, known, strings.Replace(s, "|", c+"*m", 1))
		}
	}
}

// At the fourth digit, ahead of what the exponent says, and of what stands behind it.
func TestFourDigits(t *testing.T) {
	x := unit.New()
	for _, digits := range []string{"0000", "0001", "0064", "0065", "1000", "1234", "9999", "00000", "6400", "12345", strings.Repeat("0", 150)} {
		wantFault(t, x, "m^"+digits, api.ErrSyntax, 5)
		wantFault(t, x, "m^-"+digits, api.ErrSyntax, 6)
		wantFault(t, x, "m ^ - "+digits+"#", api.ErrSyntax, 9)
		wantFault(t, x, "s/km^"+digits+"*q", api.ErrSyntax, 8)
		wantFault(t, x, "1*s^"+digits+" *", api.ErrSyntax, 7)
	}
	wantText(t, x, "m^064", of("1", api.Dim{64}))
}

// At the first byte beyond, ahead of what the name says and of what stands behind it.
func TestLongNames(t *testing.T) {
	x := unit.New()
	for _, name := range []string{seventeen, sixteen + "Q", sixteen + "7", sixteen + "_", strings.Repeat("m", 17), strings.Repeat("m", 150), "m" + strings.Repeat("0", 40), "Z" + strings.Repeat("_", 99)} {
		wantFault(t, x, name, api.ErrSyntax, 16)
		wantFault(t, x, "  "+name, api.ErrSyntax, 18)
		wantFault(t, x, "m*"+name+"^99", api.ErrSyntax, 18)
		wantFault(t, x, "1 / "+name+"#", api.ErrSyntax, 20)
		wantFault(t, x, "m "+name, api.ErrSyntax, 2)
	}
	for _, name := range []string{sixteen, strings.Repeat("m", 16)} {
		wantFault(t, x, name, api.ErrUnit, 0)
		wantFault(t, x, name+"#", api.ErrUnit, 0)
		wantFault(t, x, name+" q", api.ErrUnit, 0)
	}
	y, known := taught(t)
	wantText(t, y, sixteen, known[sixteen].unit())
	wantFault(t, y, seventeen, api.ErrSyntax, 16)
	wantFault(t, y, sixteen+"*"+seventeen, api.ErrSyntax, 33)
}

// Where the name begins, ahead of what stands behind it.
func TestNoSuchUnit(t *testing.T) {
	x := unit.New()
	for _, name := range []string{"q", "Q", "kmin", "kh", "kkg", "dm", "k", "M", "u", "c", "KG", "m2", "m_", "mm2", "m1", "s0", "x_1", "E5", "e", "kq", "metre", "mmm", sixteen} {
		for _, behind := range []string{"", " ", "^", "^2", "^-", "^65", "^1234", "^x", "#", " #", " m", "*", "*m", "*q", "/*", "\t", "\xff", "-", "."} {
			wantFault(t, x, name+behind, api.ErrUnit, 0)
			wantFault(t, x, " "+name+behind, api.ErrUnit, 1)
			wantFault(t, x, "m*"+name+behind, api.ErrUnit, 2)
			wantFault(t, x, "m^2 /  "+name+behind, api.ErrUnit, 7)
		}
	}
}

func TestLimitOfBytes(t *testing.T) {
	x := unit.New()
	fits := "m" + strings.Repeat("*m", 99) + " "
	wantText(t, x, fits, of("1", api.Dim{100}))
	for _, s := range []string{fits + " ", fits + "*", fits + "#", strings.Repeat(" ", 201), strings.Repeat(" ", 200) + "m", "#" + fits, "q" + fits, strings.Repeat("q", 201), strings.Repeat("\xff", 201), "m^65" + strings.Repeat(" ", 197), strings.Repeat("1", 256), strings.Repeat("m*", 1<<15), strings.Repeat("\x00", 1<<16), strings.Repeat(" ", 1<<20)} {
		wantFault(t, x, s, api.ErrLimit, 0)
	}
	// With just as many bytes it is what is read that counts.
	wantFault(t, x, strings.Repeat(" ", 200), api.ErrSyntax, 200)
	wantFault(t, x, strings.Repeat("q", 200), api.ErrSyntax, 16)
	wantFault(t, x, strings.Repeat(" ", 199)+"q", api.ErrUnit, 199)
	wantFault(t, x, strings.Repeat(" ", 199)+"#", api.ErrSyntax, 199)
	wantFault(t, x, "m^65"+strings.Repeat(" ", 196), api.ErrLimit, 0)
	wantFault(t, x, strings.Repeat(" ", 196)+"m^65", api.ErrLimit, 196)
	wantFault(t, x, strings.Repeat(" ", 198)+"m^", api.ErrSyntax, 200)
}

// An exponent above api.MaxPower, or below its negative, as soon as it was read, whatever the factor and the dimension.
func TestLimitOfExponents(t *testing.T) {
	x, _ := taught(t)
	for _, n := range []int{65, 66, 99, 100, 128, 129, 200, 256, 320, 512, 999} {
		digits := strconv.Itoa(n)
		for _, exponent := range []string{digits, "-" + digits, " - " + digits} {
			for _, name := range []string{"m", "km", "min", "b"} {
				for _, behind := range []string{"", " ", "#", " #", " 0", "x", "^", "*", "*q", "/" + name, "\xff", "/" + name + "^" + digits} {
					wantFault(t, x, name+"^"+exponent+behind, api.ErrLimit, 0)
					wantFault(t, x, "1/ "+name+" ^"+exponent+behind, api.ErrLimit, 3)
					wantFault(t, x, "s*"+name+"^"+exponent+behind, api.ErrLimit, 2)
				}
			}
		}
	}
	if e := x.Define("one", of("1", api.Dim{})); e != api.OK {
		t.Fatal(e)
	}
	wantText(t, x, "one^64", of("1", api.Dim{}))
	wantText(t, x, "one^-64", of("1", api.Dim{}))
	wantFault(t, x, "one^65", api.ErrLimit, 0)
	wantFault(t, x, "one*one^-65", api.ErrLimit, 4)
}

// A piece's power may not be, for the factor's sake or the dimension's, though one divides by it, or a later piece would bring it back.
func TestPowersThatMayNotBe(t *testing.T) {
	x, known := taught(t)
	for _, power := range []string{"b^3", "b^-3", "B^3", "B^-3", "B^64", "d^3", "d^-3", "d^64", "e^2", "e^-2", "f^2", "f^-2", "mb^2", "mb^-2", "mb^064"} {
		for _, behind := range []string{"", " ", "*m", "/" + power, "*" + power, "#", "x", " q", "*q", "^2", "*"} {
			wantFault(t, x, power+behind, api.ErrLimit, 0)
			wantFault(t, x, " m * "+power+behind, api.ErrLimit, 5)
			wantFault(t, x, "1/"+power+behind, api.ErrLimit, 2)
		}
	}
	for _, power := range []string{"b^2", "b^-2", "B^2", "B^-2", "d^2", "d^-2", "e^0", "f^-1", "mb^1", "mb^-1", "mb^0", "b^0"} {
		for _, s := range []string{power, "1/" + power, power + "/" + power, "s*" + power} {
			if _, f := reading(known, s); f != (api.Fault{}) {
				t.Fatalf("%q: %v", s, f)
			}
			check(t, x, known, s)
		}
	}
}

// A product may not be, at the piece that makes it so, though a later one would bring it back.
func TestProductsThatMayNotBe(t *testing.T) {
	x, known := taught(t)
	for _, marked := range []string{
		"b*b*|b", "b*b*|b/b", "b^2*|b", "b^2*|b*B", "b*b*|b*B", "B*B*|B", "B^2/|b", "B/b/|b", "1/b/b/|b", "b/B/|B", "b^2/|B*B", "b^2 * |b^1 / b", "B^2*|b^-1*b",
		"d*d*|d", "d*d*|d/d", "d^2*|d", "d^2/|d^-1", "1/d/d/|d", "d^2*m^20*|m", "d^2*m^20*|m/m", "1/d^2/m^20/|m", "d^-2*m^-020*|m^-1", "e*|e", "e*|e/e", "1/e/|e",
		"e/|m", "e/|K^1", "e*|cd^-1", "f*|f", "f*|f/f", "f*cd^50*|cd", "f/|f^-1", "mb*|min", "mb*|min/min", "mb*|mb", "mb/s*|min", "mb^-1/|km", "mb*|km", "mb*|km/km",
		"m^64*m^64*m^64*|m^64", "m^64*m^64*m^64*m^8*|m", "1/m^64/m^64/m^64/m^8/|m", "m^64*m^64*m^64*m^8*|m/m", "Mm^64*|Mm^64", "Mm^64*|Mm^64/Mm^64", "um^64*|um^64", "Mm^64/|um^64", "1/Mm^64/|Mm^64", "Mm^64*Mg^64*|MK^64",
	} {
		s := strings.Replace(marked, "|", "", 1)
		at := strings.Index(marked, "|")
		wantFault(t, x, s, api.ErrLimit, at)
		wantFault(t, x, "  "+s, api.ErrLimit, at+2)
		check(t, x, known, s)
	}
	for _, s := range []string{"e", "1/e", "e^-1", "1/e^-1", "b*b/b*b", "b*B*b*B*b*B", "b/b/b", "b^2*B*b", "b^2/b*b", "d*d/d*d", "d^2*m^20", "d^2*m^20/m*m", "e/e", "e*m^64*m^64", "f*cd^50", "f/cd^-50", "mb/s", "mb/mb", "mb/mb*mb", "m^64*m^64*m^64*m^8", "m^64*m^64*m^64*m^8/m*m", "Mm^64/Mm^64", "Mm^64*um^64"} {
		if _, f := reading(known, s); f != (api.Fault{}) {
			t.Fatalf("%q: %v", s, f)
		}
		check(t, x, known, s)
	}
}

// At just as many limbs as a number may have, and one more, at the top and at the bottom.
func TestLimitOfLimbs(t *testing.T) {
	x := unit.New()
	known := map[string]measure{
		"w":  {twoTo(32, 0), api.Dim{1}},
		"v":  {twoTo(32, -1), api.Dim{0, 1}},
		"t":  {twoTo(mostBits-1, 0), api.Dim{}},
		"hi": {twoTo(mostBits-1, 1), api.Dim{}},
		"r":  {frac("2"), api.Dim{}},
		"R":  {frac("1/2"), api.Dim{}},
		"p":  {frac("3/2"), api.Dim{}},
		"o":  {new(big.Rat).Quo(twoTo(mostBits, -1), twoTo(mostBits-1, 0)), api.Dim{}},
	}
	for name, m := range known {
		if e := x.Define(name, m.unit()); e != api.OK {
			t.Fatalf("Define(%q) = %d", name, e)
		}
	}
	for _, s := range []string{"w^63", "1/w^63", "w^-63", "v^64", "v^-64", "1/v^64", "t", "1/t", "t*R", "R*t", "t/r", "t/t", "t*R*r", "t^-1*r", "1/t*r", "o", "1/o", "o/o", "o*r", "o*r*r*r", "1/o*R", "hi", "1/hi", "w^60*w^3", "v^32*v^32", "w^63*r^31", "w^63*R^64", "hi/t", "t/hi"} {
		if _, f := reading(known, s); f != (api.Fault{}) {
			t.Fatalf("%q: %v", s, f)
		}
		check(t, x, known, s)
	}
	for s, at := range map[string]int{
		"w^64": 0, "w^-64": 0, "1/w^64": 2, "w^63*w": 5, "w^63*w/w": 5, "1/w^63/w": 7, "v^64*v": 5, "v^64*r": 5, "t*r": 2, "r*t": 2, "t*r*R": 2, "1/t/r": 4, "1/t*R": 4, "t^-1*R": 5, "t^2": 0, "t*t": 2, "o/r": 2, "r^-1*o": 5, "1/o*r": 4, "o*p": 2, "hi*p": 3, "hi*r": 3, "1/hi/r": 5, "p/hi^-1": 2, "w^63*r^32": 5, "w^63*r^31*r": 10, "w^63*r^31*t": 10,
	} {
		wantFault(t, x, s, api.ErrLimit, at)
		check(t, x, known, s)
	}
}

// Which of two faults comes first hangs on what is read first.
func TestTheFirstFaultIsTold(t *testing.T) {
	x, _ := taught(t)
	for _, c := range []struct {
		s  string
		e  api.Errno
		at int
	}{
		{"q*#", api.ErrUnit, 0},
		{"#*q", api.ErrSyntax, 0},
		{"m^65*q", api.ErrLimit, 0},
		{"q*m^65", api.ErrUnit, 0},
		{"m^65#", api.ErrLimit, 0},
		{"m#^65", api.ErrSyntax, 1},
		{"m^#65", api.ErrSyntax, 2},
		{"m^6#5", api.ErrSyntax, 3},
		{"m^65^65", api.ErrLimit, 0},
		{"m^64^65", api.ErrSyntax, 4},
		{"q^65", api.ErrUnit, 0},
		{"q^#", api.ErrUnit, 0},
		{"m*q*", api.ErrUnit, 2},
		{"m**q", api.ErrSyntax, 2},
		{"q " + seventeen, api.ErrUnit, 0},
		{seventeen + "*q", api.ErrSyntax, 16},
		{"m^1234*q", api.ErrSyntax, 5},
		{"m^123 4", api.ErrLimit, 0},
		{"m^12 34", api.ErrSyntax, 5},
		{"m^65 q", api.ErrLimit, 0},
		{"m^64 q", api.ErrSyntax, 5},
		{"b*b*b#", api.ErrLimit, 4},
		{"b*b*b #", api.ErrLimit, 4},
		{"b*b*b q", api.ErrLimit, 4},
		{"b*b*b^#", api.ErrSyntax, 6},
		{"b*b*b^", api.ErrSyntax, 6},
		{"b*b*b^1234", api.ErrSyntax, 9},
		{"b*b*b^1#", api.ErrLimit, 4},
		{"b*b*q*b", api.ErrUnit, 4},
		{"b*b*b*q", api.ErrLimit, 4},
		{"b*b#*b", api.ErrSyntax, 3},
		{"b^3*b^-3", api.ErrLimit, 0},
		{"b^2*b*m^65", api.ErrLimit, 4},
		{"m^65*b^3", api.ErrLimit, 0},
		{"d*d*d*b^3", api.ErrLimit, 4},
		{"1 1*q", api.ErrSyntax, 2},
		{"1*q 1", api.ErrUnit, 2},
		{"1^65", api.ErrSyntax, 1},
	} {
		wantFault(t, x, c.s, c.e, c.at)
	}
	for _, s := range []string{"b*b*b^0", "b*b*b^-1", "b*b/b*b"} {
		if u, f := x.Parse(s); f != (api.Fault{}) || !mayBe(u) {
			t.Errorf("Parse(%q) = %s, %v", s, told(u), f)
		}
	}
}

// Of every text each beginning, and what stands behind that: whatever is cut, the call ends with a unit or with a fault, whose byte is in the text or at its end.
func TestEveryCallEnds(t *testing.T) {
	x, known := taught(t)
	for _, s := range []string{"  kg * m / s ^ - 2 * 1 / cd^064", "b*b/B^-2*d/d^2", sixteen + "*" + sixteen + "^-012", seventeen, "m^1234", "q^65#\xff", "\x00\x01\x02 é Ω \xff\xfe", "mmmmmmmmmmmmmmmmmmmmmmmmm", "111111", "^^^^", "----", "    ", "m*m*m*m*m*m^"} {
		for i := range len(s) + 1 {
			for _, part := range []string{s[:i], s[i:], s[i:] + s[:i]} {
				check(t, x, known, part)
				if u, f := x.Parse(part); f.E == api.OK && (f.At != 0 || !mayBe(u)) || f.E != api.OK && (f.At < 0 || f.At > len(part) || !alike(u, api.Unit{})) {
					t.Errorf("Parse(%q) = %s, %v", part, told(u), f)
				}
			}
		}
	}
}
