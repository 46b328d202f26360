package unit_test

import (
	"math"
	"strings"
	"testing"

	"steelyard/api"
	"steelyard/unit"
)

// wantDefine asks for Define's answer, and, unless it is OK, that what was there is there as it was.
func wantDefine(t *testing.T, x *unit.Table, name string, u api.Unit, want api.Errno) {
	t.Helper()
	before, was := x.Of(name)
	count := len(x.Names())
	if e := x.Define(name, u); e != want {
		t.Errorf("Define(%.40q, %.200s) = %d, want %d", name, told(u), e, want)
		return
	}
	if want == api.OK {
		wantUnit(t, x, name, u)
		count++
	} else if after, is := x.Of(name); is != was || !alike(after, before) {
		t.Errorf("Define(%.40q, %.200s) left %s, %v", name, told(u), told(after), is)
	}
	if n := len(x.Names()); n != count {
		t.Errorf("Define(%.40q, %.200s) left %d names, not %d", name, told(u), n, count)
	}
}

// rightNames tells names that may be, and are not there.
func rightNames() []string {
	return []string{
		"a", "z", "B", "Z", "nmi", "q", "x9", "a_", "a__", "a_1", "Z_9z", "in", "unit", "source", "cov", "let", "output", "kmin", "kh", "k", "M", "u", "c", "KG", "dm", "mmm", "m_", "m1", "kg2", "e5",
		sixteen, "A234567890123456", "z_______________", strings.Repeat("m", 16),
	}
}

// wrongNames tells what is no name.
func wrongNames() []string {
	return []string{
		"", " ", "_", "0", "1", "9a", "_a", "__", " a", "a ", "a b", "a-b", "a.b", "a*b", "a/b", "a^b", "a^2", "-a", "+", "*", "a\n", "\na", "a\t", "a\x00", "\x00", "\x00a", "\x7f", "\x80", "\xff", "a\x80", "a\xff",
		"µ", "µm", "é", "aé", "Ω", "\u00e9", "\u0430", "m²", "٣", "a٣", "ª", "ℓ", "１", "ａ", "%", "a%", "[a]", "(a)", "a;", "#", "\xc3", "a\xc3",
		seventeen, "A2345678901234567", sixteen + " ", sixteen + "_", " " + sixteen, strings.Repeat("m", 17), strings.Repeat("m", 256+1), strings.Repeat("a", 1<<16), strings.Repeat("a", 1<<16+1), strings.Repeat("\xff", 1<<16),
	}
}

// wrongFactors tells factors that may not be, that are 0, and that are below 0.
func wrongFactors() []api.Rat {
	one, two := api.Nat{1}, api.Nat{2}
	return []api.Rat{
		form(frac("0")), form(frac("-1")), form(frac("-1/2")), form(frac("-1852")), form(frac("-1/1000000000000")), form(twoTo(mostBits-1, 0).Neg(twoTo(mostBits-1, 0))),
		{},
		{Top: api.Int{Neg: true}},
		{Top: api.Int{Mag: one}},
		{Top: api.Int{Mag: one}, Bottom: api.Nat{}},
		{Top: api.Int{Mag: one}, Bottom: api.Nat{0}},
		{Top: api.Int{Mag: one}, Bottom: api.Nat{0, 0, 0}},
		{Bottom: api.Nat{0}},
		{Top: api.Int{Neg: true}, Bottom: one},
		{Top: api.Int{Mag: api.Nat{0}}, Bottom: one},
		{Bottom: two},
		{Bottom: api.Nat{0, 1}},
		{Top: api.Int{Mag: api.Nat{1, 0}}, Bottom: one},
		{Top: api.Int{Mag: api.Nat{3, 0}}, Bottom: two},
		{Top: api.Int{Mag: api.Nat{3, 0, 0}}, Bottom: one},
		{Top: api.Int{Mag: api.Nat{3}}, Bottom: api.Nat{2, 0}},
		{Top: api.Int{Mag: one}, Bottom: api.Nat{1, 0}},
		{Top: api.Int{Mag: two}, Bottom: two},
		{Top: api.Int{Mag: two}, Bottom: api.Nat{4}},
		{Top: api.Int{Neg: true, Mag: api.Nat{9}}, Bottom: api.Nat{6}},
		{Top: api.Int{Mag: long(30, 5)}, Bottom: long(40, 5)},
		{Top: api.Int{Mag: long(api.MaxLimbs+1, full)}, Bottom: one},
		{Top: api.Int{Mag: append(long(api.MaxLimbs, 0), 1)}, Bottom: one},
		{Top: api.Int{Mag: one}, Bottom: append(long(api.MaxLimbs, 0), 1)},
		{Top: api.Int{Mag: append(long(api.MaxLimbs, 0), 1)}, Bottom: long(api.MaxLimbs+1, full)},
		{Top: api.Int{Mag: append(long(api.MaxLimbs, full), 0)}, Bottom: one},
		{Top: api.Int{Mag: one}, Bottom: append(long(api.MaxLimbs, full), 0)},
		{Top: api.Int{Neg: true, Mag: long(1<<16, 0)}, Bottom: long(1<<16, 0)},
		{Top: api.Int{Mag: long(1<<12, full)}, Bottom: append(long(1<<12, 0), 1)},
	}
}

// wrongDims tells dimensions that may not be, each place's exponent alone the reason, and all together.
func wrongDims() []api.Dim {
	var dims []api.Dim
	for _, exponent := range []int{api.MaxExp + 1, -api.MaxExp - 1, 256, -256, 1 << 16, 1 << 32, -1 << 32, math.MaxInt, math.MinInt} {
		dims = append(dims, all(exponent))
		for place := range api.Dims {
			dims = append(dims, alone(place, exponent))
		}
	}
	return dims
}

// wrongUnits tells units that may not be: for the factor's sake, for the dimension's, for both.
func wrongUnits() []api.Unit {
	var units []api.Unit
	for _, factor := range wrongFactors() {
		units = append(units, api.Unit{Factor: factor, Dim: api.Dim{1}}, api.Unit{Factor: factor}, api.Unit{Factor: factor, Dim: all(api.MaxExp + 1)})
	}
	for _, d := range wrongDims() {
		units = append(units, api.Unit{Factor: form(frac("1")), Dim: d}, api.Unit{Factor: form(frac("3/7")), Dim: d})
	}
	return units
}

// rightUnits tells units that may be, those that are as great as may be among them.
func rightUnits() []api.Unit {
	greatest := twoTo(mostBits, -1)
	units := []api.Unit{
		of("1", api.Dim{}), of("1852", api.Dim{1}), of("1/7", api.Dim{0, 1}), of("22/7", api.Dim{1, 1, -2}), of("4294967295/4294967296", api.Dim{1, 2, 3, 4, 5, 6, 7}),
		measure{greatest, api.Dim{}}.unit(), measure{inverse(greatest), api.Dim{}}.unit(), measure{twoTo(mostBits-1, 0), all(api.MaxExp)}.unit(), measure{inverse(twoTo(mostBits-1, 0)), all(-api.MaxExp)}.unit(),
		measure{greatest.Quo(greatest, twoTo(mostBits, -2)), api.Dim{1}}.unit(),
	}
	for place := range api.Dims {
		units = append(units, of("1", alone(place, api.MaxExp)), of("5/3", alone(place, -api.MaxExp)))
	}
	return append(units, of("1", all(api.MaxExp)), of("1", all(-api.MaxExp)))
}

func TestDefine(t *testing.T) {
	x := unit.New()
	wantDefine(t, x, "nmi", of("1852", api.Dim{1}), api.OK)
	wantDefine(t, x, "inch", of("127/5000", api.Dim{1}), api.OK)
	wantUnit(t, x, "nmi", of("1852", api.Dim{1}))
	wantDefine(t, x, "nmi", of("1852", api.Dim{1}), api.ErrTwice)
	wantDefine(t, x, "nmi", of("1853", api.Dim{2}), api.ErrTwice)
	wantUnit(t, x, "nmi", of("1852", api.Dim{1}))
}

func TestDefineOfRightNames(t *testing.T) {
	x := unit.New()
	for i, name := range rightNames() {
		u := rightUnits()[i%len(rightUnits())]
		wantNone(t, x, name)
		wantDefine(t, x, name, u, api.OK)
		wantDefine(t, x, name, u, api.ErrTwice)
	}
	for i, name := range rightNames() {
		wantUnit(t, x, name, rightUnits()[i%len(rightUnits())])
	}
}

func TestDefineOfWrongNames(t *testing.T) {
	x := unit.New()
	for _, name := range wrongNames() {
		wantDefine(t, x, name, of("1852", api.Dim{1}), api.ErrArg)
		wantNone(t, x, name)
	}
}

// Every byte at each place of a name: the first is a letter, the others letters, digits or _.
func TestEveryByteOfNames(t *testing.T) {
	u := of("7", api.Dim{0, 0, 1})
	for b := range 256 {
		c := string([]byte{byte(b)})
		x := unit.New()
		want := api.ErrArg
		if letter(b) {
			want = api.OK
		}
		wantDefine(t, x, c+"xy", u, want)
		if !x.Has(c) {
			wantDefine(t, x, c, u, want)
		}
		if figure(b) || c == "_" {
			want = api.OK
		}
		for _, name := range []string{"x" + c, "x" + c + "y", "xy" + c, sixteen[:15] + c, sixteen[:8] + c + sixteen[9:]} {
			if !x.Has(name) {
				wantDefine(t, x, name, u, want)
			}
		}
		wantDefine(t, x, sixteen+c, u, api.ErrArg)
	}
}

// Names of every length, as many bytes as may be and more.
func TestEveryLengthOfNames(t *testing.T) {
	x := unit.New()
	for n := range 600 {
		want := api.ErrArg
		if n > 0 && n <= api.MaxName {
			want = api.OK
		}
		wantDefine(t, x, strings.Repeat("q", n), of("1", api.Dim{n % 200}), want)
	}
}

func TestDefineOfRightUnits(t *testing.T) {
	for _, u := range rightUnits() {
		wantDefine(t, unit.New(), "q", u, api.OK)
	}
}

func TestDefineOfWrongUnits(t *testing.T) {
	x := unit.New()
	for _, u := range wrongUnits() {
		if mayBe(u) {
			t.Fatalf("%s may be", told(u))
		}
		wantDefine(t, x, "q", u, api.ErrArg)
		wantNone(t, x, "q")
	}
	wantDefine(t, x, "q", of("1", api.Dim{}), api.OK)
}

// At each place just as much as may be, and one more, either way.
func TestDefineAtTheEndsOfDimensions(t *testing.T) {
	for place := range api.Dims {
		for _, c := range []struct {
			exponent int
			want     api.Errno
		}{{api.MaxExp, api.OK}, {-api.MaxExp, api.OK}, {api.MaxExp + 1, api.ErrArg}, {-api.MaxExp - 1, api.ErrArg}} {
			wantDefine(t, unit.New(), "q", of("5", alone(place, c.exponent)), c.want)
			d := all(-api.MaxExp)
			d[place] = c.exponent
			wantDefine(t, unit.New(), "q", of("1/5", d), c.want)
		}
	}
}

// What is in the table, with a prefix or without, and what was defined.
func TestDefineOfNamesThatAreThere(t *testing.T) {
	x := unit.New()
	for name, m := range table() {
		for _, u := range []api.Unit{m.unit(), of("1852", api.Dim{1}), of("1", api.Dim{})} {
			wantDefine(t, x, name, u, api.ErrTwice)
			wantDefine(t, unit.New(), name, u, api.ErrTwice)
		}
		wantUnit(t, x, name, m.unit())
	}
}

// Both reasons at once: the unit may not be, and its name is there.
func TestWrongIsToldAheadOfTwice(t *testing.T) {
	x := unit.New()
	wantDefine(t, x, "q", of("5", api.Dim{1}), api.OK)
	for _, u := range wrongUnits() {
		for _, name := range []string{"m", "kg", "min", "ucd", "q"} {
			wantDefine(t, x, name, u, api.ErrArg)
		}
	}
	wantUnit(t, x, "q", of("5", api.Dim{1}))
	wantUnit(t, x, "m", of("1", api.Dim{1}))
}

// A unit that was taught has no prefixes, and makes none of other names.
func TestWhatWasTaughtIsThatNameAlone(t *testing.T) {
	x := unit.New()
	wantDefine(t, x, "q", of("5", api.Dim{1}), api.OK)
	for prefix := range prefixes() {
		wantNone(t, x, prefix+"q")
		wantFault(t, x, prefix+"q", api.ErrUnit, 0)
	}
	wantNone(t, x, "Q")
	wantDefine(t, x, "kq", of("6", api.Dim{2}), api.OK)
	wantUnit(t, x, "q", of("5", api.Dim{1}))
	wantUnit(t, x, "kq", of("6", api.Dim{2}))
	wantDefine(t, x, "kmin", of("7", api.Dim{3}), api.OK)
	wantUnit(t, x, "min", of("60", api.Dim{0, 0, 1}))
}

func TestWhatWasTaughtIsRead(t *testing.T) {
	x := unit.New()
	wantFault(t, x, "nmi/h", api.ErrUnit, 0)
	wantDefine(t, x, "nmi", of("1852", api.Dim{1}), api.OK)
	wantText(t, x, "nmi/h", of("463/900", api.Dim{1, 0, -1}))
	wantText(t, x, "1/nmi^2", of("1/3429904", api.Dim{-2}))
	wantDefine(t, x, "kn", of("463/900", api.Dim{1, 0, -1}), api.OK)
	wantText(t, x, "kn*h", of("1852", api.Dim{1}))
	wantText(t, x, "kn * h / nmi", of("1", api.Dim{}))
}

// What one table is taught no other one knows, whether it was made before or afterwards, and two have each its own unit of one name.
func TestTablesAreTheirOwn(t *testing.T) {
	before, asked, x := unit.New(), unit.New(), unit.New()
	asked.Has("m")
	wantDefine(t, x, "q", of("5", api.Dim{1}), api.OK)
	for _, other := range []*unit.Table{before, asked, unit.New()} {
		wantNone(t, other, "q")
		wantFault(t, other, "q", api.ErrUnit, 0)
		wantDefine(t, other, "q", of("6", api.Dim{2}), api.OK)
		wantUnit(t, other, "q", of("6", api.Dim{2}))
		wantUnit(t, x, "q", of("5", api.Dim{1}))
	}
	wantNone(t, unit.New(), "q")
}

func TestManyUnits(t *testing.T) {
	x := unit.New()
	name := func(i int) string {
		return "q" + strings.Repeat("_", i%3) + string([]byte{'a' + byte(i/26%26), 'a' + byte(i%26)}) + strings.Repeat("0", i/676)
	}
	for i := range 5000 {
		if e := x.Define(name(i), api.Unit{Factor: form(twoTo(uint(i%2048), 0)), Dim: api.Dim{i % 201}}); e != api.OK {
			t.Fatalf("Define(%q) = %d", name(i), e)
		}
	}
	for i := range 5000 {
		wantUnit(t, x, name(i), api.Unit{Factor: form(twoTo(uint(i%2048), 0)), Dim: api.Dim{i % 201}})
	}
	if n := len(x.Names()); n != 5092 {
		t.Errorf("%d names", n)
	}
}
