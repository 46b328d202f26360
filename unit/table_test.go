package unit_test

import (
	"slices"
	"strings"
	"testing"

	"steelyard/api"
	"steelyard/unit"
)

// Every name of the table, with and without each prefix, has its factor and its dimension, in a new table and in one that has been asked.
func TestTable(t *testing.T) {
	known := table()
	if len(known) != 92 {
		t.Fatalf("%d units", len(known))
	}
	x := unit.New()
	for name, m := range known {
		wantUnit(t, x, name, m.unit())
		wantUnit(t, unit.New(), name, m.unit())
	}
}

// Some units written out, each row and each prefix among them.
func TestUnitsWrittenOut(t *testing.T) {
	x := unit.New()
	for _, c := range []struct {
		name, factor string
		dim          api.Dim
	}{
		{"m", "1", api.Dim{1}},
		{"s", "1", api.Dim{0, 0, 1}},
		{"A", "1", api.Dim{0, 0, 0, 1}},
		{"K", "1", api.Dim{0, 0, 0, 0, 1}},
		{"mol", "1", api.Dim{0, 0, 0, 0, 0, 1}},
		{"cd", "1", api.Dim{0, 0, 0, 0, 0, 0, 1}},
		{"g", "1/1000", api.Dim{0, 1}},
		{"Hz", "1", api.Dim{0, 0, -1}},
		{"N", "1", api.Dim{1, 1, -2}},
		{"Pa", "1", api.Dim{-1, 1, -2}},
		{"J", "1", api.Dim{2, 1, -2}},
		{"W", "1", api.Dim{2, 1, -3}},
		{"C", "1", api.Dim{0, 0, 1, 1}},
		{"V", "1", api.Dim{2, 1, -3, -1}},
		{"L", "1/1000", api.Dim{3}},
		{"min", "60", api.Dim{0, 0, 1}},
		{"h", "3600", api.Dim{0, 0, 1}},
		{"kg", "1", api.Dim{0, 1}},
		{"Mg", "1000", api.Dim{0, 1}},
		{"mg", "1/1000000", api.Dim{0, 1}},
		{"ug", "1/1000000000", api.Dim{0, 1}},
		{"cg", "1/100000", api.Dim{0, 1}},
		{"km", "1000", api.Dim{1}},
		{"Mm", "1000000", api.Dim{1}},
		{"mm", "1/1000", api.Dim{1}},
		{"um", "1/1000000", api.Dim{1}},
		{"cm", "1/100", api.Dim{1}},
		{"kL", "1", api.Dim{3}},
		{"ML", "1000", api.Dim{3}},
		{"mL", "1/1000000", api.Dim{3}},
		{"uL", "1/1000000000", api.Dim{3}},
		{"cL", "1/100000", api.Dim{3}},
		{"mmol", "1/1000", api.Dim{0, 0, 0, 0, 0, 1}},
		{"ccd", "1/100", api.Dim{0, 0, 0, 0, 0, 0, 1}},
		{"mcd", "1/1000", api.Dim{0, 0, 0, 0, 0, 0, 1}},
		{"MHz", "1000000", api.Dim{0, 0, -1}},
		{"cC", "1/100", api.Dim{0, 0, 1, 1}},
		{"MPa", "1000000", api.Dim{-1, 1, -2}},
		{"kV", "1000", api.Dim{2, 1, -3, -1}},
		{"mA", "1/1000", api.Dim{0, 0, 0, 1}},
	} {
		wantUnit(t, x, c.name, of(c.factor, c.dim))
	}
}

// A name of the first row is that one, though it begins as a prefix does; what a prefix makes of one is another one.
func TestFirstRowGoesAheadOfPrefixes(t *testing.T) {
	x := unit.New()
	for name, m := range firstRow() {
		wantUnit(t, x, name, m.unit())
		for prefix := range prefixes() {
			if u, ok := x.Of(prefix + name); !ok || alike(u, m.unit()) {
				t.Errorf("Of(%q) = %s, %v, as of %q", prefix+name, told(u), ok, name)
			}
		}
	}
	wantUnit(t, x, "min", of("60", api.Dim{0, 0, 1}))
	wantUnit(t, x, "cd", of("1", api.Dim{0, 0, 0, 0, 0, 0, 1}))
	wantUnit(t, x, "Pa", of("1", api.Dim{-1, 1, -2}))
	wantUnit(t, x, "mm", of("1/1000", api.Dim{1}))
	wantUnit(t, x, "Mm", of("1000000", api.Dim{1}))
	wantUnit(t, x, "ms", of("1/1000", api.Dim{0, 0, 1}))
}

func TestMinutesAndHoursHaveNoPrefix(t *testing.T) {
	x := unit.New()
	for _, prefix := range []string{"k", "M", "m", "u", "c", "d", "n", "G"} {
		wantNone(t, x, prefix+"min")
		wantNone(t, x, prefix+"h")
	}
}

// nearly tells names that are there just nearly.
func nearly() []string {
	names := []string{"", " ", "  ", "1", "k", "M", "u", "c", "d", "n", "G", "da", "x", "_", "ol", "in", "a", "z", "Mol", "hz", "HZ", "pa", "PA", "l", "S", "H", "Min", "KG", "Kg", "kG", "Gm", "nm", "dm", "pm", "Tm", "dam", "hPa", "kelvin", "metre", "sec", "mi", "mo", "P", "z", "µm", "Ω", "°", "kg2", "km2", "m1", "m^2", "kg*m", "m/s", "\x00", "\xff", "m\x00", "\x00m", "m\n", "\tm", sixteen, seventeen, strings.Repeat("m", 16), strings.Repeat("m", 17), strings.Repeat("k", 300)}
	for _, name := range tableNames() {
		names = append(names, " "+name, name+" ", name+"_", "_"+name, name+"1", "1"+name, name+"\x00", "\u00a0"+name, name+".", "-"+name, name+"^1")
		for _, prefix := range []string{"kk", "kM", "mm", "mk", "uu", "cc", "km", "Mu", "ck"} {
			names = append(names, prefix+name)
		}
		for i := range name {
			names = append(names, name[:i], name[i+1:], name[:i]+" "+name[i:], name[:i]+strings.ToUpper(name[i:i+1])+name[i+1:], name[:i]+strings.ToLower(name[i:i+1])+name[i+1:])
		}
	}
	return names
}

func TestNamesThatAreNearlyThere(t *testing.T) {
	x, known, none := unit.New(), table(), 0
	for _, name := range nearly() {
		if m, ok := known[name]; ok {
			wantUnit(t, x, name, m.unit())
			continue
		}
		none++
		wantNone(t, x, name)
	}
	if none < 2000 {
		t.Errorf("only %d names are not there", none)
	}
}

// Every name of up to two bytes, whatever they are, and of three that names are made of.
func TestEveryShortName(t *testing.T) {
	x, known, there := unit.New(), table(), 0
	ask := func(name string) {
		_, want := known[name]
		_, ok := x.Of(name)
		if ok != want || x.Has(name) != want {
			t.Errorf("%q is there: %v", name, ok)
		}
		if ok {
			there++
		}
	}
	ask("")
	const letters = " 0_ACGHJKLMNPVWacdghiklmnosuz"
	for a := range 256 {
		ask(string([]byte{byte(a)}))
		for b := range 256 {
			ask(string([]byte{byte(a), byte(b)}))
		}
	}
	for _, a := range letters {
		for _, b := range letters {
			for _, c := range letters {
				ask(string(a) + string(b) + string(c))
			}
		}
	}
	if there != 92-5 {
		t.Errorf("%d short names are there", there)
	}
}

func TestNames(t *testing.T) {
	want := tableNames()
	if len(want) != 92 || !slices.IsSorted(want) || len(slices.Compact(slices.Clone(want))) != 92 {
		t.Fatalf("%d names", len(want))
	}
	x := unit.New()
	for range 2 {
		if got := x.Names(); !slices.Equal(got, want) {
			t.Errorf("Names() = %q, want %q", got, want)
		}
		for name := range table() {
			x.Has(name)
		}
	}
}

// Names rise byte by byte, before and after each of those that are taught, in whatever order they are.
func TestNamesAfterDefine(t *testing.T) {
	x, want := unit.New(), tableNames()
	for _, name := range []string{"zz", "a", "Z", "m_", "m0", "m00", "mA0", "B", "b", "AA", "A0", "A_", "Aa", "zA", "z_", "z0", sixteen, "kmin", "kh", "KG", "hh", "mi", "minn", "mola", "h_", "x9"} {
		if e := x.Define(name, of("1", api.Dim{1})); e != api.OK {
			t.Fatalf("Define(%q) = %d", name, e)
		}
		want = append(want, name)
		slices.Sort(want)
		if got := x.Names(); !slices.Equal(got, want) {
			t.Errorf("after %q: Names() = %q, want %q", name, got, want)
		}
	}
	for _, name := range x.Names() {
		if !x.Has(name) {
			t.Errorf("Has(%q) = false", name)
		}
	}
}

// What Define refuses adds no name.
func TestNamesAfterRefusedDefines(t *testing.T) {
	x := unit.New()
	x.Define("", of("1", api.Dim{}))
	x.Define("a b", of("1", api.Dim{}))
	x.Define("q", api.Unit{})
	x.Define("m", of("2", api.Dim{}))
	x.Define("kg", of("2", api.Dim{}))
	if got := x.Names(); !slices.Equal(got, tableNames()) {
		t.Errorf("Names() = %q", got)
	}
}

// Whatever is asked of a new table first, it is the same table.
func TestTheFirstCallMakesTheTable(t *testing.T) {
	metre := of("1", api.Dim{1})
	if !unit.New().Has("m") || unit.New().Has("q") {
		t.Error("Has")
	}
	if u, ok := unit.New().Of("m"); !ok || !alike(u, metre) {
		t.Errorf("Of = %s, %v", told(u), ok)
	}
	if u, f := unit.New().Parse("m"); f != (api.Fault{}) || !alike(u, metre) {
		t.Errorf("Parse = %s, %v", told(u), f)
	}
	if got := unit.New().Names(); !slices.Equal(got, tableNames()) {
		t.Errorf("Names = %q", got)
	}
	if e := unit.New().Define("m", metre); e != api.ErrTwice {
		t.Errorf("Define = %d", e)
	}
	x := unit.New()
	if e := x.Define("q", metre); e != api.OK || !x.Has("q") || !x.Has("m") || len(x.Names()) != 93 {
		t.Errorf("Define = %d, and then %d names", e, len(x.Names()))
	}
}

func TestNilTable(t *testing.T) {
	var x *unit.Table
	for _, name := range append(nearly(), tableNames()...) {
		wantNone(t, x, name)
		wantFault(t, x, name, api.ErrArg, 0)
		for _, u := range []api.Unit{of("1", api.Dim{1}), {}} {
			if e := x.Define(name, u); e != api.ErrArg {
				t.Errorf("Define(%q, %s) = %d", name, told(u), e)
			}
		}
		wantNone(t, x, name)
	}
	for _, s := range []string{"", "1", "m", "m^65", "q", "#", strings.Repeat("m", mostBytes+1), strings.Repeat(" ", 1<<20)} {
		wantFault(t, x, s, api.ErrArg, 0)
	}
	if got := x.Names(); len(got) != 0 {
		t.Errorf("Names() = %q", got)
	}
	if x != nil {
		t.Error("the table is there")
	}
}
