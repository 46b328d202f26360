package unit_test

import (
	"slices"
	"strconv"
	"strings"
	"testing"

	"steelyard/api"
	"steelyard/dim"
	"steelyard/power"
	"steelyard/rat"
	"steelyard/unit"
)

// parsed tells the unit of a text that is one.
func parsed(t *testing.T, x *unit.Table, s string) api.Unit {
	t.Helper()
	u, f := x.Parse(s)
	if f != (api.Fault{}) {
		t.Fatalf("Parse(%q) = %v", s, f)
	}
	return u
}

// combine tells what the layers above make of two units.
func combine(t *testing.T, a, b api.Unit, numbers func(a, b api.Rat) (api.Rat, api.Errno), dims func(a, b api.Dim) (api.Dim, api.Errno)) api.Unit {
	t.Helper()
	factor, e := numbers(a.Factor, b.Factor)
	d, f := dims(a.Dim, b.Dim)
	if e != api.OK || f != api.OK {
		t.Fatalf("of %s and %s: %d, %d", told(a), told(b), e, f)
	}
	return api.Unit{Factor: factor, Dim: d}
}

func product(t *testing.T, a, b api.Unit) api.Unit {
	t.Helper()
	return combine(t, a, b, rat.Mul, dim.Mul)
}

func quotient(t *testing.T, a, b api.Unit) api.Unit {
	t.Helper()
	return combine(t, a, b, rat.Div, dim.Div)
}

// lawTable tells a table that knows a few odd units too.
func lawTable(t *testing.T) *unit.Table {
	t.Helper()
	x := unit.New()
	for name, u := range map[string]api.Unit{"q": of("22/7", api.Dim{1, -1}), "q_1": of("355/113", api.Dim{0, 0, 0, 0, 0, 1, -2}), "inch": of("127/5000", api.Dim{1}), "dozen": of("12", api.Dim{})} {
		if e := x.Define(name, u); e != api.OK {
			t.Fatal(e)
		}
	}
	return x
}

// pieces tells pieces of every make.
func pieces() []string {
	return []string{"1", "m", "kg", "s", "min", "h", "L", "uL", "mcd", "MPa", "V", "q", "q_1", "inch", "dozen", "m^0", "km^2", "s^-1", "cm^-3", "q^7", "q_1^-5", "dozen^64", "inch^-16", "g^003", "Hz^2", " K ^ - 2 "}
}

// texts tells texts of one piece and of more.
func texts() []string {
	all := pieces()
	for i, a := range pieces() {
		b := pieces()[(7*i+3)%len(pieces())]
		all = append(all, a+"*"+b, a+"/"+b, a+" / "+b+"/"+a+" * "+b)
	}
	return all
}

func TestAProductsUnitIsTheProductOfUnits(t *testing.T) {
	x := lawTable(t)
	for _, a := range texts() {
		for _, b := range texts() {
			want := product(t, parsed(t, x, a), parsed(t, x, b))
			wantText(t, x, a+"*"+b, want)
			wantText(t, x, b+"*"+a, want)
			wantText(t, x, " "+a+" * "+b+" ", want)
		}
	}
}

// What stands behind a "/" divides by its first piece alone.
func TestAQuotientsUnitIsTheQuotientOfUnits(t *testing.T) {
	x := lawTable(t)
	for _, a := range texts() {
		for _, b := range pieces() {
			want := quotient(t, parsed(t, x, a), parsed(t, x, b))
			wantText(t, x, a+"/"+b, want)
			wantText(t, x, "1/"+b+"*"+a, want)
			for _, c := range pieces() {
				wantText(t, x, a+"/"+b+"*"+c, product(t, want, parsed(t, x, c)))
				wantText(t, x, a+"/"+b+"/"+c, quotient(t, want, parsed(t, x, c)))
			}
		}
	}
}

func TestAUnitByItselfIsOne(t *testing.T) {
	x := lawTable(t)
	one := of("1", api.Dim{})
	for _, s := range append(pieces(), x.Names()...) {
		wantText(t, x, s+"/"+s, one)
		wantText(t, x, s+"/"+s+"*"+s+"/"+s, one)
		wantText(t, x, "1/"+s+"*"+s, one)
		wantText(t, x, s+"/"+s+"*"+s, parsed(t, x, s))
	}
}

func exponentText(name string, n int) string {
	return name + "^" + strconv.Itoa(n)
}

func TestPowersGoWithTheirNegatives(t *testing.T) {
	x := lawTable(t)
	one := of("1", api.Dim{})
	for _, name := range x.Names() {
		for _, n := range []int{0, 1, 2, 3, 5, 10, 31} {
			up, down := exponentText(name, n), exponentText(name, -n)
			wantText(t, x, up+"*"+down, one)
			wantText(t, x, down+"*"+up, one)
			wantText(t, x, "1/"+up, parsed(t, x, down))
			wantText(t, x, "1/"+down, parsed(t, x, up))
			wantText(t, x, up+"/"+down, parsed(t, x, exponentText(name, 2*n)))
		}
	}
}

func TestPowersGoWithExponents(t *testing.T) {
	x := lawTable(t)
	for _, name := range []string{"m", "kg", "h", "cL", "mV", "Pa", "q", "q_1", "inch", "dozen"} {
		u, _ := x.Of(name)
		for m := -40; m <= 40; m++ {
			factor, e := power.Of(u.Factor, m)
			d, f := dim.Pow(u.Dim, m)
			if e != api.OK || f != api.OK {
				t.Fatalf("%s to the %d: %d, %d", name, m, e, f)
			}
			wantText(t, x, exponentText(name, m), api.Unit{Factor: factor, Dim: d})
			for _, n := range []int{-7, -1, 0, 1, 2, 9} {
				wantText(t, x, exponentText(name, m)+"*"+exponentText(name, n), parsed(t, x, exponentText(name, m+n)))
				wantText(t, x, exponentText(name, m)+"/"+exponentText(name, n), parsed(t, x, exponentText(name, m-n)))
			}
		}
		for n := 1; n*(len(name)+1) <= mostBytes && n <= 40; n++ {
			wantText(t, x, strings.TrimSuffix(strings.Repeat(name+"*", n), "*"), parsed(t, x, exponentText(name, n)))
			if 2+n*(len(name)+1) <= mostBytes {
				wantText(t, x, "1"+strings.Repeat("/"+name, n), parsed(t, x, exponentText(name, -n)))
			}
		}
	}
}

// With a prefix a unit is so many times as great, and of the same dimension.
func TestPrefixesAreTimes(t *testing.T) {
	x := unit.New()
	for name := range firstRow() {
		for prefix, factor := range prefixes() {
			wantText(t, x, prefix+name+"/"+name, measure{factor, api.Dim{}}.unit())
			for other, by := range prefixes() {
				wantText(t, x, prefix+name+"/"+other+name, measure{inverse(by).Mul(inverse(by), factor), api.Dim{}}.unit())
			}
		}
	}
}

// A dimension's text is, with * for its blanks, the text of its coherent unit.
func TestCoherentUnits(t *testing.T) {
	x := unit.New()
	for _, d := range []api.Dim{{}, {1}, {0, 1}, {1, 1, -2}, {2, 1, -3, -1}, {1, 2, 3, 4, 5, 6, 7}, {-64, 64, -64, 64, -64, 64, -64}, {0, 0, 0, 0, -1, 0, 12}, all(1), all(-1), all(64), all(-64)} {
		s := strings.ReplaceAll(dim.Text(d), " ", "*")
		wantText(t, x, s, of("1", d))
		wantText(t, x, strings.ReplaceAll(s, "^", " ^ "), of("1", d))
		wantText(t, x, "1*"+s, of("1", d))
	}
	for _, name := range tableNames() {
		u, _ := x.Of(name)
		coherent := parsed(t, x, strings.ReplaceAll(dim.Text(u.Dim), " ", "*"))
		wantText(t, x, name, api.Unit{Factor: u.Factor, Dim: coherent.Dim})
	}
}

// What is asked, and how often, changes no answer: but for Define a table is as it was.
func TestAskingChangesNothing(t *testing.T) {
	x, other := lawTable(t), lawTable(t)
	all := append(texts(), nearly()...)
	for i := range all {
		s := all[len(all)-1-i]
		other.Has(s)
		other.Of(s)
		other.Parse(s)
		other.Define(s+"#", api.Unit{})
	}
	for _, s := range all {
		u, f := x.Parse(s)
		v, g := other.Parse(s)
		if f != g || !alike(u, v) {
			t.Errorf("Parse(%q) = %s, %v, and %s, %v", s, told(u), f, told(v), g)
		}
		if x.Has(s) != other.Has(s) {
			t.Errorf("Has(%q)", s)
		}
	}
	if !slices.Equal(x.Names(), other.Names()) {
		t.Errorf("Names() = %q, and %q", x.Names(), other.Names())
	}
}
