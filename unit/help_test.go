package unit_test

import (
	"encoding/binary"
	"math"
	"math/big"
	"slices"
	"strings"
	"testing"

	"steelyard/api"
	"steelyard/dim"
	"steelyard/rat"
	"steelyard/unit"
)

const (
	full     = math.MaxUint32
	mostBits = 32 * api.MaxLimbs
	// mostBytes is how many bytes a unit's text has at most.
	mostBytes = 200
	// sixteen and seventeen are names of as many bytes: as many as may be, and one more.
	sixteen   = "abcdefghijklmnop"
	seventeen = "abcdefghijklmnopq"
)

// measure is a unit as the library has it.
type measure struct {
	factor *big.Rat
	dim    api.Dim
}

// fromBig tells v's size, with no limbs of 0 at the end.
func fromBig(v *big.Int) api.Nat {
	var out api.Nat
	mask := big.NewInt(full)
	for rest := new(big.Int).Abs(v); rest.Sign() > 0; rest.Rsh(rest, 32) {
		out = append(out, uint32(new(big.Int).And(rest, mask).Uint64()))
	}
	return out
}

func toBig(a api.Nat) *big.Int {
	var all []byte
	for _, limb := range slices.Backward(a) {
		all = binary.BigEndian.AppendUint32(all, limb)
	}
	return new(big.Int).SetBytes(all)
}

// form tells the one form in which r may be told.
func form(r *big.Rat) api.Rat {
	return api.Rat{Top: api.Int{Neg: r.Sign() < 0, Mag: fromBig(r.Num())}, Bottom: fromBig(r.Denom())}
}

// unit tells m in the one form in which it may be told.
func (m measure) unit() api.Unit {
	return api.Unit{Factor: form(m.factor), Dim: m.dim}
}

// frac tells the number whose text s is.
func frac(s string) *big.Rat {
	r, ok := new(big.Rat).SetString(s)
	if !ok {
		panic(s)
	}
	return r
}

// twoTo tells 2 to the n, and so much more.
func twoTo(n uint, more int64) *big.Rat {
	out := new(big.Int).Lsh(big.NewInt(1), n)
	return new(big.Rat).SetInt(out.Add(out, big.NewInt(more)))
}

func inverse(r *big.Rat) *big.Rat {
	return new(big.Rat).Inv(r)
}

// of tells the unit of a factor's text and a dimension.
func of(factor string, d api.Dim) api.Unit {
	return measure{frac(factor), d}.unit()
}

// long tells a size of n limbs that are all v.
func long(n int, v uint32) api.Nat {
	return slices.Repeat(api.Nat{v}, n)
}

// alone tells the dimension that has an exponent at one place alone.
func alone(place, exponent int) api.Dim {
	var d api.Dim
	d[place] = exponent
	return d
}

// all tells the dimension that has one exponent at all places.
func all(exponent int) api.Dim {
	var d api.Dim
	for i := range d {
		d[i] = exponent
	}
	return d
}

// alike asks whether two answers are one, limbs of 0 at the end and the sign of a 0 too.
func alike(a, b api.Unit) bool {
	x, y := a.Factor, b.Factor
	return a.Dim == b.Dim && x.Top.Neg == y.Top.Neg && slices.Equal(x.Top.Mag, y.Top.Mag) && slices.Equal(x.Bottom, y.Bottom)
}

// mayBe asks whether u may be, by the document's words.
func mayBe(u api.Unit) bool {
	return rat.Good(u.Factor) && rat.Cmp(u.Factor, rat.Whole(0)) > 0 && dim.Good(u.Dim)
}

// told tells u so that it can be read.
func told(u api.Unit) string {
	top := toBig(u.Factor.Top.Mag).String()
	if u.Factor.Top.Neg {
		top = "-" + top
	}
	return top + "/" + toBig(u.Factor.Bottom).String() + " " + dim.Text(u.Dim)
}

// firstRow tells the units of the table's first row that may have a prefix, each with its factor and its exponents of m, kg, s, A, K, mol, cd.
func firstRow() map[string]measure {
	return map[string]measure{
		"m":   {frac("1"), api.Dim{1, 0, 0, 0, 0, 0, 0}},
		"s":   {frac("1"), api.Dim{0, 0, 1, 0, 0, 0, 0}},
		"A":   {frac("1"), api.Dim{0, 0, 0, 1, 0, 0, 0}},
		"K":   {frac("1"), api.Dim{0, 0, 0, 0, 1, 0, 0}},
		"mol": {frac("1"), api.Dim{0, 0, 0, 0, 0, 1, 0}},
		"cd":  {frac("1"), api.Dim{0, 0, 0, 0, 0, 0, 1}},
		"g":   {frac("1/1000"), api.Dim{0, 1, 0, 0, 0, 0, 0}},
		"Hz":  {frac("1"), api.Dim{0, 0, -1, 0, 0, 0, 0}},
		"N":   {frac("1"), api.Dim{1, 1, -2, 0, 0, 0, 0}},
		"Pa":  {frac("1"), api.Dim{-1, 1, -2, 0, 0, 0, 0}},
		"J":   {frac("1"), api.Dim{2, 1, -2, 0, 0, 0, 0}},
		"W":   {frac("1"), api.Dim{2, 1, -3, 0, 0, 0, 0}},
		"C":   {frac("1"), api.Dim{0, 0, 1, 1, 0, 0, 0}},
		"V":   {frac("1"), api.Dim{2, 1, -3, -1, 0, 0, 0}},
		"L":   {frac("1/1000"), api.Dim{3, 0, 0, 0, 0, 0, 0}},
	}
}

// prefixes tells what each prefix makes of a unit.
func prefixes() map[string]*big.Rat {
	return map[string]*big.Rat{"k": frac("1000"), "M": frac("1000000"), "m": frac("1/1000"), "u": frac("1/1000000"), "c": frac("1/100")}
}

// table tells all units of the table: those of the first row go ahead of those that have a prefix.
func table() map[string]measure {
	out := map[string]measure{}
	for name, m := range firstRow() {
		for prefix, factor := range prefixes() {
			out[prefix+name] = measure{new(big.Rat).Mul(factor, m.factor), m.dim}
		}
	}
	for name, m := range firstRow() {
		out[name] = m
	}
	out["min"] = measure{frac("60"), api.Dim{0, 0, 1}}
	out["h"] = measure{frac("3600"), api.Dim{0, 0, 1}}
	return out
}

// allNames is every name of the table, rising.
const allNames = "A C Hz J K L MA MC MHz MJ MK ML MN MPa MV MW Mcd Mg Mm Mmol Ms N Pa V W " +
	"cA cC cHz cJ cK cL cN cPa cV cW ccd cd cg cm cmol cs g h " +
	"kA kC kHz kJ kK kL kN kPa kV kW kcd kg km kmol ks " +
	"m mA mC mHz mJ mK mL mN mPa mV mW mcd mg min mm mmol mol ms s " +
	"uA uC uHz uJ uK uL uN uPa uV uW ucd ug um umol us"

func tableNames() []string {
	return strings.Split(allNames, " ")
}

// extras tells units whose powers and products soon may not be, in the factor, in the dimension, or in both.
func extras() map[string]measure {
	return map[string]measure{
		"b":     {twoTo(700, 0), api.Dim{}},
		"B":     {inverse(twoTo(700, 0)), api.Dim{}},
		"d":     {frac("1"), api.Dim{90, -90, 0, 0, 0, 0, 1}},
		"e":     {frac("3/7"), all(-api.MaxExp)},
		"f":     {new(big.Rat).Quo(twoTo(1000, 0), twoTo(1000, 1)), api.Dim{0, 0, 0, 0, 0, 0, 150}},
		"mb":    {twoTo(mostBits, -1), api.Dim{1}},
		sixteen: {frac("22/7"), api.Dim{0, -1}},
	}
}

// taught tells a table that knows extras too, and all that it knows.
func taught(t *testing.T) (*unit.Table, map[string]measure) {
	t.Helper()
	x, known := unit.New(), table()
	for name, m := range extras() {
		if e := x.Define(name, m.unit()); e != api.OK {
			t.Fatalf("Define(%q, %s) = %d", name, told(m.unit()), e)
		}
		known[name] = m
	}
	return x, known
}

// wantUnit asks that name is there, as that unit.
func wantUnit(t *testing.T, x *unit.Table, name string, want api.Unit) {
	t.Helper()
	u, ok := x.Of(name)
	if !ok || !alike(u, want) {
		t.Errorf("Of(%q) = %s, %v, want %s", name, told(u), ok, told(want))
	}
	if !mayBe(u) {
		t.Errorf("Of(%q) = %s, that may not be", name, told(u))
	}
	if !x.Has(name) {
		t.Errorf("Has(%q) = false", name)
	}
	if u, f := x.Parse(name); f != (api.Fault{}) || !alike(u, want) {
		t.Errorf("Parse(%q) = %s, %v, want %s", name, told(u), f, told(want))
	}
}

// wantNone asks that name is not there.
func wantNone(t *testing.T, x *unit.Table, name string) {
	t.Helper()
	if u, ok := x.Of(name); ok || !alike(u, api.Unit{}) {
		t.Errorf("Of(%q) = %s, %v", name, told(u), ok)
	}
	if x.Has(name) {
		t.Errorf("Has(%q) = true", name)
	}
}

// wantText asks that s is the text of that unit, and that there is no fault.
func wantText(t *testing.T, x *unit.Table, s string, want api.Unit) {
	t.Helper()
	u, f := x.Parse(s)
	if f != (api.Fault{}) || !alike(u, want) {
		t.Errorf("Parse(%q) = %s, %v, want %s", s, told(u), f, told(want))
	}
	if !mayBe(u) {
		t.Errorf("Parse(%q) = %s, that may not be", s, told(u))
	}
}

// wantFault asks for a fault, beside which there is no unit.
func wantFault(t *testing.T, x *unit.Table, s string, e api.Errno, at int) {
	t.Helper()
	u, f := x.Parse(s)
	if f != (api.Fault{E: e, At: at}) || !alike(u, api.Unit{}) {
		t.Errorf("Parse(%.250q), of %d bytes, = %s, %v, want error %d at %d alone", s, len(s), told(u), f, e, at)
	}
}

func minus(d api.Dim) api.Dim {
	for i := range d {
		d[i] = -d[i]
	}
	return d
}
