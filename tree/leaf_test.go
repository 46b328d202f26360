package tree_test

import (
	"fmt"
	"strings"
	"testing"

	"steelyard/api"
	"steelyard/tree"
)

// checkLit holds Lit of both texts against the document's words.
func checkLit(t *testing.T, text, unit string) {
	t.Helper()
	want := api.Tree{lit(text, unit)}
	what := fmt.Sprintf("Lit(%.50q, %.50q), of %d and %d bytes,", text, unit, len(text), len(unit))
	x, ok := tree.Lit(text, unit)
	wantGood(t, want, mayBe(want))
	if mayBe(want) {
		wantTree(t, what, x, ok, want)
		return
	}
	wantNone(t, what, x, ok)
}

// checkRef holds Ref of a text against the document's words.
func checkRef(t *testing.T, name string) {
	t.Helper()
	want := api.Tree{ref(name)}
	what := fmt.Sprintf("Ref(%.50q), of %d bytes,", name, len(name))
	x, ok := tree.Ref(name)
	wantGood(t, want, mayBe(want))
	if mayBe(want) {
		wantTree(t, what, x, ok, want)
		return
	}
	wantNone(t, what, x, ok)
}

// P14.1: Lit of texts that are literals, and the tree of each.
func TestLit(t *testing.T) {
	for _, text := range []string{"0", "1", "2.5", "007", "0.0", "1e5", "1e-5", "12.50e-300", "1e999", "1e000", strings.Repeat("7", 399), strings.Repeat("7", mostLiteral), "1." + strings.Repeat("0", mostLiteral-2)} {
		x, ok := tree.Lit(text, "")
		wantTree(t, text, x, ok, api.Tree{{Kind: api.Lit, Text: text}})
		y, ok := tree.Lit(text, "km/h")
		wantTree(t, text, y, ok, api.Tree{{Kind: api.Lit, Text: text, Unit: "km/h"}})
	}
}

// P14.1: Lit of texts that are none.
func TestLitOfNoLiteral(t *testing.T) {
	for _, text := range []string{"", "-1", "+1", "x", "1.", ".5", "1x", "1 ", " 1", "1e", "1e-", "1e+5", "1e1234", "1E5", "1..5", "1.5.2", "1,5", "1\n", "1[m]", "-", "e5", "½", "\xff", "1\x00", strings.Repeat("7", mostLiteral+1), "1." + strings.Repeat("0", mostLiteral-1), strings.Repeat("7", 1000000)} {
		x, ok := tree.Lit(text, "")
		wantNone(t, text, x, ok)
		y, ok := tree.Lit(text, "m")
		wantNone(t, text, y, ok)
		wantGood(t, api.Tree{lit(text, "")}, false)
	}
}

// P14.1: Lit of each text of up to four of a literal's bytes.
func TestLitOfShortTexts(t *testing.T) {
	texts := []string{""}
	for range 5 {
		var longer []string
		for _, text := range texts {
			checkLit(t, text, "")
			for _, b := range "07.e-x" {
				longer = append(longer, text+string(b))
			}
		}
		texts = longer
	}
}

// P14.1: Lit with units: none, one byte, as many as may be, one more; no "]" and no newline among them.
func TestLitsUnit(t *testing.T) {
	for _, unit := range []string{"", "m", "km/h", " ", "[", "[[m", "#", "# note", "m\ts", "½", "\xff\xfe", "\x00", "1", "nothing of the kind", strings.Repeat("u", mostUnit-1), strings.Repeat("u", mostUnit), strings.Repeat("\xff", mostUnit), strings.Repeat("é", mostUnit/2)} {
		x, ok := tree.Lit("1", unit)
		wantTree(t, unit, x, ok, api.Tree{{Kind: api.Lit, Text: "1", Unit: unit}})
	}
	for _, unit := range []string{"]", "m]", "]m", "a]b", "\n", "m\n", "\nm", "a\nb", "[m]", "\xff]", "]\n", strings.Repeat("u", mostUnit-1) + "]", strings.Repeat("u", mostUnit-1) + "\n", strings.Repeat("u", mostUnit+1), strings.Repeat("é", mostUnit/2) + "u", strings.Repeat(" ", 1000000)} {
		x, ok := tree.Lit("1", unit)
		wantNone(t, unit, x, ok)
		wantGood(t, api.Tree{lit("1", unit)}, false)
	}
}

// P14.1: every byte at every place of a literal, of its unit and of a name.
func TestLeavesOfEveryByte(t *testing.T) {
	for b := range 256 {
		one := string([]byte{byte(b)})
		for _, s := range []string{one, "1" + one, one + "1", "1" + one + "1", "x" + one, one + "x", "x" + one + "x", "1.5e" + one, strings.Repeat("u", mostUnit-1) + one, strings.Repeat("long", 10) + one + "\xff"} {
			checkLit(t, s, "")
			checkLit(t, "2.5", s)
			checkRef(t, s)
		}
	}
}

// P14.1: Ref of names of every shape.
func TestRef(t *testing.T) {
	for _, name := range []string{"x", "X", "_", "__", "x1", "_1", "x_1", "T0", "units", "Unit", "lets", "i", "inn", "IN", "e5", sixteen, strings.Repeat("_", api.MaxName)} {
		x, ok := tree.Ref(name)
		wantTree(t, name, x, ok, api.Tree{{Kind: api.Ref, Text: name}})
	}
}

// P14.1: Ref of texts that are no names.
func TestRefOfNoName(t *testing.T) {
	for _, name := range append(ownWords(), "", "1", "1x", "a b", "x ", " x", "x-y", "-x", "x.y", "x\n", "é", "x\xff", "[m]", seventeen, strings.Repeat("_", api.MaxName+1), strings.Repeat("x", 1000000)) {
		x, ok := tree.Ref(name)
		wantNone(t, name, x, ok)
		wantGood(t, api.Tree{ref(name)}, false)
	}
}
