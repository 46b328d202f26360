package names_test

import (
	"math/rand"
	"slices"
	"strings"
	"testing"

	"steelyard/api"
	"steelyard/names"
	"steelyard/parse"
	"steelyard/write"
)

// Where there is no fault, each name that a formula, a cov has is found ahead of it, and no declaration finds itself.
func TestNamesOfSoundScriptsAreFound(t *testing.T) {
	r := rand.New(rand.NewSource(173))
	for range 2000 {
		l := sound(r, r.Intn(60))
		wantCheck(t, l, api.Fault{})
		for i, d := range l {
			for _, n := range d.Tree {
				at, ok := names.Find(l, n.Text, i)
				if n.Kind == api.Ref && (!ok || at >= i || l[at].Name != n.Text) {
					t.Errorf("Find(%s, %q, %d) = %d, %v", shown(l), n.Text, i, at, ok)
				}
			}
			switch d.Kind {
			case api.DSource, api.DLet:
				wantFind(t, l, d.Name, i, -1)
				wantFind(t, l, d.Name, i+1, i)
				wantFind(t, l, d.Name, len(l), i)
			case api.DOutput:
				wantFind(t, l, d.Name, len(l), -1)
			case api.DCov:
				ahead := names.Sources(l[:i])
				if !slices.Contains(ahead, d.Name) || !slices.Contains(ahead, d.Other) {
					t.Errorf("%s: sources ahead of %d: %q", shown(l), i, ahead)
				}
			}
		}
	}
}

// A fault stands in the first declaration that has one; what stands behind that changes nothing.
func TestFaultsHangOnWhatStandsAhead(t *testing.T) {
	r := rand.New(rand.NewSource(174))
	for range 2000 {
		l := sound(r, r.Intn(12))
		for range r.Intn(8) {
			l = append(l, randomDecl(r, []string{"a", "b", "c", "x_1"}))
		}
		l = placed(l)
		want := names.Check(l)
		first := slices.IndexFunc(l, func(d api.Decl) bool { return want.At >= d.At && want.At < d.At+10000 })
		if want == (api.Fault{}) {
			first = len(l)
		}
		for i := range len(l) + 1 {
			if i <= first {
				wantCheck(t, l[:i], api.Fault{})
			} else {
				wantCheck(t, l[:i], want)
			}
		}
	}
}

// Other names in the place of those that there are, each always the same, change nothing but the names.
func TestOtherNames(t *testing.T) {
	r := rand.New(rand.NewSource(175))
	few := []string{"a", "b", "c", "d"}
	other := strings.NewReplacer("a", "zz", "b", "Y_2", "c", sixteen, "d", "_")
	for range 3000 {
		var l api.Script
		for range r.Intn(20) {
			l = append(l, randomDecl(r, few))
		}
		l = placed(l)
		o := kept(l)
		for i := range o {
			o[i].Name, o[i].Other = other.Replace(o[i].Name), other.Replace(o[i].Other)
			for j, n := range o[i].Tree {
				o[i].Tree[j].Text = other.Replace(n.Text)
			}
		}
		wantCheck(t, o, names.Check(l))
		for _, name := range few {
			for ahead := range len(l) + 1 {
				at, ok := names.Find(l, name, ahead)
				if !ok {
					at = -1
				}
				wantFind(t, o, other.Replace(name), ahead, at)
			}
		}
		var want []string
		for _, s := range names.Sources(l) {
			want = append(want, other.Replace(s))
		}
		wantSources(t, o, want...)
	}
}

// What stands in numbers, units and places changes nothing, as long as it may be.
func TestOtherNumbers(t *testing.T) {
	r := rand.New(rand.NewSource(176))
	for range 2000 {
		var l api.Script
		for range r.Intn(20) {
			l = append(l, randomDecl(r, []string{"a", "b", "c"}))
		}
		l = placed(l)
		o := kept(l)
		for i, d := range o {
			switch d.Kind {
			case api.DUnit, api.DSource:
				o[i].Num, o[i].Unit = "-0/0", "a"
			case api.DCov:
				o[i].Num = "9e9"
			case api.DOutput:
				o[i].Unit, o[i].Places = "a", r.Intn(61)
			}
		}
		wantCheck(t, o, names.Check(l))
		wantSources(t, o, names.Sources(l)...)
	}
}

// At the byte of a fault the name stands that is there twice, or for nothing; written and read again, the fault is the same one, at such a byte.
func TestFaultsOfTexts(t *testing.T) {
	r := rand.New(rand.NewSource(177))
	for range 3000 {
		var l api.Script
		for range r.Intn(20) {
			l = append(l, randomDecl(r, []string{"aa", "ab", "b", sixteen}))
		}
		text, e := write.Script(l)
		back, f := parse.Script(text, most())
		if e != api.OK || f != (api.Fault{}) {
			t.Fatalf("%s: %d, %v", shown(l), e, f)
		}
		want, got := names.Check(placed(l)), names.Check(back)
		if want.E != got.E || got.E == api.OK && got.At != 0 {
			t.Errorf("%.300q: %v, ahead of writing %v", text, got, want)
		}
		if got.E != api.OK && !slices.ContainsFunc([]string{"aa", "ab", "b", sixteen}, func(s string) bool { return strings.HasPrefix(text[got.At:], s) }) {
			t.Errorf("%.300q: %v, where no name stands", text, got)
		}
	}
}
