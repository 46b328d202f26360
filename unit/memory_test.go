package unit_test

import (
	"slices"
	"testing"

	"steelyard/api"
	"steelyard/unit"
)

// mark fills memory that a call has to leave as it is.
const mark = 0xdeadbeef

// roomy tells u with spare room behind its factor's top and bottom, and all memory of both.
func roomy(u api.Unit) (api.Unit, [2]api.Nat) {
	top := append(slices.Clone(u.Factor.Top.Mag), mark, mark, mark)
	bottom := append(slices.Clone(u.Factor.Bottom), mark, mark, mark)
	u.Factor.Top.Mag = top[:len(top)-3]
	u.Factor.Bottom = bottom[:len(bottom)-3]
	return u, [2]api.Nat{top, bottom}
}

func copied(memory [2]api.Nat) [2]api.Nat {
	return [2]api.Nat{slices.Clone(memory[0]), slices.Clone(memory[1])}
}

func unchanged(memory, before [2]api.Nat) bool {
	return slices.Equal(memory[0], before[0]) && slices.Equal(memory[1], before[1])
}

// scribble changes all memory of a list, its spare room too.
func scribble(a api.Nat) {
	a = a[:cap(a)]
	for i := range a {
		a[i] = ^a[i]
	}
}

func scribbleBoth(u api.Unit) {
	scribble(u.Factor.Top.Mag)
	scribble(u.Factor.Bottom)
}

func clone(u api.Unit) api.Unit {
	u.Factor.Top.Mag = slices.Clone(u.Factor.Top.Mag)
	u.Factor.Bottom = slices.Clone(u.Factor.Bottom)
	return u
}

// Define leaves what is handed in as it is, and keeps none of its memory.
func TestDefineKeepsACopy(t *testing.T) {
	for _, right := range rightUnits() {
		x := unit.New()
		u, memory := roomy(right)
		before := copied(memory)
		if e := x.Define("q", u); e != api.OK {
			t.Fatalf("Define(%s) = %d", told(u), e)
		}
		if !unchanged(memory, before) {
			t.Errorf("Define changed %s", told(right))
		}
		scribbleBoth(u)
		u.Dim[0]++
		wantUnit(t, x, "q", right)
	}
}

func TestRefusedDefinesLeaveWhatIsHandedIn(t *testing.T) {
	x := unit.New()
	for _, any := range append(wrongUnits(), rightUnits()...) {
		u, memory := roomy(any)
		before := copied(memory)
		for _, name := range []string{"m", "", "9", "kg"} {
			if e := x.Define(name, u); e == api.OK {
				t.Fatalf("Define(%q, %s) = OK", name, told(any))
			}
		}
		if !unchanged(memory, before) {
			t.Errorf("Define changed %s", told(any))
		}
		scribbleBoth(u)
		wantUnit(t, x, "m", of("1", api.Dim{1}))
	}
}

// One list as both the top and the bottom, and a top whose spare room holds the bottom.
func TestTopAndBottomInOnePlace(t *testing.T) {
	one := api.Nat{1, mark}
	memory := api.Nat{5, 1, 3, 2, mark}
	x := unit.New()
	for name, factor := range map[string]api.Rat{"qa": {Top: api.Int{Mag: one[:1]}, Bottom: one[:1]}, "qb": {Top: api.Int{Mag: memory[:2]}, Bottom: memory[2:4]}, "qc": {Top: api.Int{Mag: memory[2:4]}, Bottom: memory[:2]}} {
		if e := x.Define(name, api.Unit{Factor: factor}); e != api.OK {
			t.Fatalf("Define(%q) = %d", name, e)
		}
		for _, s := range []string{name, name + "^1", name + "^-1", "1/" + name, name + "*" + name, name + "^0"} {
			u := parsed(t, x, s)
			wantApart(t, "Parse of "+s, u)
		}
		u, _ := x.Of(name)
		wantApart(t, "Of "+name, u)
	}
	if !slices.Equal(one, api.Nat{1, mark}) || !slices.Equal(memory, api.Nat{5, 1, 3, 2, mark}) {
		t.Errorf("what was handed in is %v, %v", one, memory)
	}
}

// wantApart asks that the lists of one answer share no memory.
func wantApart(t *testing.T, what string, u api.Unit) {
	t.Helper()
	was := clone(u)
	scribble(u.Factor.Top.Mag)
	if !slices.Equal(u.Factor.Bottom, was.Factor.Bottom) {
		t.Errorf("%s: top and bottom share memory", what)
	}
	top := slices.Clone(u.Factor.Top.Mag)
	scribble(u.Factor.Bottom)
	if !slices.Equal(u.Factor.Top.Mag, top) {
		t.Errorf("%s: bottom and top share memory", what)
	}
}

// wantNew asks a call twice: what is done to one answer is seen in no other one, nor in the table.
func wantNew(t *testing.T, what string, do func() api.Unit) {
	t.Helper()
	first := do()
	want := clone(first)
	scribbleBoth(do())
	if !alike(first, want) {
		t.Errorf("%s: two answers share memory", what)
	}
	if third := do(); !alike(third, want) {
		t.Errorf("%s = %s, and then %s", what, told(want), told(third))
	}
	wantApart(t, what, first)
	if fourth := do(); !alike(fourth, want) {
		t.Errorf("%s = %s, and then %s", what, told(want), told(fourth))
	}
}

func TestOfAnswersNewMemory(t *testing.T) {
	x := unit.New()
	for i, u := range rightUnits() {
		if e := x.Define("q"+string(rune('a'+i)), u); e != api.OK {
			t.Fatal(e)
		}
	}
	for _, name := range append(x.Names(), "nothing", "") {
		wantNew(t, "Of "+name, func() api.Unit { u, _ := x.Of(name); return u })
	}
	for name, m := range table() {
		wantUnit(t, x, name, m.unit())
	}
	for i, u := range rightUnits() {
		wantUnit(t, x, "q"+string(rune('a'+i)), u)
	}
}

func TestParseAnswersNewMemory(t *testing.T) {
	x := lawTable(t)
	for _, s := range append(append(texts(), x.Names()...), "", "#", "q^65", "nothing", "m*") {
		wantNew(t, "Parse of "+s, func() api.Unit { u, _ := x.Parse(s); return u })
	}
	for name, m := range table() {
		wantUnit(t, x, name, m.unit())
	}
}

// What is done to one table's answers is not seen in another table's.
func TestTablesShareNoMemory(t *testing.T) {
	x, other := unit.New(), unit.New()
	for name, m := range table() {
		u, _ := x.Of(name)
		scribbleBoth(u)
		scribbleBoth(parsed(t, x, name))
		wantUnit(t, other, name, m.unit())
		wantUnit(t, unit.New(), name, m.unit())
	}
}

func TestNamesAnswersNewMemory(t *testing.T) {
	x := unit.New()
	for range 2 {
		first, second := x.Names(), x.Names()
		want := slices.Clone(first)
		second = second[:cap(second)]
		for i := range second {
			second[i] = "changed"
		}
		if !slices.Equal(first, want) {
			t.Error("two answers share memory")
		}
		if got := x.Names(); !slices.Equal(got, want) {
			t.Errorf("Names() = %q, and then %q", want, got)
		}
		if x.Has("changed") || !x.Has(want[0]) {
			t.Error("an answer is the table's")
		}
		if e := x.Define("zz", of("1", api.Dim{})); e != api.OK && e != api.ErrTwice {
			t.Error(e)
		}
		if !slices.Equal(first, want) {
			t.Error("an answer is changed by Define")
		}
	}
}
