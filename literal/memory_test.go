package literal_test

import (
	"slices"
	"strings"
	"testing"

	"steelyard/api"
	"steelyard/literal"
)

// scribble changes all memory of a list, its spare room too.
func scribble(a api.Nat) {
	a = a[:cap(a)]
	for i := range a {
		a[i] = ^a[i]
	}
}

func clone(a api.Rat) api.Rat {
	return api.Rat{Top: api.Int{Neg: a.Top.Neg, Mag: slices.Clone(a.Top.Mag)}, Bottom: slices.Clone(a.Bottom)}
}

func memoryTexts() []string {
	return append([]string{
		"", "x", "1e999", "1e-999", strings.Repeat("1", most+1),
		"0", "1", "2", "10", "0.1", "1.0", "1e0", "10e-1", "0.1e1", "0e0", "0.0",
		"0e999", "0.00e-999", "1e616", "1e-616", "9" + noughts(390) + "e-999", tenth(390) + "e999", strings.Repeat("9", most), power(2, 882).String() + "e-882", "4294967295", "4294967296", "1.5", "1e9", "1e-9",
	}, plain()...)
}

// What is done to an answer is seen in no other one, nor in its other half.
func TestAnswersShareNoMemory(t *testing.T) {
	for _, s := range memoryTexts() {
		first, e := literal.Parse(s)
		want := clone(first)
		second, _ := literal.Parse(s)
		scribble(second.Top.Mag)
		scribble(second.Bottom)
		if !alike(first, want) {
			t.Errorf("Parse(%q): two answers share memory", s)
		}
		if third, f := literal.Parse(s); f != e || !alike(third, want) {
			t.Errorf("Parse(%q) = %v, %d, and then %v, %d", s, want, e, third, f)
		}
		scribble(first.Top.Mag)
		if !slices.Equal(first.Bottom, want.Bottom) {
			t.Errorf("Parse(%q): top and bottom share memory", s)
		}
		top := slices.Clone(first.Top.Mag)
		scribble(first.Bottom)
		if !slices.Equal(first.Top.Mag, top) {
			t.Errorf("Parse(%q): bottom and top share memory", s)
		}
	}
}

// What is done to answers is not seen in later ones of other texts.
func TestLaterAnswersAreAsTheFirst(t *testing.T) {
	for range 2 {
		for _, s := range memoryTexts() {
			a, _ := literal.Parse(s)
			scribble(a.Top.Mag)
			scribble(a.Bottom)
			for _, other := range []string{"0", "1", "10", "0.1", "1e9", "1e-9", "12.50e-1", "0e999", ".5", "1e999", "1e616", "1e-616"} {
				check(t, other)
			}
		}
	}
}
