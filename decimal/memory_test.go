package decimal_test

import (
	"slices"
	"strconv"
	"strings"
	"testing"

	"steelyard/api"
	"steelyard/decimal"
)

// mark fills memory that a call has to leave as it is.
const mark = 0xdeadbeef

// roomy tells a with spare room behind its top and its bottom, and all memory of both.
func roomy(a api.Rat) (number api.Rat, memory [2]api.Nat) {
	for i, part := range []api.Nat{a.Top.Mag, a.Bottom} {
		memory[i] = append(slices.Clone(part), mark, mark, mark)
	}
	top, bottom := memory[0], memory[1]
	number.Top = api.Int{Neg: a.Top.Neg, Mag: top[:len(a.Top.Mag):len(top)]}
	number.Bottom = bottom[:len(a.Bottom):len(bottom)]
	return number, memory
}

// scribble changes all memory of a list, its spare room too.
func scribble(a api.Nat) {
	a = a[:cap(a)]
	for i := range a {
		a[i] = ^a[i]
	}
}

func clone(a api.Rat) api.Rat {
	return api.Rat{Top: api.Int{Neg: a.Top.Neg, Mag: slices.Clone(a.Top.Mag)}, Bottom: slices.Clone(a.Bottom)}
}

// answer is what a call of a number tells: a text, or a whole number.
type answer struct {
	text  string
	floor api.Int
	e     api.Errno
}

func (x answer) clone() answer {
	return answer{strings.Clone(x.text), api.Int{Neg: x.floor.Neg, Mag: slices.Clone(x.floor.Mag)}, x.e}
}

func (x answer) is(y answer) bool {
	return x.text == y.text && alikeInts(x.floor, y.floor) && x.e == y.e
}

type call struct {
	name string
	do   func(a api.Rat) answer
}

func calls() []call {
	all := []call{{"Exact", func(a api.Rat) answer { return answer{text: decimal.Exact(a)} }}}
	for _, places := range []int{0, 1, 2, 10, mostPlaces, -1, mostPlaces + 1} {
		with := " with " + strconv.Itoa(places) + " places"
		all = append(all,
			call{"Down" + with, func(a api.Rat) answer { s, e := decimal.Down(a, places); return answer{text: s, e: e} }},
			call{"Up" + with, func(a api.Rat) answer { s, e := decimal.Up(a, places); return answer{text: s, e: e} }},
			call{"Near" + with, func(a api.Rat) answer { s, e := decimal.Near(a, places); return answer{text: s, e: e} }},
			call{"Floor" + with, func(a api.Rat) answer { v, e := decimal.Floor(a, places); return answer{floor: v, e: e} }},
		)
	}
	return all
}

func TestArgumentsAreLeftAndNotShared(t *testing.T) {
	for _, c := range calls() {
		for _, a := range slices.Concat(right(), wrong()) {
			checkMemory(t, c, a)
		}
	}
}

func checkMemory(t *testing.T, c call, p api.Rat) {
	t.Helper()
	a, memory := roomy(p)
	top, bottom := slices.Clone(memory[0]), slices.Clone(memory[1])
	unchanged := func() bool { return slices.Equal(memory[0], top) && slices.Equal(memory[1], bottom) }
	first := c.do(a)
	want := first.clone()
	if !unchanged() {
		t.Errorf("%s of %v changed it", c.name, p)
	}
	scribble(c.do(a).floor.Mag)
	if !first.is(want) {
		t.Errorf("%s of %v: two answers share memory", c.name, p)
	}
	if !unchanged() {
		t.Errorf("%s of %v: an answer shares its memory", c.name, p)
	}
	if third := c.do(a); !third.is(want) {
		t.Errorf("%s of %v = %v, and then %v", c.name, p, want, third)
	}
	scribble(memory[0])
	scribble(memory[1])
	if !first.is(want) {
		t.Errorf("%s of %v keeps its memory", c.name, p)
	}
}

// One list as both a top and a bottom, and a top whose spare room holds its bottom.
func TestTopAndBottomInOnePlace(t *testing.T) {
	one := api.Nat{1, mark}
	memory := api.Nat{5, 1, 3, 2, mark}
	for _, a := range []api.Rat{
		{Top: api.Int{Mag: one[:1]}, Bottom: one[:1]},
		{Top: api.Int{Neg: true, Mag: one[:1]}, Bottom: one[:1]},
		{Top: api.Int{Neg: true, Mag: memory[:2]}, Bottom: memory[2:4]},
		{Top: api.Int{Mag: memory[2:4]}, Bottom: memory[:2]},
	} {
		for _, c := range calls() {
			want := c.do(clone(a))
			got := c.do(a)
			if !got.is(want) {
				t.Errorf("%s = %v, want %v", c.name, got, want)
			}
			scribble(got.floor.Mag)
			if !slices.Equal(one, api.Nat{1, mark}) || !slices.Equal(memory, api.Nat{5, 1, 3, 2, mark}) {
				t.Fatalf("%s changed its arguments: %v, %v", c.name, one, memory)
			}
		}
	}
}

// What is done to a number that was parsed is seen in no other one, nor in its other half.
func TestParsedNumbersShareNoMemory(t *testing.T) {
	texts := []string{"", "/", "1/0", "01", "2/4"}
	for _, a := range right() {
		texts = append(texts, decimal.Exact(a))
	}
	for _, s := range texts {
		first, e := decimal.Parse(s)
		want := clone(first)
		second, _ := decimal.Parse(s)
		scribble(second.Top.Mag)
		scribble(second.Bottom)
		if !alike(first, want) {
			t.Errorf("Parse(%q): two answers share memory", s)
		}
		if third, f := decimal.Parse(s); f != e || !alike(third, want) {
			t.Errorf("Parse(%q) = %v, %d, and then %v, %d", s, want, e, third, f)
		}
		scribble(first.Top.Mag)
		if !slices.Equal(first.Bottom, want.Bottom) {
			t.Errorf("Parse(%q): top and bottom share memory", s)
		}
		top := slices.Clone(first.Top.Mag)
		scribble(first.Bottom)
		if !slices.Equal(first.Top.Mag, top) {
			t.Errorf("Parse(%q): bottom and top share memory", s)
		}
	}
}

// What is done to answers is not seen in later ones, whatever call they are of.
func TestLaterAnswersAreAsTheFirst(t *testing.T) {
	for range 2 {
		for _, s := range []string{"0", "1", "-1", "10", "1/10", "-7/3", "x"} {
			parsed, _ := decimal.Parse(s)
			for _, c := range calls() {
				scribble(c.do(parsed).floor.Mag)
			}
			scribble(parsed.Top.Mag)
			scribble(parsed.Bottom)
			for _, a := range []api.Rat{frac(0, 1), frac(1, 1), frac(-1, 1), frac(-10, 1), frac(1, 10), frac(-1, 3), {}} {
				checkExact(t, a)
				for _, places := range []int{0, 1, 2, mostPlaces, -1} {
					check(t, a, places)
				}
			}
			checkParse(t, s)
		}
	}
}
