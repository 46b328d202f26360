package power_test

import (
	"slices"
	"strconv"
	"testing"

	"steelyard/api"
	"steelyard/power"
)

// mark fills memory that a call has to leave as it is.
const mark = 0xdeadbeef

// roomy tells a with spare room behind its top and its bottom, and all memory of both.
func roomy(a api.Rat) (number api.Rat, memory [2]api.Nat) {
	for i, part := range []api.Nat{a.Top.Mag, a.Bottom} {
		memory[i] = append(slices.Clone(part), mark, mark, mark)
	}
	top, bottom := memory[0], memory[1]
	number.Top = api.Int{Neg: a.Top.Neg, Mag: top[:len(a.Top.Mag):len(top)]}
	number.Bottom = bottom[:len(a.Bottom):len(bottom)]
	return number, memory
}

func copied(memory [2]api.Nat) [2]api.Nat {
	return [2]api.Nat{slices.Clone(memory[0]), slices.Clone(memory[1])}
}

func unchanged(memory, before [2]api.Nat) bool {
	return slices.Equal(memory[0], before[0]) && slices.Equal(memory[1], before[1])
}

// scribble changes all memory of a list, its spare room too.
func scribble(a api.Nat) {
	a = a[:cap(a)]
	for i := range a {
		a[i] = ^a[i]
	}
}

func scribbleBoth(a api.Rat) {
	scribble(a.Top.Mag)
	scribble(a.Bottom)
}

func clone(a api.Rat) api.Rat {
	return api.Rat{Top: api.Int{Neg: a.Top.Neg, Mag: slices.Clone(a.Top.Mag)}, Bottom: slices.Clone(a.Bottom)}
}

// call is one of the functions by one exponent.
type call struct {
	name string
	do   func(a api.Rat) api.Rat
}

func calls() []call {
	var all []call
	for _, n := range []int{0, 1, -1, 2, -2, 3, 4, -5, 64, mostPower, -mostPower, mostPower + 1, mostScale, -mostScale, -mostScale - 1} {
		all = append(all, call{"Of by " + strconv.Itoa(n), func(a api.Rat) api.Rat { out, _ := power.Of(a, n); return out }})
		all = append(all, call{"Scale by " + strconv.Itoa(n), func(a api.Rat) api.Rat { out, _ := power.Scale(a, n); return out }})
	}
	return all
}

func memoryNumbers() []api.Rat {
	return slices.Concat([]api.Rat{
		frac(0, 1), frac(1, 1), frac(-1, 1), frac(3, 1), frac(1, 3), frac(-3, 2), frac(2, 3), frac(10, 1), frac(-1, 1000), frac(-1<<40, 3), frac(7, 1<<40),
		bigWhole(twoTo(mostBits-1, 0)), minus(inverse(bigWhole(greatest()))), bigFrac(greatest(), twoTo(mostBits, -2)), bigWhole(bigPower(10, mostScale)),
	}, wrong())
}

func TestArgumentsAreLeftAndNotShared(t *testing.T) {
	for _, c := range calls() {
		for _, a := range memoryNumbers() {
			checkMemory(t, c, a)
		}
	}
}

func checkMemory(t *testing.T, c call, p api.Rat) {
	t.Helper()
	a, memory := roomy(p)
	before := copied(memory)
	first := c.do(a)
	want := clone(first)
	if !unchanged(memory, before) {
		t.Errorf("%s of %v changed it", c.name, p)
	}
	scribbleBoth(c.do(a))
	if !alike(first, want) {
		t.Errorf("%s of %v: two answers share memory", c.name, p)
	}
	if !unchanged(memory, before) {
		t.Errorf("%s of %v: an answer shares its memory", c.name, p)
	}
	if third := c.do(a); !alike(third, want) {
		t.Errorf("%s of %v = %v, and then %v", c.name, p, want, third)
	}
	scribbleBoth(a)
	if !alike(first, want) {
		t.Errorf("%s of %v keeps its memory", c.name, p)
	}
	scribble(first.Top.Mag)
	if !slices.Equal(first.Bottom, want.Bottom) {
		t.Errorf("%s of %v: top and bottom share memory", c.name, p)
	}
	top := slices.Clone(first.Top.Mag)
	scribble(first.Bottom)
	if !slices.Equal(first.Top.Mag, top) {
		t.Errorf("%s of %v: bottom and top share memory", c.name, p)
	}
}

// One list as both a top and a bottom, and a top whose spare room holds its bottom.
func TestTopAndBottomInOnePlace(t *testing.T) {
	one := api.Nat{1, mark}
	memory := api.Nat{5, 1, 3, 2, mark}
	for _, a := range []api.Rat{
		{Top: api.Int{Mag: one[:1]}, Bottom: one[:1]},
		{Top: api.Int{Neg: true, Mag: one[:1]}, Bottom: one[:1]},
		{Top: api.Int{Neg: true, Mag: memory[:2]}, Bottom: memory[2:4]},
		{Top: api.Int{Mag: memory[2:4]}, Bottom: memory[:2]},
	} {
		for _, c := range calls() {
			want := c.do(clone(a))
			got := c.do(a)
			if !alike(got, want) {
				t.Errorf("%s = %v, want %v", c.name, got, want)
			}
			scribble(got.Top.Mag)
			if !slices.Equal(got.Bottom, want.Bottom) {
				t.Errorf("%s: top and bottom share memory", c.name)
			}
			scribble(got.Bottom)
			if !slices.Equal(one, api.Nat{1, mark}) || !slices.Equal(memory, api.Nat{5, 1, 3, 2, mark}) {
				t.Fatalf("%s changed its arguments: %v, %v", c.name, one, memory)
			}
		}
	}
}

// What is done to answers is not seen in later ones, whatever call they are of.
func TestLaterAnswersAreAsTheFirst(t *testing.T) {
	for range 2 {
		for _, c := range calls() {
			for _, a := range []api.Rat{frac(0, 1), frac(1, 1), frac(-10, 1), frac(-1, 3), {}} {
				scribbleBoth(c.do(a))
				for _, n := range []int{0, 1, -1, 2, 7, mostPower} {
					checkOf(t, a, n)
					checkScale(t, a, n)
				}
			}
		}
	}
}
