package rat_test

import (
	"slices"
	"testing"

	"steelyard/api"
	"steelyard/rat"
)

// mark fills memory that a call has to leave as it is.
const mark = 0xdeadbeef

// roomy tells a with spare room behind its top and its bottom, and all memory of both.
func roomy(a api.Rat) (number api.Rat, memory [2]api.Nat) {
	for i, part := range []api.Nat{a.Top.Mag, a.Bottom} {
		memory[i] = append(slices.Clone(part), mark, mark, mark)
	}
	top, bottom := memory[0], memory[1]
	number.Top = api.Int{Neg: a.Top.Neg, Mag: top[:len(a.Top.Mag):len(top)]}
	number.Bottom = bottom[:len(a.Bottom):len(bottom)]
	return number, memory
}

func copied(memory [2]api.Nat) [2]api.Nat {
	return [2]api.Nat{slices.Clone(memory[0]), slices.Clone(memory[1])}
}

func unchanged(memory, before [2]api.Nat) bool {
	return slices.Equal(memory[0], before[0]) && slices.Equal(memory[1], before[1])
}

// scribble changes all memory of a list, its spare room too.
func scribble(a api.Nat) {
	a = a[:cap(a)]
	for i := range a {
		a[i] = ^a[i]
	}
}

func scribbleBoth(a api.Rat) {
	scribble(a.Top.Mag)
	scribble(a.Bottom)
}

func clone(a api.Rat) api.Rat {
	return api.Rat{Top: api.Int{Neg: a.Top.Neg, Mag: slices.Clone(a.Top.Mag)}, Bottom: slices.Clone(a.Bottom)}
}

// calls tells every call that answers a number, as one of two numbers.
func calls() map[string]func(a, b api.Rat) api.Rat {
	all := map[string]func(a, b api.Rat) api.Rat{
		"Of":    func(a, b api.Rat) api.Rat { out, _ := rat.Of(a.Top, b.Bottom); return out },
		"Of, 1": func(a, _ api.Rat) api.Rat { out, _ := rat.Of(a.Top, a.Bottom); return out },
		"Whole": func(a, _ api.Rat) api.Rat { return rat.Whole(int64(len(a.Top.Mag)) - 3) },
		"Neg":   func(a, _ api.Rat) api.Rat { return rat.Neg(a) },
	}
	for _, o := range operations() {
		all[o.name] = func(a, b api.Rat) api.Rat { out, _ := o.do(a, b); return out }
	}
	return all
}

func memoryNumbers() []api.Rat {
	return append([]api.Rat{
		frac(0, 1), frac(1, 1), frac(-1, 1), frac(3, 1), frac(1, 3), frac(-3, 2), frac(2, 3), frac(5, 6), frac(-1<<40, 3), frac(7, 1<<40),
		twoTo(mostBits-1, 0), minus(inverse(twoTo(mostBits, -1))), twoTo(mostBits, -1),
	}, wrong()...)
}

func TestArgumentsAreLeftAndNotShared(t *testing.T) {
	for name, call := range calls() {
		for _, p := range memoryNumbers() {
			for _, q := range memoryNumbers() {
				checkMemory(t, name, call, p, q)
			}
		}
	}
}

func checkMemory(t *testing.T, name string, call func(a, b api.Rat) api.Rat, p, q api.Rat) {
	t.Helper()
	a, wholeA := roomy(p)
	b, wholeB := roomy(q)
	beforeA, beforeB := copied(wholeA), copied(wholeB)
	first := call(a, b)
	want := clone(first)
	if !unchanged(wholeA, beforeA) || !unchanged(wholeB, beforeB) {
		t.Errorf("%s(%v, %v) changed an argument", name, p, q)
	}
	second := call(a, b)
	scribbleBoth(second)
	if !alike(first, want) {
		t.Errorf("%s(%v, %v): two answers share memory", name, p, q)
	}
	if !unchanged(wholeA, beforeA) || !unchanged(wholeB, beforeB) {
		t.Errorf("%s(%v, %v): an answer shares an argument's memory", name, p, q)
	}
	if third := call(a, b); !alike(third, want) {
		t.Errorf("%s(%v, %v) = %v, and then %v", name, p, q, want, third)
	}
	scribbleBoth(a)
	scribbleBoth(b)
	if !alike(first, want) {
		t.Errorf("%s(%v, %v) keeps an argument's memory", name, p, q)
	}
	scribble(first.Top.Mag)
	if !slices.Equal(first.Bottom, want.Bottom) {
		t.Errorf("%s(%v, %v): its top and its bottom share memory", name, p, q)
	}
	top := slices.Clone(first.Top.Mag)
	scribble(first.Bottom)
	if !slices.Equal(first.Top.Mag, top) {
		t.Errorf("%s(%v, %v): its bottom and its top share memory", name, p, q)
	}
}

func TestQuestionsLeaveArguments(t *testing.T) {
	for _, p := range memoryNumbers() {
		for _, q := range memoryNumbers() {
			a, wholeA := roomy(p)
			b, wholeB := roomy(q)
			beforeA, beforeB := copied(wholeA), copied(wholeB)
			rat.Good(a)
			rat.Sign(a)
			rat.Cmp(a, b)
			rat.Same(a, b)
			if !unchanged(wholeA, beforeA) || !unchanged(wholeB, beforeB) {
				t.Errorf("%v, %v: an argument was changed", p, q)
			}
		}
	}
}

// One number as both arguments, and one list as both a top and a bottom.
func TestOneListTwice(t *testing.T) {
	a, memory := roomy(frac(-1<<33-1, 3))
	before := copied(memory)
	for name, call := range calls() {
		want := call(clone(a), clone(a))
		got := call(a, a)
		if !alike(got, want) {
			t.Errorf("%s of one number twice: %v, want %v", name, got, want)
		}
		scribbleBoth(got)
		if !unchanged(memory, before) {
			t.Errorf("%s of one number twice changed it", name)
		}
	}
	size := api.Nat{6, 7, 0}
	got, e := rat.Of(api.Int{Neg: true, Mag: size}, size)
	if e != api.OK || !alike(got, frac(-1, 1)) || !slices.Equal(size, api.Nat{6, 7, 0}) {
		t.Errorf("Of one list twice: %v, %d; the list: %v", got, e, size)
	}
	one := api.Nat{1}
	itself := api.Rat{Top: api.Int{Mag: one}, Bottom: one}
	checkOne(t, itself)
	checkPair(t, itself, itself)
	if negative := rat.Neg(itself); len(negative.Bottom) == 1 {
		scribble(negative.Top.Mag)
		if !slices.Equal(negative.Bottom, one) || !slices.Equal(one, api.Nat{1}) {
			t.Errorf("Neg's top and bottom share memory: %v", negative)
		}
	}
}

// A top's spare room may be what holds its bottom.
func TestBottomInTheSpareRoom(t *testing.T) {
	for name, call := range calls() {
		memory := api.Nat{5, 1, 3, 2, mark}
		before := slices.Clone(memory)
		a := api.Rat{Top: api.Int{Neg: true, Mag: memory[:2]}, Bottom: memory[2:4]}
		b := api.Rat{Top: api.Int{Mag: memory[2:4]}, Bottom: memory[:2]}
		got := call(a, b)
		if want := call(clone(a), clone(b)); !alike(got, want) {
			t.Errorf("%s = %v, want %v", name, got, want)
		}
		scribbleBoth(got)
		if !slices.Equal(memory, before) {
			t.Errorf("%s changed its arguments: %v", name, memory)
		}
	}
}

// What is done to answers is not seen in later ones, whatever call they are of.
func TestLaterAnswersAreAsTheFirst(t *testing.T) {
	a, b := frac(3, 1), frac(-1, 3)
	for range 2 {
		for name, call := range calls() {
			for _, p := range [][2]api.Rat{{a, b}, {b, a}, {a, a}, {b, b}, {{}, a}} {
				scribbleBoth(call(p[0], p[1]))
				if got := rat.Whole(-7); !alike(got, frac(-7, 1)) {
					t.Errorf("behind %s Whole is %v", name, got)
				}
				checkOne(t, p[0])
				checkPair(t, p[0], p[1])
			}
		}
	}
}
