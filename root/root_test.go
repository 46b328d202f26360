package root_test

import (
	"math"
	"math/big"
	"math/rand"
	"slices"
	"testing"

	"steelyard/api"
	"steelyard/mul"
	"steelyard/nat"
	"steelyard/root"
)

const (
	full = math.MaxUint32
	// mark fills memory that a call has to leave as it is.
	mark = 0xdeadbeef
)

// lengths tells how many limbs long roots are given: odd and even, about api.MaxLimbs, and where their squares are about and beyond what mul shifts by.
func lengths() []int {
	return []int{3, 4, 5, 6, 7, 8, 9, 31, 32, 33, 63, 64, 65, 127, 128, 129, 255, 256, 257, 258, 513}
}

// edges tells the limbs at which guesses and carries turn.
func edges() []uint32 {
	return []uint32{0, 1, 2, 3, 1<<16 - 1, 1 << 16, 1<<31 - 1, 1 << 31, full - 1, full}
}

// numbers tells all lists of at most so many limbs that are made of edges, those with limbs of 0 at the end included.
func numbers(limbs int) []api.Nat {
	all := []api.Nat{nil, {}}
	last := []api.Nat{{}}
	for range limbs {
		var longer []api.Nat
		for _, a := range last {
			for _, limb := range edges() {
				longer = append(longer, append(slices.Clone(a), limb))
			}
		}
		all = append(all, longer...)
		last = longer
	}
	return all
}

// longs tells numbers of n limbs, with the least and the greatest limbs below, between and at the top.
func longs(n int) []api.Nat {
	var all []api.Nat
	for _, low := range []uint32{0, full} {
		for _, between := range []uint32{0, full} {
			for _, top := range []uint32{1, 1<<31 - 1, 1 << 31, full} {
				all = append(all, slices.Concat(api.Nat{low}, long(n-2, between), api.Nat{top}))
			}
		}
	}
	return all
}

// long tells a number of n limbs that are all v.
func long(n int, v uint32) api.Nat {
	return slices.Repeat(api.Nat{v}, n)
}

// random tells a number of n limbs, about half of them edges, whose highest one is not 0 and of any number of bits.
func random(r *rand.Rand, n int) api.Nat {
	out := make(api.Nat, n)
	for i := range out {
		out[i] = r.Uint32()
		if r.Intn(2) == 0 {
			out[i] = edges()[r.Intn(len(edges()))]
		}
	}
	out[n-1] = max(1, r.Uint32()>>r.Intn(32))
	return out
}

func toBig(a api.Nat) *big.Int {
	out := new(big.Int)
	for _, limb := range slices.Backward(a) {
		out.Lsh(out, 32)
		out.Or(out, big.NewInt(int64(limb)))
	}
	return out
}

func fromBig(v *big.Int) api.Nat {
	var out api.Nat
	mask := big.NewInt(full)
	for rest := new(big.Int).Set(v); rest.Sign() > 0; rest.Rsh(rest, 32) {
		out = append(out, uint32(new(big.Int).And(rest, mask).Uint64()))
	}
	return out
}

func square(a api.Nat) api.Nat {
	return mul.Of(a, a)
}

func more(a api.Nat, v uint64) api.Nat {
	return nat.Add(a, nat.Of(v))
}

// less tells a less v, which is not above it.
func less(t *testing.T, a api.Nat, v uint64) api.Nat {
	t.Helper()
	out, ok := nat.Sub(a, nat.Of(v))
	if !ok {
		t.Fatalf("%v has no %d to lose", a, v)
	}
	return out
}

// wantRoots holds the answers for a against the root, rounded down, that it has.
func wantRoots(t *testing.T, a, floor api.Nat, exact bool) {
	t.Helper()
	ceil := floor
	if !exact {
		ceil = more(floor, 1)
	}
	if got, is := root.Floor(a); !slices.Equal(got, floor) || is != exact {
		t.Errorf("Floor(%v) = %v, %v, want %v, %v", a, got, is, floor, exact)
	}
	if got := root.Ceil(a); !slices.Equal(got, ceil) {
		t.Errorf("Ceil(%v) = %v, want %v", a, got, ceil)
	}
}

// check holds the answers for a against the library's, and against what a root has to be.
func check(t *testing.T, a api.Nat) {
	t.Helper()
	whole := toBig(a)
	floor := new(big.Int).Sqrt(whole)
	wantRoots(t, a, fromBig(floor), new(big.Int).Mul(floor, floor).Cmp(whole) == 0)
	checkBounds(t, a)
}

// checkBounds asks what follows from the promises, without a root that is known.
func checkBounds(t *testing.T, a api.Nat) {
	t.Helper()
	floor, exact := root.Floor(a)
	ceil := root.Ceil(a)
	if nat.Cmp(square(floor), a) > 0 || nat.Cmp(square(more(floor, 1)), a) <= 0 {
		t.Errorf("Floor(%v) = %v: its square is above, or that of one more is not", a, floor)
	}
	if exact != (nat.Cmp(square(floor), a) == 0) {
		t.Errorf("Floor(%v) = %v, %v", a, floor, exact)
	}
	if nat.Cmp(square(ceil), a) < 0 || nat.Bits(ceil) > 0 && nat.Cmp(square(less(t, ceil, 1)), a) >= 0 {
		t.Errorf("Ceil(%v) = %v: its square is below, or that of one less is not", a, ceil)
	}
	if nat.Cmp(ceil, floor) != 0 && nat.Cmp(ceil, more(floor, 1)) != 0 {
		t.Errorf("%v: Floor %v, Ceil %v", a, floor, ceil)
	}
}

// checkAbout asks about all numbers where Floor turns to r: r's square, those beside it, and the last one ahead of the next square.
func checkAbout(t *testing.T, r api.Nat) {
	t.Helper()
	r = nat.Trim(r)
	s := square(r)
	wantRoots(t, s, r, true)
	if len(r) == 0 {
		return
	}
	wantRoots(t, less(t, s, 1), less(t, r, 1), len(r) == 1 && r[0] == 1)
	wantRoots(t, more(s, 1), r, false)
	wantRoots(t, nat.Add(s, nat.Add(r, r)), r, false)
	wantRoots(t, append(nat.Trim(s), 0, 0, 0), r, true)
	wantRoots(t, append(more(s, 1), 0), r, false)
}

func TestRoots(t *testing.T) {
	for _, c := range []struct {
		a, floor, ceil api.Nat
		exact          bool
	}{
		{nil, nil, nil, true},
		{api.Nat{}, nil, nil, true},
		{api.Nat{0}, nil, nil, true},
		{api.Nat{0, 0, 0, 0, 0}, nil, nil, true},
		{api.Nat{1}, api.Nat{1}, api.Nat{1}, true},
		{api.Nat{1, 0, 0}, api.Nat{1}, api.Nat{1}, true},
		{api.Nat{2}, api.Nat{1}, api.Nat{2}, false},
		{api.Nat{3}, api.Nat{1}, api.Nat{2}, false},
		{api.Nat{4}, api.Nat{2}, api.Nat{2}, true},
		{api.Nat{10}, api.Nat{3}, api.Nat{4}, false},
		{api.Nat{10, 0, 0, 0}, api.Nat{3}, api.Nat{4}, false},
		{api.Nat{full}, api.Nat{1<<16 - 1}, api.Nat{1 << 16}, false},
		{api.Nat{0, 1}, api.Nat{1 << 16}, api.Nat{1 << 16}, true},
		{api.Nat{1, full - 1}, api.Nat{full}, api.Nat{full}, true},
		{api.Nat{full, full}, api.Nat{full}, api.Nat{0, 1}, false},
		{api.Nat{0, 0, 1}, api.Nat{0, 1}, api.Nat{0, 1}, true},
		{api.Nat{1, 0, 1, 0}, api.Nat{0, 1}, api.Nat{1, 1}, false},
		{api.Nat{0, 0, 0, 0, 9}, api.Nat{0, 0, 3}, api.Nat{0, 0, 3}, true},
	} {
		floor, exact := root.Floor(c.a)
		ceil := root.Ceil(c.a)
		if !slices.Equal(floor, c.floor) || exact != c.exact || !slices.Equal(ceil, c.ceil) {
			t.Errorf("%v: Floor %v, %v, Ceil %v, want %v, %v, %v", c.a, floor, exact, ceil, c.floor, c.exact, c.ceil)
		}
	}
}

func TestNothing(t *testing.T) {
	for n := range 40 {
		wantRoots(t, long(n, 0), nil, true)
	}
	wantRoots(t, long(3000, 0), nil, true)
}

func TestFewLimbs(t *testing.T) {
	for v := range uint64(2000) {
		check(t, nat.Of(v))
		checkAbout(t, nat.Of(v))
	}
	for _, a := range numbers(4) {
		check(t, a)
	}
	for _, r := range numbers(3) {
		checkAbout(t, r)
	}
}

// Each number of bits has a first guess of its own.
func TestPowersOfTwo(t *testing.T) {
	for n := range 1200 {
		a := mul.Shift(nat.Of(1), n)
		check(t, a)
		check(t, less(t, a, 1))
		check(t, more(a, 1))
		checkAbout(t, a)
	}
}

func TestManyLimbs(t *testing.T) {
	for _, n := range lengths() {
		for _, r := range longs(n) {
			checkAbout(t, r)
		}
		for _, a := range longs(n) {
			checkBounds(t, a)
		}
	}
}

// The greatest number of n limbs has as its root, rounded up, 2 to the 16 n.
func TestGreatestNumbers(t *testing.T) {
	for _, n := range append(lengths(), 1, 2, 1400, 1401) {
		top := append(long(n/2, 0), 1)
		if n%2 == 1 {
			top[n/2] = 1 << 16
		}
		wantRoots(t, long(n, full), less(t, top, 1), false)
		wantRoots(t, more(long(n, full), 1), top, true)
		wantRoots(t, append(long(n, full), long(n, 0)...), less(t, top, 1), false)
	}
}

func TestRandomNumbers(t *testing.T) {
	r := rand.New(rand.NewSource(11))
	for range 4000 {
		check(t, random(r, 1+r.Intn(12)))
		checkAbout(t, random(r, 1+r.Intn(12)))
	}
	for range 40 {
		check(t, random(r, 1+r.Intn(600)))
		checkAbout(t, random(r, 1+r.Intn(600)))
	}
}

// One bit decides whether a long number is a square, wherever it stands.
func TestExactHangsOnEveryBit(t *testing.T) {
	r := random(rand.New(rand.NewSource(13)), 9)
	s := square(r)
	for i := range nat.Bits(s) {
		a := slices.Clone(s)
		a[i/32] ^= 1 << (i % 32)
		check(t, a)
	}
}

func TestVeryManyLimbs(t *testing.T) {
	r := rand.New(rand.NewSource(17))
	for _, n := range []int{2000, 2001, 2002, 2003} {
		checkBounds(t, random(r, n))
		checkBounds(t, long(n, full))
		checkBounds(t, append(long(n, 0), 1))
		checkAbout(t, random(r, n/2))
	}
}

// calls tells calls of every function.
func calls() map[string]func(a api.Nat) api.Nat {
	return map[string]func(a api.Nat) api.Nat{
		"Floor": func(a api.Nat) api.Nat { r, _ := root.Floor(a); return r },
		"Ceil":  root.Ceil,
	}
}

// roomy tells a with spare room, and all its memory.
func roomy(a api.Nat) (list, memory api.Nat) {
	memory = append(slices.Clone(a), mark, mark, mark)
	return memory[:len(a):len(memory)], memory
}

// scribble changes all memory of a list, its spare room too.
func scribble(a api.Nat) {
	a = a[:cap(a)]
	for i := range a {
		a[i] = ^a[i]
	}
}

func memoryLists() []api.Nat {
	return []api.Nat{
		nil,
		{},
		{0, 0},
		{1},
		{1, 0, 0},
		{4},
		{5},
		{full},
		{full, full},
		{5, 6, 7},
		{5, 6, 7, 8, 0, 0},
		{0, 0, 0, 0, 1},
		long(11, full),
		square(long(7, 9)),
		more(square(long(8, 9)), 1),
		append(long(600, 0), 1),
	}
}

func TestArgumentsAreLeftAndNotShared(t *testing.T) {
	for name, call := range calls() {
		for _, list := range memoryLists() {
			a, whole := roomy(list)
			before := slices.Clone(whole)
			first := call(a)
			want := slices.Clone(first)
			if !slices.Equal(whole, before) {
				t.Errorf("%s(%v) changed its argument", name, list)
			}
			scribble(call(a))
			if !slices.Equal(first, want) {
				t.Errorf("%s(%v): two answers share memory", name, list)
			}
			if !slices.Equal(whole, before) {
				t.Errorf("%s(%v): an answer shares the argument's memory", name, list)
			}
			scribble(a)
			if !slices.Equal(first, want) {
				t.Errorf("%s(%v) keeps the argument's memory", name, list)
			}
		}
	}
}

// Floor and Ceil of a square are the same number, in memory of their own.
func TestFloorAndCeilShareNothing(t *testing.T) {
	for _, list := range memoryLists() {
		floor, _ := root.Floor(list)
		ceil := root.Ceil(list)
		want := slices.Clone(floor)
		scribble(ceil)
		if !slices.Equal(floor, want) {
			t.Errorf("%v: Floor and Ceil share memory", list)
		}
	}
}
