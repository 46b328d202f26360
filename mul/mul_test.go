package mul_test

import (
	"math"
	"math/big"
	"slices"
	"testing"

	"steelyard/api"
	"steelyard/mul"
	"steelyard/nat"
)

const (
	full = math.MaxUint32
	// mark fills memory that a call has to leave as it is.
	mark = 0xdeadbeef
	// most is how many limbs a step of Pow may have, far how many bits a number is shifted at most.
	most = 4 * api.MaxLimbs
	far  = 32 * most
)

// numbers tells all lists of at most so many limbs that are made of the limbs at which carries turn, those with limbs of 0 at the end included.
func numbers(limbs int) []api.Nat {
	all := []api.Nat{nil, {}}
	last := []api.Nat{{}}
	for range limbs {
		var longer []api.Nat
		for _, a := range last {
			for _, limb := range edges() {
				longer = append(longer, append(slices.Clone(a), limb))
			}
		}
		all = append(all, longer...)
		last = longer
	}
	return all
}

func edges() []uint32 {
	return []uint32{0, 1, 2, 1 << 31, full}
}

// longs tells numbers of many limbs, some with limbs of 0 below, between and at the end.
func longs() []api.Nat {
	return []api.Nat{
		long(api.MaxLimbs, full),
		long(most, full),
		long(most+1, full),
		append(long(most, 0), 1),
		append(long(70, full), 0, 0, 0),
		slices.Concat(long(3, full), long(40, 0), long(2, 1<<31)),
		slices.Repeat(api.Nat{0x9abcdef1, 0, 0x12345678}, 20),
	}
}

func toBig(a api.Nat) *big.Int {
	out := new(big.Int)
	for _, limb := range slices.Backward(a) {
		out.Lsh(out, 32)
		out.Or(out, big.NewInt(int64(limb)))
	}
	return out
}

func fromBig(v *big.Int) api.Nat {
	var out api.Nat
	mask := big.NewInt(full)
	for rest := new(big.Int).Set(v); rest.Sign() > 0; rest.Rsh(rest, 32) {
		out = append(out, uint32(new(big.Int).And(rest, mask).Uint64()))
	}
	return out
}

// long tells a number of n limbs that are all v.
func long(n int, v uint32) api.Nat {
	return slices.Repeat(api.Nat{v}, n)
}

func TestOf(t *testing.T) {
	all := append(numbers(3), longs()...)
	large := make([]*big.Int, len(all))
	for i, a := range all {
		large[i] = toBig(a)
	}
	for i, a := range all {
		for j, b := range all {
			want := fromBig(new(big.Int).Mul(large[i], large[j]))
			if got := mul.Of(a, b); !slices.Equal(got, want) {
				t.Errorf("Of(%v, %v) = %v, want %v", a, b, got, want)
			}
		}
	}
}

func TestSmall(t *testing.T) {
	for _, a := range append(numbers(3), longs()...) {
		for _, v := range append(edges(), 3, 10, 1000000000, full-1) {
			want := fromBig(new(big.Int).Mul(toBig(a), big.NewInt(int64(v))))
			if got := mul.Small(a, v); !slices.Equal(got, want) {
				t.Errorf("Small(%v, %d) = %v, want %v", a, v, got, want)
			}
			if got := mul.Of(a, nat.Of(uint64(v))); !slices.Equal(got, want) {
				t.Errorf("Of(%v, %d) = %v, want %v", a, v, got, want)
			}
		}
	}
}

func shifted(a api.Nat, n int) api.Nat {
	if n < 0 {
		return fromBig(new(big.Int).Rsh(toBig(a), uint(-n)))
	}
	return fromBig(new(big.Int).Lsh(toBig(a), uint(n)))
}

func TestShift(t *testing.T) {
	for _, a := range append(numbers(3), longs()...) {
		for n := -100; n <= 100; n++ {
			if got, want := mul.Shift(a, n), shifted(a, n); !slices.Equal(got, want) {
				t.Errorf("Shift(%v, %d) = %v, want %v", a, n, got, want)
			}
		}
	}
}

func TestShiftFar(t *testing.T) {
	for _, a := range append(longs(), nil, api.Nat{}, api.Nat{0, 0}, api.Nat{1}, api.Nat{full, 0}, api.Nat{0, 5}) {
		for _, n := range []int{far - 1, far, far + 1, far + 32, 2 * far, 1 << 40, math.MaxInt} {
			if got, want := mul.Shift(a, n), shifted(a, min(n, far)); !slices.Equal(got, want) {
				t.Errorf("Shift of %d limbs by %d: %d limbs, want %d", len(a), n, len(got), len(want))
			}
		}
		for _, n := range []int{-far + 1, -far} {
			if got, want := mul.Shift(a, n), shifted(a, n); !slices.Equal(got, want) {
				t.Errorf("Shift of %d limbs by %d: %v, want %v", len(a), n, got, want)
			}
		}
		for _, n := range []int{-far - 1, -far - 32, -2 * far, -1 << 40, math.MinInt + 1, math.MinInt} {
			if got := mul.Shift(a, n); len(got) != 0 {
				t.Errorf("Shift of %d limbs by %d: %v, want 0", len(a), n, got)
			}
		}
	}
}

// A number with more limbs than the bound leaves something at the bound, and nothing below it.
func TestShiftOfMoreLimbsThanTheBound(t *testing.T) {
	a := append(long(most, full), 6, 7)
	if got := mul.Shift(a, -far); !slices.Equal(got, api.Nat{6, 7}) {
		t.Errorf("at the bound: %v", got)
	}
	if got := mul.Shift(a, -far+1); !slices.Equal(got, api.Nat{13, 14}) {
		t.Errorf("above the bound: %v", got)
	}
	if got := mul.Shift(a, -far-1); len(got) != 0 {
		t.Errorf("below the bound: %v", got)
	}
}

func TestPow(t *testing.T) {
	for _, a := range append(numbers(2), api.Nat{3}, api.Nat{10}, api.Nat{7, 0, 0}, api.Nat{0x9abcdef1, 5, 0x12345678}) {
		for n := range 71 {
			want := fromBig(new(big.Int).Exp(toBig(a), big.NewInt(int64(n)), nil))
			if got, ok := mul.Pow(a, n); !ok || !slices.Equal(got, want) {
				t.Errorf("Pow(%v, %d) = %v, %v, want %v", a, n, got, ok, want)
			}
		}
	}
}

func TestPowOfNothingAndOne(t *testing.T) {
	for _, a := range []api.Nat{nil, {}, {0}, {0, 0}} {
		if got, ok := mul.Pow(a, 0); !ok || !slices.Equal(got, api.Nat{1}) {
			t.Errorf("Pow(%v, 0) = %v, %v", a, got, ok)
		}
		for _, n := range []int{1, 2, 9000, math.MaxInt} {
			if got, ok := mul.Pow(a, n); !ok || len(got) != 0 {
				t.Errorf("Pow(%v, %d) = %v, %v", a, n, got, ok)
			}
		}
	}
	for _, a := range []api.Nat{{1}, {1, 0, 0}} {
		for _, n := range []int{0, 1, 2, 9000, math.MaxInt} {
			if got, ok := mul.Pow(a, n); !ok || !slices.Equal(got, api.Nat{1}) {
				t.Errorf("Pow(%v, %d) = %v, %v", a, n, got, ok)
			}
		}
	}
}

func TestPowAtTheLimit(t *testing.T) {
	for _, c := range []struct {
		a    api.Nat
		most int
	}{
		{api.Nat{2}, 8191},
		{api.Nat{3}, 5168},
		{api.Nat{0, 1}, 255},
		{api.Nat{full}, 256},
		{api.Nat{full, 0, 0}, 256},
		{long(api.MaxLimbs, full), 4},
		{long(2*api.MaxLimbs, full), 2},
		{append(long(api.MaxLimbs, 0), 1), 3},
		{append(long(2*api.MaxLimbs, 0), 1), 1},
		{long(most, full), 1},
		{append(long(most, 1), 0, 0), 1},
		{append(long(most, 0), 1), 0},
		{long(2000, 1), 0},
	} {
		want := fromBig(new(big.Int).Exp(toBig(c.a), big.NewInt(int64(c.most)), nil))
		if got, ok := mul.Pow(c.a, c.most); !ok || !slices.Equal(got, want) {
			t.Errorf("Pow of %d limbs, %d: %d limbs, %v, want %d", len(c.a), c.most, len(got), ok, len(want))
		}
		for _, n := range []int{c.most + 1, 2*c.most + 1, 10000, 1 << 40, math.MaxInt} {
			if got, ok := mul.Pow(c.a, n); ok || len(got) != 0 {
				t.Errorf("Pow of %d limbs, %d: %d limbs, %v, want none", len(c.a), n, len(got), ok)
			}
		}
	}
}

func TestPowBelowNothing(t *testing.T) {
	for _, a := range []api.Nat{nil, {0}, {1}, {2}, long(most+1, 1)} {
		for _, n := range []int{-1, -2, -64, math.MinInt + 1, math.MinInt} {
			if got, ok := mul.Pow(a, n); ok || len(got) != 0 {
				t.Errorf("Pow(%v, %d) = %v, %v", a, n, got, ok)
			}
		}
	}
}

func TestOrderAndSums(t *testing.T) {
	all := append(numbers(2), longs()...)
	for _, a := range all {
		for _, b := range all {
			product := mul.Of(a, b)
			if back := mul.Of(b, a); !slices.Equal(product, back) {
				t.Errorf("Of(%v, %v) = %v, the other way %v", a, b, product, back)
			}
			for _, c := range []api.Nat{nil, {1, 0}, {full, full}, long(30, full)} {
				whole := mul.Of(nat.Add(a, b), c)
				parts := nat.Add(mul.Of(a, c), mul.Of(b, c))
				if !slices.Equal(whole, parts) {
					t.Errorf("%v and %v times %v: %v, by parts %v", a, b, c, whole, parts)
				}
				if left, right := mul.Of(product, c), mul.Of(a, mul.Of(b, c)); !slices.Equal(left, right) {
					t.Errorf("%v, %v and %v: %v, the other way %v", a, b, c, left, right)
				}
			}
		}
	}
}

// calls tells calls of every function, each of two numbers.
func calls() map[string]func(a, b api.Nat) api.Nat {
	shift := func(n int) func(a, b api.Nat) api.Nat {
		return func(a, _ api.Nat) api.Nat { return mul.Shift(a, n) }
	}
	pow := func(n int) func(a, b api.Nat) api.Nat {
		return func(a, _ api.Nat) api.Nat { power, _ := mul.Pow(a, n); return power }
	}
	return map[string]func(a, b api.Nat) api.Nat{
		"Of":             mul.Of,
		"Small by 0":     func(a, _ api.Nat) api.Nat { return mul.Small(a, 0) },
		"Small by 1":     func(a, _ api.Nat) api.Nat { return mul.Small(a, 1) },
		"Small by 7":     func(a, _ api.Nat) api.Nat { return mul.Small(a, 7) },
		"Shift by 0":     shift(0),
		"Shift by 33":    shift(33),
		"Shift by 64":    shift(64),
		"Shift by -1":    shift(-1),
		"Shift by -32":   shift(-32),
		"Shift by -far":  shift(-far - 1),
		"Pow 0":          pow(0),
		"Pow 1":          pow(1),
		"Pow 5":          pow(5),
		"Pow below zero": pow(-1),
	}
}

// roomy tells a with spare room, and all its memory.
func roomy(a api.Nat) (list, memory api.Nat) {
	memory = append(slices.Clone(a), mark, mark, mark)
	return memory[:len(a):len(memory)], memory
}

// scribble changes all memory of a list, its spare room too.
func scribble(a api.Nat) {
	a = a[:cap(a)]
	for i := range a {
		a[i] = ^a[i]
	}
}

func memoryPairs() [][2]api.Nat {
	return [][2]api.Nat{
		{nil, nil},
		{{}, {0}},
		{{1}, {5, 6}},
		{{5, 6}, {1}},
		{{5, 6}, {1, 0, 0}},
		{{5, 6}, {0, 0}},
		{{0, 0}, {5, 6}},
		{{5, 6, 0, 0}, {0, 1}},
		{{full, full}, {full}},
		{{7, 8, 9}, {7, 8, 9}},
	}
}

func TestArgumentsAreLeftAndNotShared(t *testing.T) {
	for name, call := range calls() {
		for _, p := range memoryPairs() {
			a, wholeA := roomy(p[0])
			b, wholeB := roomy(p[1])
			beforeA, beforeB := slices.Clone(wholeA), slices.Clone(wholeB)
			first := call(a, b)
			want := slices.Clone(first)
			if !slices.Equal(wholeA, beforeA) || !slices.Equal(wholeB, beforeB) {
				t.Errorf("%s of %v, %v changed an argument", name, p[0], p[1])
			}
			second := call(a, b)
			scribble(second)
			if !slices.Equal(first, want) {
				t.Errorf("%s of %v, %v: two answers share memory", name, p[0], p[1])
			}
			if !slices.Equal(wholeA, beforeA) || !slices.Equal(wholeB, beforeB) {
				t.Errorf("%s of %v, %v: an answer shares an argument's memory", name, p[0], p[1])
			}
			scribble(a)
			scribble(b)
			if !slices.Equal(first, want) {
				t.Errorf("%s of %v, %v keeps an argument's memory", name, p[0], p[1])
			}
		}
	}
}

func TestOneListAsBothArguments(t *testing.T) {
	a, whole := roomy(api.Nat{full, full, 0})
	before := slices.Clone(whole)
	square := mul.Of(a, a)
	if !slices.Equal(square, api.Nat{1, 0, full - 1, full}) {
		t.Errorf("square: %v", square)
	}
	scribble(square)
	if !slices.Equal(whole, before) {
		t.Errorf("changed: %v", whole)
	}
}
