package nat_test

import (
	"math"
	"math/big"
	"slices"
	"testing"

	"steelyard/api"
	"steelyard/nat"
)

const full = math.MaxUint32

// mark fills memory that a call has to leave as it is.
const mark = 0xdeadbeef

// numbers tells all lists of at most three limbs that are made of the limbs at which carries and borrows turn, those with limbs of 0 at the end included.
func numbers() []api.Nat {
	all := []api.Nat{nil, {}}
	last := []api.Nat{{}}
	for range 3 {
		var longer []api.Nat
		for _, a := range last {
			for _, limb := range []uint32{0, 1, 2, 1 << 31, full} {
				longer = append(longer, append(slices.Clone(a), limb))
			}
		}
		all = append(all, longer...)
		last = longer
	}
	return all
}

func toBig(a api.Nat) *big.Int {
	out := new(big.Int)
	for _, limb := range slices.Backward(a) {
		out.Lsh(out, 32)
		out.Or(out, big.NewInt(int64(limb)))
	}
	return out
}

func fromBig(v *big.Int) api.Nat {
	var out api.Nat
	mask := big.NewInt(full)
	for rest := new(big.Int).Set(v); rest.Sign() > 0; rest.Rsh(rest, 32) {
		out = append(out, uint32(new(big.Int).And(rest, mask).Uint64()))
	}
	return out
}

// long tells a number of n limbs that are all v.
func long(n int, v uint32) api.Nat {
	return slices.Repeat(api.Nat{v}, n)
}

func TestOf(t *testing.T) {
	for _, c := range []struct {
		v    uint64
		want api.Nat
	}{
		{0, nil},
		{1, api.Nat{1}},
		{full, api.Nat{full}},
		{1 << 32, api.Nat{0, 1}},
		{1<<32 + 7, api.Nat{7, 1}},
		{1 << 63, api.Nat{0, 1 << 31}},
		{math.MaxUint64, api.Nat{full, full}},
	} {
		if got := nat.Of(c.v); !slices.Equal(got, c.want) {
			t.Errorf("Of(%d) = %v, want %v", c.v, got, c.want)
		}
	}
}

func TestTrim(t *testing.T) {
	for _, c := range []struct{ a, want api.Nat }{
		{nil, nil},
		{api.Nat{}, nil},
		{api.Nat{0}, nil},
		{api.Nat{0, 0, 0}, nil},
		{api.Nat{5}, api.Nat{5}},
		{api.Nat{5, 0}, api.Nat{5}},
		{api.Nat{0, 5, 0, 0}, api.Nat{0, 5}},
		{api.Nat{0, 0, 1}, api.Nat{0, 0, 1}},
		{append(long(100, 0), 1, 0), append(long(100, 0), 1)},
	} {
		if got := nat.Trim(c.a); !slices.Equal(got, c.want) {
			t.Errorf("Trim(%v) = %v, want %v", c.a, got, c.want)
		}
	}
}

func TestAgainstBig(t *testing.T) {
	all := numbers()
	for _, a := range all {
		x := toBig(a)
		if got := nat.Trim(a); !slices.Equal(got, fromBig(x)) {
			t.Errorf("Trim(%v) = %v", a, got)
		}
		if got := nat.Bits(a); got != x.BitLen() {
			t.Errorf("Bits(%v) = %d, want %d", a, got, x.BitLen())
		}
		for i := range 130 {
			if got := nat.Bit(a, i); got != (x.Bit(i) == 1) {
				t.Errorf("Bit(%v, %d) = %v", a, i, got)
			}
		}
		for _, b := range all {
			checkPair(t, a, b, x, toBig(b))
		}
	}
}

func checkPair(t *testing.T, a, b api.Nat, x, y *big.Int) {
	t.Helper()
	if got := nat.Cmp(a, b); got != x.Cmp(y) {
		t.Errorf("Cmp(%v, %v) = %d", a, b, got)
	}
	sum := fromBig(new(big.Int).Add(x, y))
	if got := nat.Add(a, b); !slices.Equal(got, sum) {
		t.Errorf("Add(%v, %v) = %v, want %v", a, b, got, sum)
	}
	left, ok := nat.Sub(a, b)
	want := fromBig(new(big.Int).Sub(x, y))
	if ok != (x.Cmp(y) >= 0) || !slices.Equal(left, want) {
		t.Errorf("Sub(%v, %v) = %v, %v, want %v", a, b, left, ok, want)
	}
}

func TestCarryThroughManyLimbs(t *testing.T) {
	const n = 3 * api.MaxLimbs
	all, one := long(n, full), api.Nat{1}
	top := append(long(n, 0), 1)
	for _, sum := range []api.Nat{nat.Add(all, one), nat.Add(one, all)} {
		if !slices.Equal(sum, top) {
			t.Errorf("carry: %v", sum)
		}
	}
	if left, ok := nat.Sub(top, one); !ok || !slices.Equal(left, all) {
		t.Errorf("borrow: %v, %v", left, ok)
	}
	if left, ok := nat.Sub(append(slices.Clone(top), 0, 0), append(slices.Clone(top), 0)); !ok || len(left) != 0 {
		t.Errorf("equal: %v, %v", left, ok)
	}
	if left, ok := nat.Sub(all, top); ok || len(left) != 0 {
		t.Errorf("above: %v, %v", left, ok)
	}
	// The answer has none of the limbs that became 0.
	if left, ok := nat.Sub(top, all); !ok || !slices.Equal(left, one) {
		t.Errorf("limbs of 0: %v, %v", left, ok)
	}
}

func TestSubTellsNothingBelowZero(t *testing.T) {
	for _, c := range []struct{ a, b api.Nat }{
		{nil, api.Nat{1}},
		{api.Nat{0, 0}, api.Nat{1}},
		{api.Nat{4}, api.Nat{5}},
		{api.Nat{full}, api.Nat{0, 1}},
		{api.Nat{full, 1}, api.Nat{0, 2}},
		{api.Nat{1, 7, 0, 0}, api.Nat{2, 7}},
	} {
		if left, ok := nat.Sub(c.a, c.b); ok || len(left) != 0 {
			t.Errorf("Sub(%v, %v) = %v, %v", c.a, c.b, left, ok)
		}
	}
}

func TestBitBelowAndBeyond(t *testing.T) {
	a := api.Nat{full, full, 0, 0}
	for _, i := range []int{math.MinInt, -1 << 40, -64, -33, -32, -31, -1, 64, 65, 96, 128, 1 << 40, math.MaxInt} {
		if nat.Bit(a, i) {
			t.Errorf("Bit(%d) is set", i)
		}
	}
	for i := range 64 {
		if !nat.Bit(a, i) {
			t.Errorf("Bit(%d) is not set", i)
		}
	}
	for _, i := range []int{math.MinInt, -1, 0, 1, math.MaxInt} {
		if nat.Bit(nil, i) || nat.Bit(api.Nat{}, i) || nat.Bit(api.Nat{0}, i) {
			t.Errorf("Bit(%d) of 0 is set", i)
		}
	}
}

func TestBitsEdges(t *testing.T) {
	for _, c := range []struct {
		a    api.Nat
		want int
	}{
		{nil, 0},
		{api.Nat{}, 0},
		{api.Nat{0, 0}, 0},
		{api.Nat{1}, 1},
		{api.Nat{full}, 32},
		{api.Nat{0, 1}, 33},
		{api.Nat{full, 0, 0}, 32},
		{long(1000, full), 32000},
	} {
		if got := nat.Bits(c.a); got != c.want {
			t.Errorf("Bits(%v) = %d, want %d", c.a, got, c.want)
		}
	}
}

func TestSubOfAddIsTheNumber(t *testing.T) {
	all := append(numbers(), long(80, full), append(long(79, 0), 1))
	for _, a := range all {
		for _, b := range all {
			sum := nat.Add(a, b)
			if back := nat.Add(b, a); !slices.Equal(sum, back) {
				t.Errorf("Add(%v, %v) = %v, the other way %v", a, b, sum, back)
			}
			left, ok := nat.Sub(sum, b)
			if !ok || !slices.Equal(left, nat.Trim(a)) {
				t.Errorf("Sub(%v, %v) = %v, %v, want %v", sum, b, left, ok, a)
			}
		}
	}
}

// calls tells every call that answers a number, as one of two numbers.
func calls() map[string]func(a, b api.Nat) api.Nat {
	return map[string]func(a, b api.Nat) api.Nat{
		"Of":   func(a, _ api.Nat) api.Nat { return nat.Of(uint64(len(a))<<32 + 1) },
		"Trim": func(a, _ api.Nat) api.Nat { return nat.Trim(a) },
		"Add":  nat.Add,
		"Sub":  func(a, b api.Nat) api.Nat { left, _ := nat.Sub(a, b); return left },
	}
}

// roomy tells a with spare room, and all its memory.
func roomy(a api.Nat) (list, memory api.Nat) {
	memory = append(slices.Clone(a), mark, mark, mark)
	return memory[:len(a):len(memory)], memory
}

// scribble changes all memory of a list, its spare room too.
func scribble(a api.Nat) {
	a = a[:cap(a)]
	for i := range a {
		a[i] = ^a[i]
	}
}

func memoryPairs() [][2]api.Nat {
	return [][2]api.Nat{
		{nil, nil},
		{{}, {0}},
		{{5, 6}, nil},
		{nil, {5, 6}},
		{{5, 6}, {0, 0}},
		{{0, 0}, {5, 6}},
		{{5, 6, 0, 0}, {1}},
		{{full, full}, {1}},
		{{1}, {full, full}},
		{{0, 0, 1}, {1}},
		{{7, 8}, {7, 8}},
		{{7, 8}, {7, 9}},
	}
}

func TestArgumentsAreLeftAndNotShared(t *testing.T) {
	for name, call := range calls() {
		for _, p := range memoryPairs() {
			a, wholeA := roomy(p[0])
			b, wholeB := roomy(p[1])
			beforeA, beforeB := slices.Clone(wholeA), slices.Clone(wholeB)
			first := call(a, b)
			want := slices.Clone(first)
			if !slices.Equal(wholeA, beforeA) || !slices.Equal(wholeB, beforeB) {
				t.Errorf("%s(%v, %v) changed an argument", name, p[0], p[1])
			}
			second := call(a, b)
			scribble(second)
			if !slices.Equal(first, want) {
				t.Errorf("%s(%v, %v): two answers share memory", name, p[0], p[1])
			}
			if !slices.Equal(wholeA, beforeA) || !slices.Equal(wholeB, beforeB) {
				t.Errorf("%s(%v, %v): an answer shares an argument's memory", name, p[0], p[1])
			}
			scribble(a)
			scribble(b)
			if !slices.Equal(first, want) {
				t.Errorf("%s(%v, %v) keeps an argument's memory", name, p[0], p[1])
			}
		}
	}
}

func TestQuestionsLeaveArguments(t *testing.T) {
	for _, p := range memoryPairs() {
		a, wholeA := roomy(p[0])
		b, wholeB := roomy(p[1])
		beforeA, beforeB := slices.Clone(wholeA), slices.Clone(wholeB)
		nat.Cmp(a, b)
		nat.Bits(a)
		nat.Bit(b, 0)
		if !slices.Equal(wholeA, beforeA) || !slices.Equal(wholeB, beforeB) {
			t.Errorf("%v, %v: an argument was changed", p[0], p[1])
		}
	}
}

func TestOneListAsBothArguments(t *testing.T) {
	a, whole := roomy(api.Nat{full, 1, 0})
	before := slices.Clone(whole)
	sum := nat.Add(a, a)
	left, ok := nat.Sub(a, a)
	if !slices.Equal(sum, api.Nat{full - 1, 3}) || !ok || len(left) != 0 || nat.Cmp(a, a) != 0 {
		t.Errorf("Add %v, Sub %v, %v", sum, left, ok)
	}
	scribble(sum)
	scribble(left)
	if !slices.Equal(whole, before) {
		t.Errorf("changed: %v", whole)
	}
}
