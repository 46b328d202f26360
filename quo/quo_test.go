package quo_test

import (
	"math"
	"math/big"
	"math/rand"
	"slices"
	"testing"

	"steelyard/api"
	"steelyard/mul"
	"steelyard/nat"
	"steelyard/quo"
)

const (
	full = math.MaxUint32
	// mark fills memory that a call has to leave as it is.
	mark = 0xdeadbeef
)

// edges tells the limbs at which guesses, borrows and carries turn.
func edges() []uint32 {
	return []uint32{0, 1, 2, 1<<31 - 1, 1 << 31, full - 1, full}
}

// numbers tells all lists of at most so many limbs that are made of edges, those with limbs of 0 at the end included.
func numbers(limbs int) []api.Nat {
	all := []api.Nat{nil, {}}
	last := []api.Nat{{}}
	for range limbs {
		var longer []api.Nat
		for _, a := range last {
			for _, limb := range edges() {
				longer = append(longer, append(slices.Clone(a), limb))
			}
		}
		all = append(all, longer...)
		last = longer
	}
	return all
}

// longs tells numbers of many limbs, with each of 0, 1, 2 to the 31 and the greatest below, between and at the top, also at the end of the list.
func longs() []api.Nat {
	limbs := []uint32{0, 1, 1 << 31, full}
	var all []api.Nat
	for i, top := range limbs {
		for k, between := range limbs {
			low := limbs[(i+k)%len(limbs)]
			all = append(all, slices.Concat(long(20+i, low), long(30+k, between), long(1, top)))
			all = append(all, slices.Concat(long(1, low), long(2, between), long(3, top)))
		}
	}
	return append(all,
		long(4*api.MaxLimbs+3, full),
		append(long(300, 0), 1),
		append(long(70, full), 0, 0, 0),
		slices.Repeat(api.Nat{0x9abcdef1, 0, 0x12345678}, 20),
	)
}

// random tells a number of n limbs, about half of them edges.
func random(r *rand.Rand, n int) api.Nat {
	out := make(api.Nat, n)
	for i := range out {
		out[i] = r.Uint32()
		if r.Intn(2) == 0 {
			out[i] = edges()[r.Intn(len(edges()))]
		}
	}
	return out
}

func toBig(a api.Nat) *big.Int {
	out := new(big.Int)
	for _, limb := range slices.Backward(a) {
		out.Lsh(out, 32)
		out.Or(out, big.NewInt(int64(limb)))
	}
	return out
}

func fromBig(v *big.Int) api.Nat {
	var out api.Nat
	mask := big.NewInt(full)
	for rest := new(big.Int).Set(v); rest.Sign() > 0; rest.Rsh(rest, 32) {
		out = append(out, uint32(new(big.Int).And(rest, mask).Uint64()))
	}
	return out
}

// long tells a number of n limbs that are all v.
func long(n int, v uint32) api.Nat {
	return slices.Repeat(api.Nat{v}, n)
}

// checkRem holds Rem's answer against the library's, and against what the quotient and what is left make.
func checkRem(t *testing.T, a, b api.Nat) {
	t.Helper()
	q, r, ok := quo.Rem(a, b)
	if nat.Bits(b) == 0 {
		if ok || len(q) != 0 || len(r) != 0 {
			t.Errorf("Rem(%v, %v) = %v, %v, %v, want nothing", a, b, q, r, ok)
		}
		return
	}
	wantQ, wantR := new(big.Int).QuoRem(toBig(a), toBig(b), new(big.Int))
	if !ok || !slices.Equal(q, fromBig(wantQ)) || !slices.Equal(r, fromBig(wantR)) {
		t.Errorf("Rem(%v, %v) = %v, %v, %v, want %v, %v", a, b, q, r, ok, fromBig(wantQ), fromBig(wantR))
	}
	if back := nat.Add(mul.Of(q, b), r); nat.Cmp(back, a) != 0 || nat.Cmp(r, b) >= 0 {
		t.Errorf("Rem(%v, %v) = %v, %v, that is of %v", a, b, q, r, back)
	}
}

func TestRem(t *testing.T) {
	for _, c := range []struct{ a, b, q, r api.Nat }{
		{nil, api.Nat{3}, nil, nil},
		{api.Nat{}, api.Nat{3, 4}, nil, nil},
		{api.Nat{0, 0}, api.Nat{3, 0}, nil, nil},
		{api.Nat{17}, api.Nat{5}, api.Nat{3}, api.Nat{2}},
		{api.Nat{17, 0}, api.Nat{5, 0, 0}, api.Nat{3}, api.Nat{2}},
		{api.Nat{2}, api.Nat{5}, nil, api.Nat{2}},
		{api.Nat{2, 3, 0, 0}, api.Nat{0, 0, 1}, nil, api.Nat{2, 3}},
		{api.Nat{5}, api.Nat{5}, api.Nat{1}, nil},
		{api.Nat{5, 6, 7}, api.Nat{5, 6, 7}, api.Nat{1}, nil},
		{api.Nat{5, 6, 7}, api.Nat{6, 6, 7}, nil, api.Nat{5, 6, 7}},
		{api.Nat{5, 6, 7}, api.Nat{4, 6, 7, 0}, api.Nat{1}, api.Nat{1}},
		{api.Nat{7, 8, 9}, api.Nat{1}, api.Nat{7, 8, 9}, nil},
		{api.Nat{full, full}, api.Nat{full}, api.Nat{1, 1}, nil},
		{api.Nat{7, 8, 9}, api.Nat{0, 1}, api.Nat{8, 9}, api.Nat{7}},
		{api.Nat{0, 0, 1}, api.Nat{1, 1}, api.Nat{full}, api.Nat{1}},
	} {
		q, r, ok := quo.Rem(c.a, c.b)
		if !ok || !slices.Equal(q, c.q) || !slices.Equal(r, c.r) {
			t.Errorf("Rem(%v, %v) = %v, %v, %v, want %v, %v", c.a, c.b, q, r, ok, c.q, c.r)
		}
	}
}

func TestRemByNothing(t *testing.T) {
	for _, a := range append(longs(), nil, api.Nat{}, api.Nat{0}, api.Nat{1}, api.Nat{5, 6}) {
		for _, b := range []api.Nat{nil, {}, {0}, {0, 0, 0}, long(300, 0)} {
			if q, r, ok := quo.Rem(a, b); ok || len(q) != 0 || len(r) != 0 {
				t.Errorf("Rem(%v, %v) = %v, %v, %v", a, b, q, r, ok)
			}
		}
	}
}

func TestRemOfFewLimbs(t *testing.T) {
	all := numbers(3)
	for _, a := range all {
		for _, b := range all {
			checkRem(t, a, b)
		}
	}
}

func TestRemOfManyLimbs(t *testing.T) {
	all := append(longs(), numbers(1)...)
	for _, a := range all {
		for _, b := range all {
			checkRem(t, a, b)
			checkRem(t, mul.Of(a, b), b)
		}
	}
}

// A quotient's limb is found from the highest limbs; here what is lower makes it one less than these tell.
func TestRemWhereTheHighestLimbsMislead(t *testing.T) {
	const half = 1 << 31
	for _, c := range [][2]api.Nat{
		{{0, 0, half, half - 1}, {1, 0, half}},
		{{3, 0, half}, {1, 0, 1 << 29}},
		{{0, 0, 0, half, half - 1}, {1, 0, 0, half}},
		{{0, full - 1, half}, {full, half}},
		{{0, 0, 0, half}, {full, 0, half}},
	} {
		checkRem(t, c[0], c[1])
	}
	r := rand.New(rand.NewSource(3))
	for range 20000 {
		b := append(random(r, 1+r.Intn(6)), 1+r.Uint32()>>r.Intn(32))
		q := random(r, 1+r.Intn(6))
		over := mul.Of(nat.Add(q, nat.Of(1)), b)
		below, _ := nat.Sub(over, nat.Of(1))
		checkRem(t, below, b)
		checkRem(t, over, b)
		checkRem(t, random(r, r.Intn(12)), b)
	}
}

func TestSmall(t *testing.T) {
	for _, a := range append(longs(), numbers(3)...) {
		for _, v := range append(edges(), 3, 10, 1000000000) {
			q, r, ok := quo.Small(a, v)
			if v == 0 {
				if ok || r != 0 || len(q) != 0 {
					t.Errorf("Small(%v, 0) = %v, %d, %v, want nothing", a, q, r, ok)
				}
				continue
			}
			wantQ, wantR := new(big.Int).QuoRem(toBig(a), big.NewInt(int64(v)), new(big.Int))
			if !ok || !slices.Equal(q, fromBig(wantQ)) || uint64(r) != wantR.Uint64() {
				t.Errorf("Small(%v, %d) = %v, %d, %v, want %v, %v", a, v, q, r, ok, fromBig(wantQ), wantR)
			}
			if back := nat.Add(mul.Small(q, v), nat.Of(uint64(r))); nat.Cmp(back, a) != 0 || r >= v {
				t.Errorf("Small(%v, %d) = %v, %d, that is of %v", a, v, q, r, back)
			}
		}
	}
}

func checkGcd(t *testing.T, a, b api.Nat) {
	t.Helper()
	want := fromBig(new(big.Int).GCD(nil, nil, toBig(a), toBig(b)))
	if got := quo.Gcd(a, b); !slices.Equal(got, want) {
		t.Errorf("Gcd(%v, %v) = %v, want %v", a, b, got, want)
	}
	if got := quo.Gcd(b, a); !slices.Equal(got, want) {
		t.Errorf("Gcd(%v, %v) = %v, want %v", b, a, got, want)
	}
}

func TestGcd(t *testing.T) {
	for _, c := range []struct{ a, b, want api.Nat }{
		{nil, nil, nil},
		{api.Nat{}, api.Nat{0, 0}, nil},
		{nil, api.Nat{7}, api.Nat{7}},
		{api.Nat{0, 0}, api.Nat{7, 0}, api.Nat{7}},
		{nil, api.Nat{1, 2, 3, 4, 0}, api.Nat{1, 2, 3, 4}},
		{api.Nat{1}, api.Nat{1, 2, 3}, api.Nat{1}},
		{api.Nat{12}, api.Nat{18}, api.Nat{6}},
		{api.Nat{12, 0}, api.Nat{18, 0, 0}, api.Nat{6}},
		{api.Nat{0, 12}, api.Nat{0, 0, 18}, api.Nat{0, 12}},
		{api.Nat{5, 6, 7}, api.Nat{5, 6, 7}, api.Nat{5, 6, 7}},
		{api.Nat{full, full, full}, api.Nat{full, full}, api.Nat{full}},
		{api.Nat{full, full, full, full}, api.Nat{full, full}, api.Nat{full, full}},
		{api.Nat{0, 0, 0, 1}, api.Nat{3, 6, 9}, api.Nat{1}},
	} {
		for _, got := range []api.Nat{quo.Gcd(c.a, c.b), quo.Gcd(c.b, c.a)} {
			if !slices.Equal(got, c.want) {
				t.Errorf("Gcd(%v, %v) = %v, want %v", c.a, c.b, got, c.want)
			}
		}
	}
}

func TestGcdAgainstBig(t *testing.T) {
	few := numbers(2)
	for _, a := range few {
		for _, b := range few {
			checkGcd(t, a, b)
			checkGcd(t, append(api.Nat{1, full}, a...), append(api.Nat{full - 1}, b...))
		}
	}
	all := append(longs(), nil, api.Nat{0}, api.Nat{1, 0}, api.Nat{full}, api.Nat{0, 6})
	for _, a := range all {
		for _, b := range all {
			checkGcd(t, a, b)
			checkGcd(t, mul.Of(a, api.Nat{0, 30, 1}), mul.Of(b, api.Nat{0, 0, 42}))
		}
	}
}

// Numbers are made here from the quotients of their division by each other, so that all of them are met: long rows of 1, those about 2 to the 31, and those that no limb holds.
func TestGcdOfChosenQuotients(t *testing.T) {
	r := rand.New(rand.NewSource(5))
	quotients := []uint64{1, 1, 1, 2, 3, 1<<31 - 1, 1 << 31, 1<<31 + 1, full, 1 << 32, 1 << 33, 1 << 62, math.MaxUint64}
	for range 3000 {
		a, b := nat.Of(r.Uint64()>>r.Intn(64)), api.Nat(nil)
		common := nat.Trim(a)
		others := r.Intn(4)
		for range r.Intn(150) {
			q := uint64(1)
			if r.Intn(4) < others {
				q = quotients[r.Intn(len(quotients))]
			}
			a, b = nat.Add(mul.Of(a, nat.Of(q)), b), a
		}
		checkGcd(t, a, b)
		if got := quo.Gcd(a, b); !slices.Equal(got, common) {
			t.Errorf("Gcd(%v, %v) = %v, want %v", a, b, got, common)
		}
	}
}

func TestGcdOfRandomNumbers(t *testing.T) {
	r := rand.New(rand.NewSource(7))
	for range 10000 {
		a, b, c := random(r, r.Intn(9)), random(r, r.Intn(9)), random(r, r.Intn(4))
		checkGcd(t, a, b)
		checkGcd(t, mul.Of(a, c), mul.Of(b, c))
	}
	a, b, c := random(r, 600), random(r, 550), random(r, 100)
	checkGcd(t, mul.Of(a, c), mul.Of(b, c))
}

// calls tells calls of every function, each of two numbers, with all lists that it answers.
func calls() map[string]func(a, b api.Nat) []api.Nat {
	small := func(v uint32) func(a, b api.Nat) []api.Nat {
		return func(a, _ api.Nat) []api.Nat { q, _, _ := quo.Small(a, v); return []api.Nat{q} }
	}
	return map[string]func(a, b api.Nat) []api.Nat{
		"Rem":        func(a, b api.Nat) []api.Nat { q, r, _ := quo.Rem(a, b); return []api.Nat{q, r} },
		"Gcd":        func(a, b api.Nat) []api.Nat { return []api.Nat{quo.Gcd(a, b)} },
		"Small by 0": small(0),
		"Small by 1": small(1),
		"Small by 7": small(7),
	}
}

// roomy tells a with spare room, and all its memory.
func roomy(a api.Nat) (list, memory api.Nat) {
	memory = append(slices.Clone(a), mark, mark, mark)
	return memory[:len(a):len(memory)], memory
}

// scribble changes all memory of a list, its spare room too.
func scribble(a api.Nat) {
	a = a[:cap(a)]
	for i := range a {
		a[i] = ^a[i]
	}
}

func copies(lists []api.Nat) []api.Nat {
	var out []api.Nat
	for _, a := range lists {
		out = append(out, slices.Clone(a))
	}
	return out
}

func sameLists(a, b []api.Nat) bool {
	return slices.EqualFunc(a, b, slices.Equal[api.Nat])
}

func memoryPairs() [][2]api.Nat {
	return [][2]api.Nat{
		{nil, nil},
		{{}, {0}},
		{nil, {5, 6}},
		{{5, 6}, nil},
		{{5, 6}, {0, 0}},
		{{5, 6}, {1}},
		{{5, 6, 0, 0}, {1, 0, 0}},
		{{1}, {5, 6}},
		{{5, 6, 7}, {7, 8, 9}},
		{{5, 6, 7}, {5, 6, 7}},
		{{5, 6, 7, 8}, {3, 4}},
		{{5, 6, 7, 8, 0}, {3, 1 << 31, 0}},
		{{0, 0, 0, 1 << 31, 1<<31 - 1}, {1, 0, 0, 1 << 31}},
		{{full, full, full}, {full, full}},
	}
}

func TestArgumentsAreLeftAndNotShared(t *testing.T) {
	for name, call := range calls() {
		for _, p := range memoryPairs() {
			a, wholeA := roomy(p[0])
			b, wholeB := roomy(p[1])
			left := func() bool {
				return slices.Equal(wholeA, append(slices.Clone(p[0]), mark, mark, mark)) &&
					slices.Equal(wholeB, append(slices.Clone(p[1]), mark, mark, mark))
			}
			first := call(a, b)
			want := copies(first)
			if !left() {
				t.Errorf("%s of %v, %v changed an argument", name, p[0], p[1])
			}
			for _, list := range call(a, b) {
				scribble(list)
			}
			if !sameLists(first, want) {
				t.Errorf("%s of %v, %v: two answers share memory", name, p[0], p[1])
			}
			if !left() {
				t.Errorf("%s of %v, %v: an answer shares an argument's memory", name, p[0], p[1])
			}
			scribble(a)
			scribble(b)
			if !sameLists(first, want) {
				t.Errorf("%s of %v, %v keeps an argument's memory", name, p[0], p[1])
			}
		}
	}
}

func TestListsOfOneAnswerShareNothing(t *testing.T) {
	for _, p := range memoryPairs() {
		for i := range 2 {
			q, r, _ := quo.Rem(p[0], p[1])
			lists := []api.Nat{q, r}
			want := slices.Clone(lists[1-i])
			scribble(lists[i])
			if !slices.Equal(lists[1-i], want) {
				t.Errorf("Rem(%v, %v): its lists share memory", p[0], p[1])
			}
		}
	}
}

func TestOneListAsBothArguments(t *testing.T) {
	a, whole := roomy(api.Nat{full, 5, 1 << 31, 0})
	before := slices.Clone(whole)
	q, r, ok := quo.Rem(a, a)
	g := quo.Gcd(a, a)
	if !ok || !slices.Equal(q, api.Nat{1}) || len(r) != 0 || !slices.Equal(g, a[:3]) {
		t.Errorf("Rem %v, %v, %v, Gcd %v", q, r, ok, g)
	}
	scribble(q)
	scribble(r)
	scribble(g)
	if !slices.Equal(whole, before) {
		t.Errorf("changed: %v", whole)
	}
}
