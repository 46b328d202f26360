package tree_test

import (
	"slices"
	"strings"
	"testing"
	"unsafe"

	"steelyard/api"
	"steelyard/tree"
)

// scribble changes all memory of a list, its spare room too.
func scribble(x api.Tree) {
	x = x[:cap(x)]
	for i := range x {
		x[i] = api.Node{Kind: -1, A: -1, B: -1, N: -1, Text: "changed", Unit: "]", At: -1}
	}
}

// roomy tells a copy of x with spare room behind it, and that whole room.
func roomy(x api.Tree) (list, room api.Tree) {
	room = append(kept(x), ref("spare"), lit("9", "room"), neg(7))
	return room[:len(x)], room
}

// calls tells what all functions that make trees tell of a and b.
func calls(a, b api.Tree) []api.Tree {
	var all []api.Tree
	for _, kind := range joins() {
		x, _ := tree.Join(kind, a, b)
		all = append(all, x)
	}
	x, _ := tree.Neg(a)
	y, _ := tree.Pow(b, -2)
	z, _ := tree.Join(api.Add, a, a)
	return append(all, x, y, z)
}

// Arguments are left as they are, their spare room too, and what is done to an answer, or to an argument later, is seen nowhere else.
func TestTreesShareNoMemory(t *testing.T) {
	all := append(grove(), wild()...)
	for i := range all {
		for _, other := range []api.Tree{all[(i+1)%len(all)], all[i], all[(i+20)%len(all)]} {
			a, aRoom := roomy(all[i])
			b, bRoom := roomy(other)
			wantA, wantB := kept(aRoom), kept(bRoom)
			told := calls(a, b)
			var wants []api.Tree
			for _, x := range told {
				wants = append(wants, kept(x))
			}
			tree.Good(a)
			tree.Deep(a)
			tree.Same(a, b)
			if !slices.Equal(aRoom, wantA) || !slices.Equal(bRoom, wantB) {
				t.Errorf("%s or %s was changed", shown(wantA), shown(wantB))
			}
			scribble(aRoom)
			scribble(bRoom)
			for j, x := range told {
				if !slices.Equal(x, wants[j]) {
					t.Errorf("%s became %s", shown(wants[j]), shown(x))
				}
				scribble(x)
			}
			again := calls(all[i], other)
			for j, x := range again {
				if !slices.Equal(x, wants[j]) {
					t.Errorf("told %s, and then %s", shown(wants[j]), shown(x))
				}
			}
		}
	}
}

// Leaves are new memory too.
func TestLeavesShareNoMemory(t *testing.T) {
	is := made(t)
	first, second := is(tree.Lit("1", "m")), is(tree.Lit("1", "m"))
	scribble(first)
	wantTree(t, "Lit", second, true, api.Tree{lit("1", "m")})
	first, second = is(tree.Ref("x")), is(tree.Ref("x"))
	scribble(first)
	wantTree(t, "Ref", second, true, api.Tree{ref("x")})
}

// overlap asks whether two texts share a byte of memory.
func overlap(a, b string) bool {
	from, to := uintptr(unsafe.Pointer(unsafe.StringData(a))), uintptr(unsafe.Pointer(unsafe.StringData(b)))
	return from < to+uintptr(len(b)) && to < from+uintptr(len(a))
}

// textsOverlap asks whether a text of one tree shares memory with one of the other.
func textsOverlap(x, y api.Tree) bool {
	for _, n := range x {
		for _, m := range y {
			if overlap(n.Text, m.Text) || overlap(n.Text, m.Unit) || overlap(n.Unit, m.Text) || overlap(n.Unit, m.Unit) {
				return true
			}
		}
	}
	return false
}

// The texts within a tree are new memory, as the nodes are.
func TestTextsShareNoMemory(t *testing.T) {
	is := made(t)
	number, unit, name := strings.Clone("1.50"), strings.Clone("km/h"), strings.Clone("x_1")
	a, b, x := is(tree.Lit(number, unit)), is(tree.Lit(number, unit)), is(tree.Ref(name))
	given := api.Tree{lit(number, unit), ref(name)}
	for _, y := range []api.Tree{a, b, x} {
		if textsOverlap(y, given) {
			t.Errorf("%s shares the memory of what it was made of", shown(y))
		}
	}
	if textsOverlap(a, b) {
		t.Error("two answers share memory")
	}
	told := calls(a, x)
	for i, y := range told {
		if textsOverlap(y, a) || textsOverlap(y, x) {
			t.Errorf("%s shares the memory of what it was made of", shown(y))
		}
		for j, z := range told {
			if i != j && textsOverlap(y, z) {
				t.Errorf("%s and %s share memory", shown(y), shown(z))
			}
		}
	}
}

// What happens later to the bytes of a text is not seen in a tree.
func TestTextsAreNotKept(t *testing.T) {
	memory := []byte("1.50km/hx_1")
	text := unsafe.String(&memory[0], len(memory))
	is := made(t)
	length, x := is(tree.Lit(text[:4], text[4:8])), is(tree.Ref(text[8:]))
	handed := api.Tree{ref(text[8:])}
	below := is(tree.Neg(handed))
	if string(memory) != "1.50km/hx_1" {
		t.Errorf("the texts became %q", memory)
	}
	for i := range memory {
		memory[i] = '?'
	}
	wantTree(t, "Lit", length, true, api.Tree{lit("1.50", "km/h")})
	wantTree(t, "Ref", x, true, api.Tree{ref("x_1")})
	wantTree(t, "Neg", below, true, api.Tree{ref("x_1"), neg(0)})
}
