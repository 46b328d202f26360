package names_test

import (
	"reflect"
	"slices"
	"strings"
	"testing"
	"unsafe"

	"steelyard/api"
	"steelyard/names"
)

// scripts tells scripts of all kinds, with and without faults, that may be or not.
func scripts() []api.Script {
	l := []api.Script{nil, {}, ordinary(), odd(), choices(), sourcesOf(60), sourcesOf(61), with(ordinary(), let("v", "v")), with(ordinary(), cov("x", "y")), with(sourcesOf(2), source("x1")), with(odd(), ordinary()...)}
	for _, d := range append(choices(), odd()...) {
		l = append(l, api.Script{d})
	}
	return l
}

// roomy tells a copy of declarations, with formulas that have spare room behind them, as they have, and all those rooms.
func roomy(l api.Script) (list, room api.Script, rooms []api.Tree) {
	room = append(kept(l), source("spare"), api.Decl{})
	for i := range l {
		whole := append(room[i].Tree, api.Node{Kind: api.Ref, Text: "spare"}, api.Node{Kind: 9})
		room[i].Tree = whole[:len(whole)-2]
		rooms = append(rooms, whole)
	}
	return room[:len(l)], room, rooms
}

// Arguments are left as they are, their spare room too.
func TestArgumentsAreLeft(t *testing.T) {
	for _, l := range scripts() {
		list, room, rooms := roomy(l)
		wantRoom := kept(room)
		var wantRooms []api.Tree
		for _, x := range rooms {
			wantRooms = append(wantRooms, slices.Clone(x))
		}
		names.Check(list)
		names.Sources(list)
		for _, ahead := range edges() {
			names.Find(list, "x", ahead)
		}
		if !reflect.DeepEqual(room, wantRoom) || !reflect.DeepEqual(rooms, wantRooms) {
			t.Errorf("%s was changed", shown(wantRoom))
		}
	}
}

// overlap tells whether two texts share memory.
func overlap(a, b string) bool {
	if a == "" || b == "" {
		return false
	}
	p, q := uintptr(unsafe.Pointer(unsafe.StringData(a))), uintptr(unsafe.Pointer(unsafe.StringData(b)))
	return p < q+uintptr(len(b)) && q < p+uintptr(len(a))
}

// Names that are told are new memory: no pieces of what was handed in, of one another, or of another answer.
func TestSourcesShareNoMemory(t *testing.T) {
	long := source(strings.Repeat("x", 1000))
	for _, l := range append(scripts(), times(5, source("x")), times(3, long)) {
		first, second := names.Sources(l), names.Sources(l)
		for i, s := range first {
			for _, d := range l {
				if overlap(s, d.Name) {
					t.Errorf("%.30q shares the memory of what was handed in", s)
				}
			}
			for j, other := range second {
				if overlap(s, other) || i != j && overlap(s, first[j]) {
					t.Errorf("%.30q and %.30q share memory", s, other)
				}
			}
		}
		first = append(first, "more")
		if !slices.Equal(second, names.Sources(l)) {
			t.Errorf("%q, ahead of it %q", names.Sources(l), first)
		}
		for i := range second {
			second[i] = "changed"
		}
		if slices.Contains(names.Sources(l), "changed") {
			t.Error("an answer was kept")
		}
	}
}

// What happens later to what was handed in is not seen in names that were told, nor in later answers.
func TestNothingIsKept(t *testing.T) {
	memory := []byte("xyz")
	text := unsafe.String(&memory[0], len(memory))
	l := api.Script{source(text[:1]), source(text[1:2]), let(text[2:], text[:1])}
	wantCheck(t, l, api.Fault{})
	wantFind(t, l, text[2:], 3, 2)
	told := names.Sources(l)
	copy(memory, "abb")
	if !slices.Equal(told, []string{"x", "y"}) {
		t.Errorf("%q", told)
	}
	wantCheck(t, l, api.Fault{E: api.ErrTwice})
	wantFind(t, l, "z", 3, -1)
	wantFind(t, l, "b", 3, 1)
	wantSources(t, l, "a", "b")
}

// What is told hangs on nothing that was asked ahead of it.
func TestAnswersHangOnArgumentsAlone(t *testing.T) {
	var faults []api.Fault
	for _, l := range scripts() {
		faults = append(faults, names.Check(l))
	}
	for range 20 {
		for i, l := range scripts() {
			wantCheck(t, l, faults[i])
			at, ok := foundOf(l, "x", len(l))
			if !ok {
				at = -1
			}
			wantFind(t, l, "x", len(l), at)
		}
	}
}

// Every call ends, whatever there is, and as much of it as there is.
func TestCallsEnd(t *testing.T) {
	much := strings.Repeat("x", 1<<24)
	for _, kind := range edges() {
		for _, n := range edges() {
			d := api.Decl{Kind: kind, Name: "x", Other: "x", Tree: api.Tree{{Kind: kind, A: n, B: n, N: n, Text: "x", At: n}}, Places: n, At: n}
			for _, l := range []api.Script{{d}, times(3, d), times(100, d)} {
				wantCheck(t, l, api.Fault{E: api.ErrArg})
				names.Find(l, "x", n)
				names.Sources(l)
			}
		}
		d := api.Decl{Kind: kind, Name: much, Other: much, Num: much, Var: much, Unit: much, At: 3}
		wantCheck(t, times(2, d), api.Fault{E: api.ErrArg})
		at, ok := foundOf(times(2, d), much, 2)
		if !ok {
			at = -1
		}
		wantFind(t, times(2, d), much, 2, at)
	}
	wantCheck(t, api.Script{let("v", slices.Repeat([]string{"v"}, 50000)...)}, api.Fault{E: api.ErrArg})
}
