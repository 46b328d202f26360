package write_test

import (
	"reflect"
	"strings"
	"testing"
	"unsafe"

	"steelyard/api"
	"steelyard/write"
)

// roomyTree tells a copy of x with spare room behind it, and that whole room.
func roomyTree(x api.Tree) (list, room api.Tree) {
	room = append(keptTree(x), ref("spare"), lit("9", "room"), neg(7))
	return room[:len(x)], room
}

// roomy tells a copy of declarations, with formulas that have spare room behind them, as they have, and all those rooms.
func roomy(all api.Script) (list, room api.Script, rooms []api.Tree) {
	room = append(kept(all), api.Decl{Kind: 9, Name: "spare"}, api.Decl{})
	for i := range all {
		var whole api.Tree
		room[i].Tree, whole = roomyTree(room[i].Tree)
		rooms = append(rooms, whole)
	}
	return room[:len(all)], room, rooms
}

// scripts tells scripts of all kinds, that may be or not.
func scripts() []api.Script {
	all := []api.Script{nil, {}, shapes(), odd(), append(shapes(), odd()...), times(61, shapes()[0]), times(60, shapes()[8])}
	for _, d := range append(shapes(), odd()...) {
		all = append(all, api.Script{d})
	}
	return all
}

// formulas tells formulas of all kinds, that may be or not.
func formulas() []api.Tree {
	all := append(wild()[:30], negs(100), pows(100), rightChain(api.Div, 50, lit("1.50", "m")))
	for _, kind := range kinds() {
		x, _ := child(kind)
		all = append(all, x)
	}
	return all
}

// Arguments are left as they are, their spare room too.
func TestArgumentsAreLeft(t *testing.T) {
	for _, all := range scripts() {
		list, room, rooms := roomy(all)
		wantRoom := kept(room)
		var wantRooms []api.Tree
		for _, x := range rooms {
			wantRooms = append(wantRooms, keptTree(x))
		}
		write.Script(list)
		write.Same(list, list)
		write.Same(list, shapes())
		for _, d := range list {
			write.Good(d)
			write.Formula(d.Tree)
		}
		if !reflect.DeepEqual(unempty(room), unempty(wantRoom)) || !reflect.DeepEqual(rooms, wantRooms) {
			t.Errorf("%s was changed", shown(wantRoom))
		}
	}
	for _, x := range formulas() {
		list, room := roomyTree(x)
		want := keptTree(room)
		write.Formula(list)
		if !reflect.DeepEqual(room, want) {
			t.Errorf("%s was changed", shownTree(want))
		}
	}
}

// unempty tells declarations with no formula that is empty, but not nil.
func unempty(all api.Script) api.Script {
	for i := range all {
		if len(all[i].Tree) == 0 {
			all[i].Tree = nil
		}
	}
	return all
}

// overlap asks whether two texts share a byte of memory.
func overlap(a, b string) bool {
	from, to := uintptr(unsafe.Pointer(unsafe.StringData(a))), uintptr(unsafe.Pointer(unsafe.StringData(b)))
	return from < to+uintptr(len(b)) && to < from+uintptr(len(a))
}

// wordsOf tells all texts of declarations.
func wordsOf(all api.Script) []string {
	var out []string
	for _, d := range all {
		out = append(out, d.Name, d.Other, d.Num, d.Var, d.Unit)
		for _, n := range d.Tree {
			out = append(out, n.Text, n.Unit)
		}
	}
	return out
}

// wantOwnMemory asks that a text shares no memory with what was handed in, or with another text.
func wantOwnMemory(t *testing.T, text, other string, words []string) {
	t.Helper()
	if overlap(text, other) {
		t.Errorf("%.100q is told twice from one memory", text)
	}
	for _, w := range words {
		if overlap(text, w) {
			t.Errorf("%.100q shares the memory of %.30q", text, w)
		}
	}
}

// Texts are new memory: no pieces of what was handed in, and none of another answer's.
func TestTextsShareNoMemory(t *testing.T) {
	for _, all := range scripts() {
		first, _ := write.Script(all)
		second, _ := write.Script(all)
		wantOwnMemory(t, first, second, wordsOf(all))
	}
	for _, x := range formulas() {
		first, _ := write.Formula(x)
		second, _ := write.Formula(x)
		wantOwnMemory(t, first, second, wordsOf(api.Script{{Tree: x}}))
	}
}

// What happens later to what was handed in is not seen in a text.
func TestTextsAreNotKept(t *testing.T) {
	memory := []byte("1.50km/hx_1")
	text := unsafe.String(&memory[0], len(memory))
	length, x := api.Tree{lit(text[:4], text[4:8])}, api.Tree{ref(text[8:])}
	source := api.Script{{Kind: api.DSource, Name: text[8:], Num: text[:4], Unit: text[4:8], Var: text[:1]}, {Kind: api.DLet, Name: text[8:], Tree: x}}
	first, _ := write.Formula(length)
	second, _ := write.Formula(x)
	lines, _ := write.Script(source)
	for i := range memory {
		memory[i] = '?'
	}
	length[0], x[0], source[0] = ref("changed"), ref("changed"), api.Decl{}
	if first != "1.50 [km/h]" || second != "x_1" || lines != "source x_1 = 1.50 [km/h] : 1 ;\nlet x_1 = x_1 ;\n" {
		t.Errorf("%q, %q, %q", first, second, lines)
	}
}

// What is told hangs on nothing that was asked ahead of it.
func TestTextsHangOnArgumentsAlone(t *testing.T) {
	var texts []string
	for _, all := range scripts() {
		text, _ := write.Script(all)
		texts = append(texts, strings.Clone(text))
	}
	for range 3 {
		for i, all := range scripts() {
			if text, _ := write.Script(all); text != texts[i] {
				t.Errorf("%s has the text %.250q, and then %.250q", shown(all), texts[i], text)
			}
		}
	}
}

// Every call ends, whatever there is, and as much of it as there is.
func TestCallsEnd(t *testing.T) {
	for _, n := range edges() {
		for _, nodes := range []int{1, 2, 3, 2000, 2001, 10000} {
			for _, kind := range []int{n, api.Lit, api.Ref, api.Add, api.Neg, api.Pow} {
				x := make(api.Tree, nodes)
				for i := range x {
					x[i] = api.Node{Kind: kind, A: n, B: n, N: n, Text: "let", At: n}
				}
				wantNoFormula(t, x)
				d := api.Decl{Kind: api.DLet, Name: "v", Tree: x}
				wantGood(t, d, false)
				wantError(t, api.Script{shapes()[0], d}, api.ErrArg)
			}
		}
		for _, kind := range edges() {
			d := api.Decl{Kind: kind, Name: "x", Places: n, At: n}
			wantGood(t, d, false)
			wantError(t, times(100, d), api.ErrArg)
		}
	}
	much := strings.Repeat("7", 1<<24)
	for _, f := range changes() {
		d := api.Decl{Kind: api.DSource, Name: much, Other: much, Num: much, Var: much, Unit: much}
		f(&d)
		wantGood(t, d, false)
		wantSame(t, api.Script{d}, api.Script{{}}, false)
	}
}
