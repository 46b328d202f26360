package parse_test

import (
	"slices"
	"strings"
	"testing"
	"unsafe"

	"steelyard/api"
	"steelyard/parse"
)

// texts tells texts of all kinds, with and without faults, for scripts and for formulas.
func texts() []string {
	all := append(declarations(), formulas()...)
	return append(all, "", " # none", strings.Join(declarations(), " "), strings.Repeat("let a=-1[m]*x^2;", 3), "let v=x^65;", "let v=((x;", "2x", "let a=1;;", "output y=x+x in[m]:3;output z=x+x in[m]:3;")
}

// scribbleTree changes all memory of a formula, its spare room too.
func scribbleTree(x api.Tree) {
	x = x[:cap(x)]
	for i := range x {
		x[i] = api.Node{Kind: -1, A: -1, B: -1, N: -1, Text: "changed", Unit: "]", At: -1}
	}
}

// scribble changes all memory of a script, its spare room, and its formulas, too.
func scribble(all api.Script) {
	for i := range all {
		scribbleTree(all[i].Tree)
	}
	all = all[:cap(all)]
	for i := range all {
		all[i] = api.Decl{Kind: -1, Name: "changed", Num: "changed", At: -1}
	}
}

// keptTree tells a copy of a formula, its texts too.
func keptTree(x api.Tree) api.Tree {
	out := slices.Clone(x)
	for i := range out {
		out[i].Text, out[i].Unit = strings.Clone(out[i].Text), strings.Clone(out[i].Unit)
	}
	return out
}

// kept tells a copy of a script, its texts and formulas too.
func kept(all api.Script) api.Script {
	out := slices.Clone(all)
	for i, d := range out {
		d.Name, d.Other, d.Num, d.Var, d.Unit = strings.Clone(d.Name), strings.Clone(d.Other), strings.Clone(d.Num), strings.Clone(d.Var), strings.Clone(d.Unit)
		d.Tree = keptTree(d.Tree)
		out[i] = d
	}
	return out
}

// What is done to one answer is seen in no other one, and what is told hangs on nothing that was asked ahead of it.
func TestAnswersShareNoMemory(t *testing.T) {
	for range 2 {
		for _, s := range texts() {
			all, f := parse.Script(s, most())
			x, g := parse.Formula(s, most())
			wantAll, wantX := kept(all), keptTree(x)
			otherAll, _ := parse.Script(s, most())
			otherX, _ := parse.Formula(s, most())
			scribble(otherAll)
			scribbleTree(otherX)
			if !slices.EqualFunc(all, wantAll, sameDecl) || !slices.Equal(x, wantX) {
				t.Errorf("%q: two answers share memory", s)
			}
			scribble(all)
			scribbleTree(x)
			if again, h := parse.Script(s, most()); h != f || !slices.EqualFunc(again, wantAll, sameDecl) {
				t.Errorf("Script(%q) = %s, %v, and then %s, %v", s, shownScript(wantAll), f, shownScript(again), h)
			}
			if again, h := parse.Formula(s, most()); h != g || !slices.Equal(again, wantX) {
				t.Errorf("Formula(%q) = %s, %v, and then %s, %v", s, shownTree(wantX), g, shownTree(again), h)
			}
			check(t, s, most())
		}
	}
}

// The formulas of one script share no memory, their spare room included.
func TestFormulasOfOneScriptShareNoMemory(t *testing.T) {
	s := "let a=1;let b=-x^2;output c=a+b*2[m]:3;let d=1;" + strings.Repeat("let e=a*(b-c)/-d^3;output f=a:1;", 20)
	for i := range script(t, s) {
		all := script(t, s)
		want := kept(all)
		scribbleTree(all[i].Tree)
		for j := range all {
			if j != i && !sameDecl(all[j], want[j]) {
				t.Errorf("%d was changed with %d", j, i)
			}
		}
	}
}

// words tells all texts of a script.
func words(all api.Script) []string {
	var out []string
	for _, d := range all {
		out = append(out, d.Name, d.Other, d.Num, d.Var, d.Unit)
		for _, n := range d.Tree {
			out = append(out, n.Text, n.Unit)
		}
	}
	return out
}

// overlap asks whether two texts share a byte of memory.
func overlap(a, b string) bool {
	from, to := uintptr(unsafe.Pointer(unsafe.StringData(a))), uintptr(unsafe.Pointer(unsafe.StringData(b)))
	return from < to+uintptr(len(b)) && to < from+uintptr(len(a))
}

// The texts of an answer are new memory too: none is a piece of what was read, of another text of it, or of another answer's.
func TestTextsShareNoMemory(t *testing.T) {
	for _, s := range texts() {
		first, _ := parse.Script(s, most())
		second, _ := parse.Script(s, most())
		x, _ := parse.Formula(s, most())
		y, _ := parse.Formula(s, most())
		all := slices.Concat(words(first), words(second), words(api.Script{{Tree: x}, {Tree: y}}))
		for i, a := range all {
			if overlap(a, s) {
				t.Errorf("%q: %q is a piece of it", s, a)
			}
			for _, b := range all[:i] {
				if overlap(a, b) {
					t.Errorf("%q: %q and %q share memory", s, a, b)
				}
			}
		}
	}
}

// A text's bytes are left as they are, and what happens to them later is not seen in an answer.
func TestTextsAreLeftAndNotKept(t *testing.T) {
	for _, s := range texts() {
		if s == "" {
			continue
		}
		memory := []byte("x" + s + "y")
		text := unsafe.String(&memory[1], len(s))
		all, _ := parse.Script(text, most())
		x, _ := parse.Formula(text, most())
		wantAll, wantX := kept(all), keptTree(x)
		if string(memory) != "x"+s+"y" {
			t.Errorf("%q was changed", s)
		}
		for i := range memory {
			memory[i] = '?'
		}
		if !slices.EqualFunc(all, wantAll, sameDecl) || !slices.Equal(x, wantX) {
			t.Errorf("%q: what was told is its memory", s)
		}
		check(t, s, most())
	}
}
