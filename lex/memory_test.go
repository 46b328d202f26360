package lex_test

import (
	"slices"
	"strings"
	"testing"
	"unsafe"

	"steelyard/api"
	"steelyard/lex"
)

// scribble changes all memory of a list, its spare room too.
func scribble(all []api.Token) {
	all = all[:cap(all)]
	for i := range all {
		all[i] = api.Token{Kind: -1, Text: "changed", At: -1}
	}
}

// kept tells a copy of tokens, their texts too.
func kept(all []api.Token) []api.Token {
	out := slices.Clone(all)
	for i := range out {
		out[i].Text = strings.Clone(out[i].Text)
	}
	return out
}

// What is done to one answer is seen in no other one.
func TestAnswersShareNoMemory(t *testing.T) {
	for range 2 {
		for _, s := range append(scripts(), faulty()...) {
			first, f := lex.Tokens(s)
			want := kept(first)
			second, _ := lex.Tokens(s)
			scribble(second)
			if !slices.Equal(first, want) {
				t.Errorf("Tokens(%q): two answers share memory", s)
			}
			if third, g := lex.Tokens(s); g != f || !slices.Equal(third, want) {
				t.Errorf("Tokens(%q) = %v, %v, and then %v, %v", s, want, f, third, g)
			}
			scribble(first)
			check(t, s)
		}
	}
}

// overlap asks whether two texts share a byte of memory.
func overlap(a, b string) bool {
	from, to := uintptr(unsafe.Pointer(unsafe.StringData(a))), uintptr(unsafe.Pointer(unsafe.StringData(b)))
	return from < to+uintptr(len(b)) && to < from+uintptr(len(a))
}

// The texts of tokens are new memory too: none is a piece of the script, or of another answer's text.
func TestTextsShareNoMemory(t *testing.T) {
	for _, s := range scripts() {
		first, second := tokens(t, s), tokens(t, s)
		for _, k := range first {
			if overlap(k.Text, s) {
				t.Errorf("Tokens(%q): %v is a piece of the script", s, k)
			}
			for _, other := range second {
				if overlap(k.Text, other.Text) {
					t.Errorf("Tokens(%q): %v of one answer and %v of another share memory", s, k, other)
				}
			}
		}
	}
}

// A script's bytes are left as they are, and what happens to them later is not seen in the tokens.
func TestScriptsAreLeftAndNotKept(t *testing.T) {
	for _, s := range append(scripts(), faulty()...) {
		if s == "" {
			continue
		}
		memory := []byte("x" + s + "y")
		text := unsafe.String(&memory[1], len(s))
		all, f := lex.Tokens(text)
		lex.IsName(text)
		want := kept(all)
		if string(memory) != "x"+s+"y" {
			t.Errorf("Tokens(%q) changed its text", s)
		}
		for i := range memory {
			memory[i] = '?'
		}
		if !slices.Equal(all, want) {
			t.Errorf("Tokens(%q): what was told is the script's memory", s)
		}
		if again, g := lex.Tokens(s); f != g || !slices.Equal(again, want) {
			t.Errorf("Tokens(%q) = %v, %v, and then %v, %v", s, want, f, again, g)
		}
	}
}
