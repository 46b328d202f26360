package lex_test

import (
	"math/rand"
	"slices"
	"strings"
	"testing"

	"steelyard/api"
	"steelyard/lex"
)

// Tokens stand in their order, each where its place says, and between them stand blanks and notes alone.
func TestTokensAndGapsAreTheText(t *testing.T) {
	for _, s := range append(append(scripts(), pieces()...), shapes()...) {
		end := 0
		for _, k := range tokens(t, s) {
			if k.At < end || !strings.HasPrefix(s[k.At:], standing(k)) || gaps.FindString(s[end:]) != s[end:k.At] {
				t.Fatalf("of %q: %v behind %d bytes", s, k, end)
			}
			end = k.At + len(standing(k))
		}
		if gaps.FindString(s[end:]) != s[end:] {
			t.Errorf("of %q: no token behind %d bytes", s, end)
		}
	}
}

// manyGaps are blanks and notes that part tokens.
func manyGaps() []string {
	return []string{" ", "\t", "\n", "  ", " \n\t", "#\n", "# note\n", " #2x ? [ ]\n", "##\n#\n", "\n# é \xff \x00\n\t", "# let x = 1;\n", "#" + strings.Repeat("?", 50) + "\n"}
}

// runsOn asks whether what stands at once behind a token would be read with it.
func runsOn(a, b api.Token) bool {
	return (a.Kind == api.Word || a.Kind == api.Number) && (b.Kind == api.Word || b.Kind == api.Number)
}

// joined tells a text of these tokens, each behind the gap that is told for its place, and where they stand; no gap stands where none has to, if it is "".
func joined(all []api.Token, gap func(i int) string) (string, []api.Token) {
	var s strings.Builder
	out := slices.Clone(all)
	for i, k := range all {
		between := gap(i)
		if between == "" && i > 0 && runsOn(all[i-1], k) {
			between = " "
		}
		s.WriteString(between)
		out[i].At = s.Len()
		s.WriteString(standing(k))
	}
	s.WriteString(gap(len(all)))
	return s.String(), out
}

// Whatever blanks and notes stand between tokens, ahead of the first and behind the last, they are the same but for their places.
func TestGapsChangeNothing(t *testing.T) {
	r := rand.New(rand.NewSource(131))
	between := append(manyGaps(), "", "", "")
	for _, s := range append(scripts(), pieces()...) {
		all := tokens(t, s)
		for _, gap := range between {
			other, want := joined(all, func(int) string { return gap })
			wantTokens(t, other, want...)
		}
		for range 40 {
			other, want := joined(all, func(int) string { return between[r.Intn(len(between))] })
			wantTokens(t, other, want...)
			if !slices.Equal(placeless(tokens(t, other)), placeless(all)) {
				t.Errorf("tokens of %q and of %q", s, other)
			}
		}
	}
}

// More blanks or notes where some stand change nothing behind them but places, nor what is at fault.
func TestMoreGapsChangeNothing(t *testing.T) {
	for _, s := range append(scripts(), faulty()...) {
		want, f := lex.Tokens(s)
		for _, gap := range manyGaps() {
			if f.E == api.OK {
				wantTokens(t, gap+s, moved(want, len(gap))...)
				wantTokens(t, gap+gap+s+"\n"+gap, moved(want, 2*len(gap))...)
			} else {
				wantFault(t, gap+s, f.E, f.At+len(gap))
				wantFault(t, s+"\n"+gap, f.E, f.At)
			}
		}
	}
}

// A note at the end of the text needs no end of its line.
func TestNotesBehindTheText(t *testing.T) {
	for _, s := range append(scripts(), pieces()...) {
		for _, note := range []string{"#", "# x", "#2x ?", "##"} {
			wantTokens(t, s+note, tokens(t, s)...)
			wantTokens(t, s+note+"\n", tokens(t, s)...)
		}
	}
}

// Two texts with a newline between have both ones' tokens; if one has a fault, its first one.
func TestTwoTexts(t *testing.T) {
	all := append(append(append(scripts(), faulty()...), pieces()...), wrongs()...)
	for _, s := range all {
		first, f := lex.Tokens(s)
		for _, other := range all {
			second, g := lex.Tokens(other)
			both := s + "\n" + other
			switch {
			case f.E != api.OK:
				wantFault(t, both, f.E, f.At)
			case g.E != api.OK:
				wantFault(t, both, g.E, g.At+len(s)+1)
			default:
				wantTokens(t, both, append(slices.Clone(first), moved(second, len(s)+1)...)...)
			}
		}
	}
}

// Of one token's bytes alone that token is told.
func TestEachTokenAlone(t *testing.T) {
	for _, s := range append(append(scripts(), pieces()...), shapes()...) {
		for _, k := range tokens(t, s) {
			alone := k
			alone.At = 0
			wantTokens(t, standing(k), alone)
			wantName(t, standing(k), k.Kind == api.Word && !slices.Contains(own(), k.Text))
		}
	}
}

// What was asked before changes no answer.
func TestAskingChangesNothing(t *testing.T) {
	all := append(append(scripts(), faulty()...), wrongs()...)
	for _, s := range slices.Concat(all, all) {
		check(t, s)
	}
	slices.Reverse(all)
	for _, s := range all {
		first, f := lex.Tokens(s)
		second, g := lex.Tokens(s)
		if f != g || !slices.Equal(first, second) {
			t.Errorf("Tokens(%q) = %v, %v, and then %v, %v", s, first, f, second, g)
		}
		check(t, s)
	}
}
