package names_test

import (
	"fmt"
	"math"
	"math/rand"
	"strings"
	"testing"

	"steelyard/api"
	"steelyard/names"
)

// P17.2: sources and lets are found by their names, below the number alone.
func TestFind(t *testing.T) {
	l := api.Script{unit("x"), source("x"), cov("y", "z"), let("a", "x"), output("b", "a"), source("y"), unit("a"), let("b"), output("x")}
	for _, x := range []struct {
		name string
		at   int
	}{{"x", 1}, {"a", 3}, {"y", 5}, {"b", 7}, {"z", -1}, {"X", -1}, {"", -1}, {"m", -1}, {"xy", -1}, {"x ", -1}} {
		for ahead := -2; ahead < 12; ahead++ {
			want := x.at
			if ahead <= x.at {
				want = -1
			}
			wantFind(t, l, x.name, ahead, want)
		}
		for _, ahead := range []int{math.MinInt, math.MinInt + 1, math.MinInt32, -1} {
			wantFind(t, l, x.name, ahead, -1)
		}
		for _, ahead := range []int{9, 10, 1000, math.MaxInt32, math.MaxInt - 1, math.MaxInt} {
			wantFind(t, l, x.name, ahead, x.at)
		}
	}
}

// P17.2: of several the first one, and no unit, cov or output, be it ahead of it or behind.
func TestFindFirst(t *testing.T) {
	l := api.Script{output("x"), unit("x"), cov("x", "x"), let("x"), source("x"), let("x", "x"), output("x"), source("x")}
	for ahead := range 4 {
		wantFind(t, l, "x", ahead, -1)
	}
	for ahead := 4; ahead < 10; ahead++ {
		wantFind(t, l, "x", ahead, 3)
		wantFind(t, l[4:], "x", ahead, 0)
		wantFind(t, l[:3], "x", ahead, -1)
	}
	wantFind(t, api.Script{cov("y", "x")}, "x", 1, -1)
	wantFind(t, api.Script{let("y", "x")}, "x", 1, -1)
}

// P17.2: of no declarations.
func TestOfNone(t *testing.T) {
	for _, ahead := range edges() {
		for _, name := range []string{"", "x", "let", "\xff"} {
			wantFind(t, nil, name, ahead, -1)
			wantFind(t, api.Script{}, name, ahead, -1)
			wantFind(t, api.Script{unit("x")}, name, ahead, -1)
		}
	}
	wantSources(t, nil)
	wantSources(t, api.Script{})
	wantSources(t, api.Script{unit("x"), let("x"), cov("x", "y"), output("x")})
}

// P17.2: of what may not be, as far as kinds and names go.
func TestOfWhatMayNotBe(t *testing.T) {
	for _, name := range []string{"", " ", "1", "let", "in", "x y", "é", "\x00", "\xff", "abcdefghijklmnopq", strings.Repeat("x", 100000)} {
		l := api.Script{{Name: name}, {Kind: 6, Name: name}, {Kind: api.DSource, Name: name, Other: name, Places: -1}, {Kind: api.DLet, Name: name, Num: "]"}}
		for ahead := range 3 {
			wantFind(t, l, name, ahead, -1)
		}
		wantFind(t, l, name, 3, 2)
		wantFind(t, l, name, 4, 2)
		wantFind(t, l[3:], name, 1, 0)
		wantFind(t, l, name+"x", 4, -1)
		wantSources(t, l, name)
		wantSources(t, with(l, l...), name, name)
	}
	for _, kind := range append(edges(), 3, 4, 7, 8, 256+2, 256+4, 1<<32+2, 1<<32+4, -4) {
		l := api.Script{{Kind: kind, Name: "x"}, {Kind: kind}}
		first, second := -1, -1
		if kind == api.DSource || kind == api.DLet {
			first, second = 0, 1
		}
		wantFind(t, l, "x", 2, first)
		wantFind(t, l, "", 2, second)
		if kind == api.DSource {
			wantSources(t, l, "x", "")
		} else {
			wantSources(t, l)
		}
	}
	for _, d := range odd() {
		l := with(ordinary(), d)
		wantFind(t, l, "z", len(l), 6)
		wantFind(t, l, "c", len(l), 10)
		if d.Kind == api.DSource {
			wantSources(t, l, "x", "y", "z", d.Name)
		} else {
			wantSources(t, l, "x", "y", "z")
		}
	}
}

// P17.2: sources in their order, and each as often as it is there.
func TestSources(t *testing.T) {
	wantSources(t, ordinary(), "x", "y", "z")
	wantSources(t, api.Script{source("z"), source("a"), let("b"), source(sixteen), source("_")}, "z", "a", sixteen, "_")
	wantSources(t, api.Script{source("x"), unit("u"), source("x"), source("X"), source("x")}, "x", "x", "X", "x")
	wantSources(t, read(t, "source x=1:0; let a=x; source b=2[m]:1; cov b x=0; output y=a:0;"), "x", "b")
	for _, n := range []int{1, 59, 60, 61, 1000} {
		var want []string
		for i := range n {
			want = append(want, fmt.Sprint("x", i))
		}
		wantSources(t, sourcesOf(n), want...)
	}
}

// P17.2: more declarations than a script may have.
func TestManyDeclarations(t *testing.T) {
	const n = 100000
	l := sourcesOf(n)
	for _, i := range []int{0, 1, 59, 60, 61, 1000, n - 1} {
		name := fmt.Sprint("x", i)
		wantFind(t, l, name, n, i)
		wantFind(t, l, name, i+1, i)
		wantFind(t, l, name, i, -1)
	}
	if s := names.Sources(l); len(s) != n || s[n-1] != fmt.Sprint("x", n-1) {
		t.Errorf("%d sources", len(s))
	}
	same := times(n, let("x"))
	wantFind(t, same, "x", math.MaxInt, 0)
	wantFind(t, same, "y", math.MaxInt, -1)
	wantSources(t, same)
}

// P17.2: random scripts, of what may be or not, against the document's words.
func TestRandomFinds(t *testing.T) {
	r := rand.New(rand.NewSource(172))
	few := []string{"", "x", "y", "z", "let", "\xff"}
	for range 20000 {
		var l api.Script
		var want []string
		for range r.Intn(12) {
			d := api.Decl{Kind: r.Intn(8) - 1, Name: few[r.Intn(6)], Other: few[r.Intn(6)]}
			if d.Kind == api.DSource {
				want = append(want, d.Name)
			}
			l = append(l, d)
		}
		wantSources(t, l, want...)
		for range 5 {
			name, ahead := few[r.Intn(6)], r.Intn(16)-2
			at, ok := foundOf(l, name, ahead)
			if !ok {
				at = -1
			}
			wantFind(t, l, name, ahead, at)
		}
	}
}
