package decimal_test

import (
	"math/big"
	"math/rand"
	"regexp"
	"strconv"
	"strings"
	"testing"

	"steelyard/api"
	"steelyard/decimal"
	"steelyard/rat"
)

// lawNumbers tells numbers that may be, of all kinds.
func lawNumbers() []api.Rat {
	all := right()
	for bottom := int64(1); bottom <= 16; bottom++ {
		for top := int64(-30); top <= 30; top++ {
			all = append(all, frac(top, bottom))
		}
	}
	r := rand.New(rand.NewSource(102))
	for i := range 300 {
		all = append(all, random(r, []int{1, 2, 5, api.MaxLimbs}[i%4]))
	}
	return all
}

func lawPlaces() []int {
	return []int{0, 1, 2, 3, 9, 10, 30, mostPlaces - 1, mostPlaces}
}

// told is what is answered of a number with so many places.
type told struct {
	down, up, near string
	floor          api.Int
}

func tell(t *testing.T, a api.Rat, places int) told {
	t.Helper()
	down, e := decimal.Down(a, places)
	up, f := decimal.Up(a, places)
	near, g := decimal.Near(a, places)
	floor, h := decimal.Floor(a, places)
	if e != api.OK || f != api.OK || g != api.OK || h != api.OK {
		t.Fatalf("Down, Up, Near, Floor(%v, %d) = errors %d, %d, %d, %d", a, places, e, f, g, h)
	}
	return told{down, up, near, floor}
}

// read tells the number that the library reads from a decimal text.
func read(t *testing.T, s string) *big.Rat {
	t.Helper()
	r, ok := new(big.Rat).SetString(s)
	if !ok {
		t.Fatalf("the library does not read %q", s)
	}
	return r
}

// lastPlace tells 10 to the negative of places.
func lastPlace(places int) *big.Rat {
	return new(big.Rat).SetFrac(big.NewInt(1), power(10, places))
}

// P10.3, and that both bounds are one just where a has so few places.
func TestDownAndUpHoldTheNumber(t *testing.T) {
	for _, a := range lawNumbers() {
		for _, places := range lawPlaces() {
			x, r := tell(t, a, places), value(a)
			down, up := read(t, x.down), read(t, x.up)
			if down.Cmp(r) > 0 || up.Cmp(r) < 0 {
				t.Errorf("%v with %d places: not between %s and %s", r, places, x.down, x.up)
			}
			apart := new(big.Rat).Sub(up, down)
			few := new(big.Rat).Mul(r, new(big.Rat).SetInt(power(10, places))).IsInt()
			if few && x.down != x.up || !few && apart.Cmp(lastPlace(places)) != 0 {
				t.Errorf("%v with %d places: %s and %s", r, places, x.down, x.up)
			}
		}
	}
}

func TestNearIsTheNearerOfBoth(t *testing.T) {
	for _, a := range lawNumbers() {
		for _, places := range lawPlaces() {
			x := tell(t, a, places)
			if x.near != x.down && x.near != x.up {
				t.Errorf("%v with %d places: %s is none of %s and %s", a, places, x.near, x.down, x.up)
			}
			far := new(big.Rat).Sub(read(t, x.near), value(a))
			far.Abs(far).Mul(far, big.NewRat(2, 1))
			half := far.Cmp(lastPlace(places))
			if half > 0 {
				t.Errorf("%v with %d places: %s is farther than half", a, places, x.near)
			}
			if last := x.near[len(x.near)-1]; half == 0 && (last-'0')%2 != 0 {
				t.Errorf("%v with %d places: %s is odd", a, places, x.near)
			}
		}
	}
}

// A digit at least stands ahead of the point, just so many behind it; of none there is no point; "-" stands there just if what is told is below 0.
func TestForm(t *testing.T) {
	for _, a := range lawNumbers() {
		for _, places := range lawPlaces() {
			forms := regexp.MustCompile(`^-?(0|[1-9][0-9]*)$`)
			if places > 0 {
				forms = regexp.MustCompile(`^-?(0|[1-9][0-9]*)\.[0-9]{` + strconv.Itoa(places) + `}$`)
			}
			x := tell(t, a, places)
			for _, s := range []string{x.down, x.up, x.near} {
				if !forms.MatchString(s) {
					t.Errorf("%v with %d places: %q", a, places, s)
				}
				if strings.HasPrefix(s, "-") != (read(t, s).Sign() < 0) {
					t.Errorf("%v with %d places: the sign of %q", a, places, s)
				}
			}
		}
	}
}

// Floor is what Down has a point in.
func TestFloorIsDownWithoutThePoint(t *testing.T) {
	for _, a := range lawNumbers() {
		for _, places := range lawPlaces() {
			x := tell(t, a, places)
			want, _ := new(big.Int).SetString(strings.Replace(x.down, ".", "", 1), 10)
			if got := signed(x.floor); got.Cmp(want) != 0 {
				t.Errorf("Floor(%v, %d) = %v, and Down %s", a, places, got, x.down)
			}
			scaled := api.Rat{Top: x.floor, Bottom: api.Nat{1}}
			if len(x.floor.Mag) <= api.MaxLimbs && !rat.Good(scaled) {
				t.Errorf("Floor(%v, %d) = %v, that may not be", a, places, x.floor)
			}
		}
	}
}

func negated(s string) string {
	switch {
	case strings.Trim(s, "0.") == "":
		return s
	case s[0] == '-':
		return s[1:]
	}
	return "-" + s
}

func TestANegativeIsToldTheOtherWayRound(t *testing.T) {
	for _, a := range lawNumbers() {
		for _, places := range lawPlaces() {
			x, y := tell(t, a, places), tell(t, minus(a), places)
			if y.down != negated(x.up) || y.up != negated(x.down) || y.near != negated(x.near) {
				t.Errorf("%v with %d places: %v, and its negative %v", a, places, x, y)
			}
		}
	}
}

// Rounded towards 0, the digits are the beginning of those with a place more, where a sign may stand ahead of what was 0.
func TestAPlaceMore(t *testing.T) {
	for _, a := range lawNumbers() {
		for places := 1; places < mostPlaces; places++ {
			fewer, more := tell(t, a, places), tell(t, a, places+1)
			few, many := fewer.down, more.down
			if a.Top.Neg {
				few, many = fewer.up, more.up
			}
			if strings.TrimPrefix(few, "-") != strings.TrimPrefix(many[:len(many)-1], "-") {
				t.Errorf("%v: %s with %d places, and %s with one more", a, few, places, many)
			}
		}
	}
}

// A whole number more moves all four by as much.
func TestAWholeNumberMore(t *testing.T) {
	for _, a := range lawNumbers() {
		for _, more := range []int64{1, -1, 2, -10, 1000} {
			b, e := rat.Add(a, rat.Whole(more))
			if e != api.OK {
				continue
			}
			for _, places := range lawPlaces() {
				x, y := tell(t, a, places), tell(t, b, places)
				by := new(big.Rat).SetInt64(more)
				texts := [][2]string{{x.down, y.down}, {x.up, y.up}}
				// With no places an odd number more makes the other one even.
				if places > 0 || more%2 == 0 {
					texts = append(texts, [2]string{x.near, y.near})
				}
				for _, s := range texts {
					if new(big.Rat).Sub(read(t, s[1]), read(t, s[0])).Cmp(by) != 0 {
						t.Errorf("%v and %d with %d places: %s and %s", a, more, places, s[0], s[1])
					}
				}
			}
		}
	}
}

// The exact text of a number is that number's alone, and it is read as that number.
func TestExactIsOfOneNumberAlone(t *testing.T) {
	seen := map[string]api.Rat{}
	for _, a := range lawNumbers() {
		s := decimal.Exact(a)
		if s == "" {
			t.Fatalf("Exact(%v) is empty", a)
		}
		if b, ok := seen[s]; ok && !alike(a, b) {
			t.Errorf("Exact(%v) = %q, as of %v", a, s, b)
		}
		seen[s] = a
		if b, e := decimal.Parse(s); e != api.OK || !alike(a, b) || !rat.Same(a, b) {
			t.Errorf("Parse(%q) = %v, %d, want %v", s, b, e, a)
		}
	}
}

// No text is read but a number's exact one.
func TestParsedTextsAreExact(t *testing.T) {
	held := 0
	for top := -2; top < 130; top++ {
		for bottom := -2; bottom < 130; bottom++ {
			for _, s := range []string{strconv.Itoa(top), strconv.Itoa(top) + "/" + strconv.Itoa(bottom), "0" + strconv.Itoa(top) + "/" + strconv.Itoa(bottom), strconv.Itoa(top) + "/0" + strconv.Itoa(bottom)} {
				a, e := decimal.Parse(s)
				if e == api.OK {
					held++
				}
				if e == api.OK && (decimal.Exact(a) != s || !rat.Good(a)) {
					t.Errorf("Parse(%q) = %v, of which Exact is %q", s, a, decimal.Exact(a))
				}
			}
		}
	}
	if held < 10000 {
		t.Errorf("only %d texts were read", held)
	}
}

// With no places, what is told of a whole number, and of what is rounded, is an exact text too.
func TestNoPlacesAreExact(t *testing.T) {
	for _, a := range lawNumbers() {
		x := tell(t, a, 0)
		for _, s := range []string{x.down, x.up, x.near} {
			checkParse(t, s)
		}
		if len(a.Bottom) == 1 && a.Bottom[0] == 1 && (x.down != decimal.Exact(a) || x.up != x.down || x.near != x.down) {
			t.Errorf("%v with no places: %v, and exactly %q", a, x, decimal.Exact(a))
		}
	}
}
