package tests

import (
	"math"
	"math/big"
	"regexp"
	"slices"
	"strings"
	"testing"

	"loop.example/g02078/impl"
)

// Promise 18, the part on frameworks: frameworks can be parsed from their string formats.

// placesOf builds places from pairs of numbers, on the grid or not.
func placesOf(numbers ...int) []impl.Place {
	var out []impl.Place
	for i := 0; i+1 < len(numbers); i += 2 {
		out = append(out, impl.Place{X: numbers[i], Y: numbers[i+1]})
	}
	return out
}

// frameworkOf builds a framework from a graph and the numbers of its places, valid or not.
func frameworkOf(g impl.Graph, numbers ...int) impl.Framework {
	return impl.Framework{Graph: g, Places: placesOf(numbers...)}
}

// sameFramework compares without the functions under test.
func sameFramework(a, b impl.Framework) bool {
	return sameGraph(a.Graph, b.Graph) && slices.Equal(a.Places, b.Places)
}

// withPlace returns a copy of f with the joint v at another place, valid or not.
func withPlace(f impl.Framework, v int, p impl.Place) impl.Framework {
	out := impl.Framework{Graph: f.Graph, Places: slices.Clone(f.Places)}
	out.Places[v] = p
	return out
}

// pathGraph has bars between each point and the next one.
func pathGraph(n int) impl.Graph {
	g := impl.Graph{Points: n}
	for v := range n - 1 {
		g.Bars = append(g.Bars, impl.Bar{A: v, B: v + 1})
	}
	return g
}

func gridPlaces() []impl.Place {
	var out []impl.Place
	for y := range impl.MaxGrid + 1 {
		for x := range impl.MaxGrid + 1 {
			out = append(out, impl.Place{X: x, Y: y})
		}
	}
	return out
}

// offGridPlaces has places beyond each side, and such that the squares, products or differences of their numbers wrap around.
func offGridPlaces() []impl.Place {
	numbers := []int{-1, 5, 9, 10, -4, 256, 1 << 31, 1 << 32, 1<<32 + 1, -1 << 32, 1 << 61, 1 << 62, 1<<63 - 4, math.MaxInt, math.MinInt + 1, math.MinInt}
	var out []impl.Place
	for _, n := range numbers {
		out = append(out, placesOf(n, 0, n, 2, n, 4, 0, n, 3, n, 4, n, n, n, n, -n)...)
	}
	return append(out, placesOf(math.MinInt, math.MaxInt, math.MaxInt, math.MinInt, -1, 5, 5, -1)...)
}

func sixJoints() impl.Framework {
	return frameworkOf(impl.CompleteGraph(6), 0, 0, 4, 0, 0, 4, 4, 4, 1, 2, 3, 3)
}

func someFrameworks() []impl.Framework {
	return []impl.Framework{
		frameworkOf(graphOf(1), 0, 0), frameworkOf(graphOf(1), 4, 4), frameworkOf(graphOf(1), 3, 1),
		frameworkOf(graphOf(2), 0, 4, 4, 0), frameworkOf(graphOf(2, 0, 1), 0, 4, 4, 0), frameworkOf(graphOf(2, 0, 1), 2, 2, 2, 3),
		// Two joints at one place, without a bar between them.
		frameworkOf(graphOf(2), 0, 0, 0, 0), frameworkOf(graphOf(3, 0, 2, 1, 2), 1, 1, 1, 1, 2, 4), frameworkOf(graphOf(4, 0, 1, 0, 3, 1, 2, 2, 3), 0, 2, 3, 2, 0, 2, 3, 2),
		frameworkOf(graphOf(6), 4, 1, 4, 1, 4, 1, 4, 1, 4, 1, 4, 1),
		frameworkOf(graphOf(3, 0, 1, 0, 2), 0, 0, 4, 0, 1, 3), frameworkOf(graphOf(3, 0, 1, 0, 2, 1, 2), 0, 0, 1, 1, 2, 2),
		frameworkOf(graphOf(3, 1, 2), 0, 0, 1, 2, 0, 0), frameworkOf(graphOf(5, 0, 4, 1, 4, 2, 4), 4, 3, 2, 1, 0, 0, 1, 1, 3, 3),
		frameworkOf(pathGraph(6), 0, 0, 1, 0, 0, 0, 1, 0, 0, 0, 1, 0),
		sixJoints(),
	}
}

// smallFrameworks returns all frameworks of up to three joints with the numbers 0, 1 and 4 that should be valid.
func smallFrameworks() []impl.Framework {
	numbers := []int{0, 1, 4}
	var out []impl.Framework
	for points := 1; points <= 3; points++ {
		pairs := impl.CompleteGraph(points).Bars
		for code := range 1 << len(pairs) {
			g := impl.Graph{Points: points}
			for _, i := range barsOfCode(code, len(pairs)) {
				g.Bars = append(g.Bars, pairs[i])
			}
			choice := make([]int, 2*points)
			for more := true; more; more = increase(choice, len(numbers)) {
				f := impl.Framework{Graph: g}
				for v := range points {
					f.Places = append(f.Places, impl.Place{X: numbers[choice[2*v]], Y: numbers[choice[2*v+1]]})
				}
				if !slices.ContainsFunc(g.Bars, func(b impl.Bar) bool { return f.Places[b.A] == f.Places[b.B] }) {
					out = append(out, f)
				}
			}
		}
	}
	return out
}

func validFrameworks() []impl.Framework {
	return append(someFrameworks(), smallFrameworks()...)
}

// withPlacesFor puts the joints of a graph that is not valid on the grid, at most 9 of them.
func withPlacesFor(g impl.Graph) impl.Framework {
	return impl.Framework{Graph: g, Places: gridPlaces()[:max(0, min(g.Points, 9))]}
}

func frameworksOfWrongGraphs() []impl.Framework {
	var out []impl.Framework
	for _, g := range invalidGraphs() {
		out = append(out, withPlacesFor(g), frameworkOf(g, 0, 0, 1, 0, 2, 0))
	}
	for _, g := range []impl.Graph{
		// Too many points, or more than 15 bars: without equal ones this takes more than 6 points.
		graphOf(7), graphOf(8), graphOf(7, 0, 1), graphOf(7, 5, 6), graphOf(8, 6, 7), pathGraph(7), pathGraph(8),
		impl.CompleteGraph(7), impl.OnlyBars(impl.CompleteGraph(7), firstBars(15)), impl.OnlyBars(impl.CompleteGraph(7), firstBars(16)),
		// Bars that occur twice, the first ones, the last ones and ones between, and more than 15 bars with them.
		graphOf(2, 0, 1, 0, 1), graphOf(3, 0, 1, 0, 1, 1, 2), graphOf(3, 0, 1, 1, 2, 1, 2), graphOf(4, 0, 1, 0, 2, 0, 2, 2, 3), graphOf(6, 4, 5, 4, 5, 4, 5),
		manyBars(2, 15), manyBars(2, 16), manyBars(6, impl.MaxBars),
	} {
		out = append(out, withPlacesFor(g))
	}
	full := impl.CompleteGraph(6)
	for i := range full.Bars {
		out = append(out, impl.Framework{Graph: impl.Graph{Points: 6, Bars: slices.Insert(slices.Clone(full.Bars), i, full.Bars[i])}, Places: gridPlaces()[:6]})
	}
	return out
}

func frameworksOfWrongPlaces() []impl.Framework {
	path := graphOf(3, 0, 1, 1, 2)
	out := []impl.Framework{
		// Too few and too many places.
		frameworkOf(graphOf(1)), frameworkOf(graphOf(1), 0, 0, 1, 1), frameworkOf(graphOf(2, 0, 1)), frameworkOf(graphOf(2, 0, 1), 0, 0), frameworkOf(graphOf(2, 0, 1), 0, 0, 1, 1, 2, 2),
		frameworkOf(path), frameworkOf(path, 0, 0), frameworkOf(path, 0, 0, 1, 1), frameworkOf(path, 0, 0, 1, 1, 2, 2, 3, 3),
		{Graph: impl.CompleteGraph(6), Places: gridPlaces()[:5]}, {Graph: impl.CompleteGraph(6), Places: gridPlaces()[:7]}, {Graph: graphOf(6), Places: gridPlaces()}, {Graph: graphOf(6)},
		// Two joints at one place with a bar between them.
		frameworkOf(graphOf(2, 0, 1), 0, 0, 0, 0), frameworkOf(graphOf(2, 0, 1), 4, 2, 4, 2), frameworkOf(path, 0, 0, 1, 1, 1, 1), frameworkOf(path, 3, 1, 3, 1, 0, 0),
		frameworkOf(impl.CompleteGraph(6), 0, 0, 4, 0, 0, 4, 4, 4, 1, 2, 1, 2), frameworkOf(impl.CompleteGraph(6), 1, 2, 4, 0, 0, 4, 4, 4, 3, 3, 1, 2),
		frameworkOf(graphOf(6, 0, 1, 4, 5), 0, 0, 1, 1, 2, 2, 2, 2, 3, 3, 3, 3),
		// Differences that wrap around to small ones.
		frameworkOf(graphOf(2, 0, 1), math.MaxInt, 0, math.MinInt, 0), frameworkOf(graphOf(2, 0, 1), 1, math.MinInt, 1, math.MaxInt), frameworkOf(graphOf(2, 0, 1), math.MinInt, math.MinInt, math.MinInt, math.MinInt+1),
	}
	for _, p := range offGridPlaces() {
		for v := range 3 {
			out = append(out, withPlace(frameworkOf(path, 0, 0, 1, 2, 4, 4), v, p), withPlace(frameworkOf(graphOf(3), 0, 0, 0, 0, 0, 0), v, p))
		}
		out = append(out, frameworkOf(graphOf(1), p.X, p.Y), withPlace(sixJoints(), 5, p))
	}
	return out
}

func invalidFrameworks() []impl.Framework {
	out := append(frameworksOfWrongGraphs(), frameworksOfWrongPlaces()...)
	return append(out, impl.Framework{}, impl.Framework{Places: gridPlaces()})
}

// squaresByDefinition uses numbers of any size.
func squaresByDefinition(f impl.Framework) []int {
	var out []int
	for _, b := range f.Graph.Bars {
		x := big.NewInt(int64(f.Places[b.A].X - f.Places[b.B].X))
		y := big.NewInt(int64(f.Places[b.A].Y - f.Places[b.B].Y))
		out = append(out, int(x.Mul(x, x).Add(x, y.Mul(y, y)).Int64()))
	}
	return out
}

// onOneLine looks for p and q, not both 0, with p * X + q * Y the same for all three; on the grid small ones are enough.
func onOneLine(a, b, c impl.Place) bool {
	for p := -impl.MaxGrid; p <= impl.MaxGrid; p++ {
		for q := -impl.MaxGrid; q <= impl.MaxGrid; q++ {
			n := p*a.X + q*a.Y
			if (p != 0 || q != 0) && p*b.X+q*b.Y == n && p*c.X+q*c.Y == n {
				return true
			}
		}
	}
	return false
}

var frameworkPattern = regexp.MustCompile(`^([1-6]):((?: [0-5]-[0-5])*) at((?: [0-4],[0-4])+)$`)

// readByPattern returns the framework of a format, read with a pattern and the rules for bars and places.
func readByPattern(s string) (impl.Framework, bool) {
	parts := frameworkPattern.FindStringSubmatch(s)
	if parts == nil {
		return impl.Framework{}, false
	}
	f := impl.Framework{Graph: impl.Graph{Points: int(parts[1][0] - '0')}}
	// Each bar and each place has four bytes: a space, a digit, a sign and a digit.
	for l := parts[3]; l != ""; l = l[4:] {
		f.Places = append(f.Places, impl.Place{X: int(l[1] - '0'), Y: int(l[3] - '0')})
	}
	if len(f.Places) != f.Graph.Points {
		return impl.Framework{}, false
	}
	last := ""
	for l := parts[2]; l != ""; l = l[4:] {
		b := impl.Bar{A: int(l[1] - '0'), B: int(l[3] - '0')}
		// With one digit each, bars are in strict order exactly if their strings are.
		if b.A >= b.B || b.B >= f.Graph.Points || l[:4] <= last || f.Places[b.A] == f.Places[b.B] {
			return impl.Framework{}, false
		}
		f.Graph.Bars, last = append(f.Graph.Bars, b), l[:4]
	}
	return f, true
}

func checkParse(t *testing.T, s string) {
	want, wantOk := readByPattern(s)
	if f, ok := impl.ParseFramework(s); ok != wantOk || !sameFramework(f, want) {
		t.Fatalf("ParseFramework(%q) = %v, %v, want %v, %v", s, f, ok, want, wantOk)
	}
}

// checkPlacesChanged expects the places that a function gives for those of f.
func checkPlacesChanged(t *testing.T, name string, f, got impl.Framework, change func(p impl.Place) impl.Place) {
	want := impl.Framework{Graph: f.Graph}
	for _, p := range f.Places {
		want.Places = append(want.Places, change(p))
	}
	if !sameFramework(got, want) || !impl.IsFramework(got) || !impl.AreSameLengths(f, got) {
		t.Fatalf("%s(%v) = %v, want %v", name, f, got, want)
	}
}

func mirrored(p impl.Place) impl.Place { return impl.Place{X: 4 - p.X, Y: p.Y} }

func turned(p impl.Place) impl.Place { return impl.Place{X: 4 - p.Y, Y: p.X} }

func TestFrameworkLimits(t *testing.T) {
	if impl.MaxGrid != 4 || impl.MaxJoints != 6 {
		t.Error("limits", impl.MaxGrid, impl.MaxJoints)
	}
}

func TestIsFramework(t *testing.T) {
	for _, f := range validFrameworks() {
		if !impl.IsFramework(f) {
			t.Errorf("IsFramework(%v) is false", f)
		}
	}
	for _, p := range gridPlaces() {
		if f := frameworkOf(graphOf(1), p.X, p.Y); !impl.IsFramework(f) {
			t.Errorf("IsFramework(%v) is false", f)
		}
	}
}

// Among all pairs of places on the grid and around it, those of a bar must differ.
func TestIsFrameworkOfTwoJoints(t *testing.T) {
	for code := range 8 * 8 * 8 * 8 {
		p := impl.Place{X: code%8 - 2, Y: code/8%8 - 2}
		q := impl.Place{X: code/64%8 - 2, Y: code/512 - 2}
		on := slices.Contains(gridPlaces(), p) && slices.Contains(gridPlaces(), q)
		if f := frameworkOf(graphOf(2), p.X, p.Y, q.X, q.Y); impl.IsFramework(f) != on {
			t.Fatalf("IsFramework(%v) is %v", f, !on)
		}
		if f := frameworkOf(graphOf(2, 0, 1), p.X, p.Y, q.X, q.Y); impl.IsFramework(f) != (on && p != q) {
			t.Fatalf("IsFramework(%v) is %v", f, !(on && p != q))
		}
	}
}

// All bars but one of six joints may join two joints at one place to others.
func TestTwoJointsAtOnePlace(t *testing.T) {
	full := impl.CompleteGraph(6)
	for k, b := range full.Bars {
		f := impl.Framework{Graph: full, Places: slices.Clone(sixJoints().Places)}
		f.Places[b.B] = f.Places[b.A]
		if impl.IsFramework(f) {
			t.Errorf("%v is valid with a bar without a length", f)
		}
		checkInvalidFramework(t, f)
		f.Graph, _ = impl.RemoveBar(full, k)
		if !impl.IsFramework(f) || len(impl.SquareLengths(f)) != 14 {
			t.Errorf("%v is not valid", f)
		}
		if got, ok := impl.ParseFramework(impl.FormatFramework(f)); !ok || !sameFramework(got, f) {
			t.Errorf("%v comes back as %v, %v", f, got, ok)
		}
	}
}

// checkInvalidFramework expects the fixed result of each function.
func checkInvalidFramework(t *testing.T, f impl.Framework) {
	valid := frameworkOf(graphOf(1), 0, 0)
	if impl.IsFramework(f) || len(impl.SquareLengths(f)) != 0 || impl.FormatFramework(f) != "" {
		t.Errorf("%v is valid: %v, squares %v, format %q", f, impl.IsFramework(f), impl.SquareLengths(f), impl.FormatFramework(f))
	}
	if impl.AreSameLengths(f, f) || impl.AreSameLengths(f, valid) || impl.AreSameLengths(valid, f) {
		t.Errorf("AreSameLengths of %v is true", f)
	}
	if x := impl.MirrorFramework(f); !sameFramework(x, f) {
		t.Errorf("MirrorFramework(%v) = %v, want it unchanged", f, x)
	}
	if x := impl.TurnFramework(f); !sameFramework(x, f) {
		t.Errorf("TurnFramework(%v) = %v, want it unchanged", f, x)
	}
	for v := -1; v <= len(f.Places) && v < 9; v++ {
		for _, p := range placesOf(0, 0, 2, 3, 4, 4, -1, 0, 0, 5) {
			if x, ok := impl.MoveJoint(f, v, p); ok || !sameFramework(x, f) {
				t.Errorf("MoveJoint(%v, %d, %v) = %v, %v, want it unchanged and false", f, v, p, x, ok)
			}
		}
	}
	if !impl.EqualFrameworks(f, f) {
		t.Errorf("%v is not equal to itself", f)
	}
}

func TestInvalidFrameworks(t *testing.T) {
	for _, f := range invalidFrameworks() {
		checkInvalidFramework(t, f)
	}
}

// With the same places, equal frameworks that are not valid have no lengths in common.
func TestAreSameLengthsInvalid(t *testing.T) {
	valid := frameworkOf(graphOf(3, 0, 1, 1, 2), 0, 0, 1, 2, 4, 4)
	for _, f := range []impl.Framework{
		frameworkOf(graphOf(3, 0, 1, 1, 2), 0, 0, 1, 2, 4, 4, 4, 4),
		frameworkOf(graphOf(3, 0, 1, 1, 2), -1, 0, 0, 2, 3, 4), frameworkOf(graphOf(3, 0, 1, 1, 2), 1, 1, 2, 3, 5, 5),
		frameworkOf(graphOf(3, 1, 2, 0, 1), 0, 0, 1, 2, 4, 4),
	} {
		if !impl.AreSameLengths(valid, valid) || impl.AreSameLengths(valid, f) || impl.AreSameLengths(f, valid) || impl.AreSameLengths(f, f) {
			t.Errorf("AreSameLengths of %v and %v", valid, f)
		}
	}
}

func TestSquareLengths(t *testing.T) {
	for _, c := range []struct {
		f    impl.Framework
		want []int
	}{
		{frameworkOf(graphOf(3, 0, 1, 0, 2), 0, 0, 4, 0, 1, 3), []int{16, 10}},
		{frameworkOf(graphOf(2, 0, 1), 4, 4, 0, 0), []int{32}},
		{frameworkOf(graphOf(2, 0, 1), 2, 2, 2, 3), []int{1}},
		{frameworkOf(graphOf(2), 0, 0, 4, 4), nil},
		{frameworkOf(graphOf(1), 2, 2), nil},
		{frameworkOf(graphOf(3, 0, 2, 1, 2), 1, 1, 1, 1, 2, 4), []int{10, 10}},
		{frameworkOf(pathGraph(4), 0, 1, 3, 0, 3, 2, 1, 1), []int{10, 4, 5}},
		{sixJoints(), []int{16, 16, 32, 5, 18, 32, 16, 13, 10, 16, 5, 10, 13, 2, 5}},
	} {
		if got := impl.SquareLengths(c.f); !slices.Equal(got, c.want) {
			t.Errorf("SquareLengths(%v) = %v, want %v", c.f, got, c.want)
		}
	}
	for _, f := range validFrameworks() {
		if got := impl.SquareLengths(f); !slices.Equal(got, squaresByDefinition(f)) {
			t.Fatalf("SquareLengths(%v) = %v, want %v", f, got, squaresByDefinition(f))
		}
	}
}

func TestAreSameLengths(t *testing.T) {
	path := graphOf(3, 0, 1, 0, 2)
	f := frameworkOf(path, 0, 0, 4, 0, 1, 3)
	for _, c := range []struct {
		g    impl.Framework
		want bool
	}{
		{f, true},
		{frameworkOf(path, 0, 0, 4, 0, 3, 1), true},
		{frameworkOf(path, 4, 4, 0, 4, 3, 1), true},
		{frameworkOf(path, 0, 0, 4, 0, 3, 0), false},
		{frameworkOf(path, 0, 0, 1, 3, 4, 0), false},
		{frameworkOf(graphOf(3, 0, 1), 0, 0, 4, 0, 1, 3), false},
		{frameworkOf(graphOf(3, 0, 1, 1, 2), 4, 0, 0, 0, 1, 1), false},
		// The same squares in the same order, but another graph.
		{frameworkOf(graphOf(3, 0, 1, 1, 2), 4, 0, 0, 0, 1, 3), false},
		{frameworkOf(graphOf(4, 0, 1, 0, 2), 0, 0, 4, 0, 1, 3, 2, 2), false},
	} {
		if impl.AreSameLengths(f, c.g) != c.want || impl.AreSameLengths(c.g, f) != c.want {
			t.Errorf("AreSameLengths of %v and %v, want %v", f, c.g, c.want)
		}
	}
	if !impl.AreSameLengths(frameworkOf(graphOf(2), 0, 0, 0, 0), frameworkOf(graphOf(2), 1, 1, 4, 4)) || impl.AreSameLengths(frameworkOf(graphOf(2), 0, 0, 0, 0), frameworkOf(graphOf(1), 0, 0)) {
		t.Error("without bars, only the points count")
	}
}

func TestAreSameLengthsByDefinition(t *testing.T) {
	all := someFrameworks()
	for i, f := range smallFrameworks() {
		if i%17 == 0 {
			all = append(all, f)
		}
	}
	for _, a := range all {
		for _, b := range all {
			want := sameGraph(a.Graph, b.Graph) && slices.Equal(squaresByDefinition(a), squaresByDefinition(b))
			if impl.AreSameLengths(a, b) != want {
				t.Fatalf("AreSameLengths(%v, %v) is %v", a, b, !want)
			}
		}
	}
}

func TestMirrorAndTurn(t *testing.T) {
	f := frameworkOf(graphOf(3, 0, 1, 0, 2), 0, 0, 4, 0, 1, 3)
	if got := impl.MirrorFramework(f); !sameFramework(got, frameworkOf(f.Graph, 4, 0, 0, 0, 3, 3)) {
		t.Error("mirrored", got)
	}
	if got := impl.TurnFramework(f); !sameFramework(got, frameworkOf(f.Graph, 4, 0, 4, 4, 1, 1)) {
		t.Error("turned", got)
	}
	for _, f := range validFrameworks() {
		mirror, turn := impl.MirrorFramework(f), impl.TurnFramework(f)
		checkPlacesChanged(t, "MirrorFramework", f, mirror, mirrored)
		checkPlacesChanged(t, "TurnFramework", f, turn, turned)
		if again := impl.MirrorFramework(mirror); !sameFramework(again, f) {
			t.Fatalf("mirrored twice, %v is %v", f, again)
		}
		if again := impl.TurnFramework(impl.TurnFramework(impl.TurnFramework(turn))); !sameFramework(again, f) {
			t.Fatalf("turned four times, %v is %v", f, again)
		}
	}
}

func TestMoveJoint(t *testing.T) {
	f := frameworkOf(graphOf(3, 0, 1, 0, 2), 0, 0, 4, 0, 1, 3)
	for _, c := range []struct {
		v    int
		p    impl.Place
		want impl.Framework
	}{
		{0, impl.Place{X: 2, Y: 2}, frameworkOf(f.Graph, 2, 2, 4, 0, 1, 3)},
		{2, impl.Place{X: 3, Y: 1}, frameworkOf(f.Graph, 0, 0, 4, 0, 3, 1)},
		{1, impl.Place{X: 4, Y: 0}, f},
		// No bar joins 1 and 2, so they may be at one place.
		{1, impl.Place{X: 1, Y: 3}, frameworkOf(f.Graph, 0, 0, 1, 3, 1, 3)},
		{2, impl.Place{X: 4, Y: 0}, frameworkOf(f.Graph, 0, 0, 4, 0, 4, 0)},
	} {
		if got, ok := impl.MoveJoint(f, c.v, c.p); !ok || !sameFramework(got, c.want) {
			t.Errorf("MoveJoint(%v, %d, %v) = %v, %v, want %v", f, c.v, c.p, got, ok, c.want)
		}
	}
	for _, f := range someFrameworks() {
		for v := range f.Places {
			for _, p := range gridPlaces() {
				want, wantOk := withPlace(f, v, p), true
				if slices.ContainsFunc(f.Graph.Bars, func(b impl.Bar) bool { return want.Places[b.A] == want.Places[b.B] }) {
					want, wantOk = f, false
				}
				if got, ok := impl.MoveJoint(f, v, p); ok != wantOk || !sameFramework(got, want) {
					t.Fatalf("MoveJoint(%v, %d, %v) = %v, %v, want %v, %v", f, v, p, got, ok, want, wantOk)
				}
			}
		}
	}
}

func TestMoveJointInvalid(t *testing.T) {
	for _, f := range someFrameworks() {
		for _, v := range []int{math.MinInt, -1, f.Graph.Points, f.Graph.Points + 1, 6, 7, 1 << 32, math.MaxInt} {
			if got, ok := impl.MoveJoint(f, v, impl.Place{X: 2, Y: 1}); ok || !sameFramework(got, f) {
				t.Errorf("MoveJoint(%v, %d) = %v, %v, want it unchanged and false", f, v, got, ok)
			}
		}
		for v := range f.Places {
			for _, p := range offGridPlaces() {
				if got, ok := impl.MoveJoint(f, v, p); ok || !sameFramework(got, f) {
					t.Errorf("MoveJoint(%v, %d, %v) = %v, %v, want it unchanged and false", f, v, p, got, ok)
				}
			}
		}
	}
	// What the move would repair was not valid before.
	for _, f := range []impl.Framework{frameworkOf(graphOf(2, 0, 1), 1, 1, 1, 1), frameworkOf(graphOf(2, 0, 1), 1, 1, 5, 0), frameworkOf(graphOf(2), 0, 0, 0, math.MinInt)} {
		if got, ok := impl.MoveJoint(f, 1, impl.Place{}); ok || !sameFramework(got, f) {
			t.Errorf("MoveJoint(%v, 1, 0,0) = %v, %v, want it unchanged and false", f, got, ok)
		}
	}
}

func TestAreCollinear(t *testing.T) {
	for _, c := range []struct {
		l    []impl.Place
		want bool
	}{
		{placesOf(0, 0, 1, 2, 2, 4), true}, {placesOf(0, 0, 1, 2, 2, 3), false},
		{placesOf(2, 4, 0, 0, 1, 2), true}, {placesOf(0, 4, 2, 2, 4, 0), true}, {placesOf(3, 0, 3, 4, 3, 1), true}, {placesOf(0, 2, 4, 2, 1, 2), true},
		{placesOf(0, 0, 4, 0, 0, 4), false}, {placesOf(0, 0, 4, 4, 4, 3), false}, {placesOf(0, 0, 2, 1, 1, 2), false},
		{placesOf(1, 3, 1, 3, 4, 0), true}, {placesOf(1, 3, 4, 0, 1, 3), true}, {placesOf(4, 0, 1, 3, 1, 3), true}, {placesOf(2, 2, 2, 2, 2, 2), true},
	} {
		if got := impl.AreCollinear(c.l[0], c.l[1], c.l[2]); got != c.want {
			t.Errorf("AreCollinear of %v is %v", c.l, got)
		}
	}
	for _, a := range gridPlaces() {
		for _, b := range gridPlaces() {
			for _, c := range gridPlaces() {
				if want := onOneLine(a, b, c); impl.AreCollinear(a, b, c) != want {
					t.Fatalf("AreCollinear(%v, %v, %v) is %v", a, b, c, !want)
				}
			}
		}
	}
}

func TestAreCollinearOffTheGrid(t *testing.T) {
	check := func(a, b, c impl.Place) {
		if impl.AreCollinear(a, b, c) || impl.AreCollinear(b, a, c) || impl.AreCollinear(b, c, a) {
			t.Errorf("AreCollinear of %v, %v and %v is true", a, b, c)
		}
	}
	for _, p := range offGridPlaces() {
		check(p, p, p)
		for _, a := range gridPlaces() {
			check(p, a, a)
			check(a, p, p)
			for _, b := range gridPlaces() {
				check(p, a, b)
			}
		}
	}
	check(impl.Place{X: 5, Y: 5}, impl.Place{X: 4, Y: 4}, impl.Place{X: 3, Y: 3})
	check(impl.Place{X: -1, Y: 0}, impl.Place{X: 0, Y: 0}, impl.Place{X: 1, Y: 0})
}

func TestFormatFramework(t *testing.T) {
	for _, c := range []struct {
		f    impl.Framework
		want string
	}{
		{frameworkOf(graphOf(1), 0, 0), "1: at 0,0"},
		{frameworkOf(graphOf(1), 3, 1), "1: at 3,1"},
		{frameworkOf(graphOf(2), 0, 0, 0, 0), "2: at 0,0 0,0"},
		{frameworkOf(graphOf(2, 0, 1), 4, 0, 0, 4), "2: 0-1 at 4,0 0,4"},
		{frameworkOf(graphOf(3, 0, 1, 0, 2), 0, 0, 4, 0, 1, 3), "3: 0-1 0-2 at 0,0 4,0 1,3"},
		{sixJoints(), "6: 0-1 0-2 0-3 0-4 0-5 1-2 1-3 1-4 1-5 2-3 2-4 2-5 3-4 3-5 4-5 at 0,0 4,0 0,4 4,4 1,2 3,3"},
	} {
		if got := impl.FormatFramework(c.f); got != c.want {
			t.Errorf("FormatFramework(%v) = %q, want %q", c.f, got, c.want)
		}
	}
}

func TestFrameworksComeBack(t *testing.T) {
	formats := map[string]bool{}
	for _, f := range smallFrameworks() {
		formats[impl.FormatFramework(f)] = true
	}
	if len(formats) != len(smallFrameworks()) {
		t.Error("two frameworks have the same format")
	}
	for _, f := range validFrameworks() {
		s := impl.FormatFramework(f)
		if got, ok := impl.ParseFramework(s); !ok || !sameFramework(got, f) {
			t.Fatalf("ParseFramework(%q) = %v, %v, want %v", s, got, ok, f)
		}
		if want, ok := readByPattern(s); !ok || !sameFramework(want, f) {
			t.Fatalf("%q is the format of %v", s, f)
		}
	}
	for _, f := range invalidFrameworks() {
		if got, ok := impl.ParseFramework(impl.FormatFramework(f)); ok || !sameFramework(got, impl.Framework{}) {
			t.Fatalf("the format of %v is read as %v, %v", f, got, ok)
		}
	}
}

func TestParseFrameworkInvalid(t *testing.T) {
	for _, s := range []string{
		"", " ", "at", " at", " at ", "at 0,0", " at 0,0", ":", ": at 0,0", "1", "1:", "1: ", "1: at", "1: at ", "1 at 0,0", "1at 0,0", "3: 0-1 0-2", "none", "\xff",
		"2: 0-1 at 0,0 0,0", "3: 0-1 1-2 at 0,0 1,1 1,1", "2: 0-1 at 0,0", "2: 0-1 at 0,0 1,0 2,0", "1: at 0,0 0,0", "2: at 0,0", "2: 0-1 at",
		"2: 0-1 at 0,0 5,0", "2: 0-1 at 0,0 0,5", "2: 0-1 at 5,0 0,0", "2: 0-1 at 0,0 -1,0", "2: 0-1 at 0,-1 0,0", "2: 0-1 at 0,0 10,0", "1: at 0,9223372036854775808", "1: at -9223372036854775808,0", "1: at 4294967296,0",
		"2: 0-1 0-1 at 0,0 1,0", "3: 0-2 0-1 at 0,0 1,0 2,0", "2: 1-0 at 0,0 1,0", "2: 0-0 at 0,0 1,0", "2: 0-2 at 0,0 1,0", "1: 0-1 at 0,0", "0: at", "0: at 0,0", "-1: at", "-1: at 0,0",
		"7: at 0,0 0,0 0,0 0,0 0,0 0,0 0,0", "8: at 0,0 0,0 0,0 0,0 0,0 0,0 0,0 0,0", "7: at 0,0 0,0 0,0 0,0 0,0 0,0", "9: at 0,0", "10: at 0,0",
		"1: at 0", "1: at ,", "1: at 0,", "1: at ,0", "1: at 0,0,0", "1: at 0,,0", "1: at 0,0,", "1: at ,0,0", "1: at 0.0", "1: at 0-0", "1: at 0;0", "1: at 0 0", "1: at a,0", "1: at 0,a", "1: at (0,0)",
		"1: at 00,0", "1: at 0,00", "1: at 01,0", "1: at +1,0", "1: at -0,0", "1: at 0,-0", "1: at 1.,0", "1: at 0x1,0", "1: at  0,0", "1:  at 0,0", "1:at 0,0", "1: at0,0", "1: at 0 ,0", "1: at 0, 0",
		" 1: at 0,0", "1: at 0,0 ", "1: at 0,0\n", "1: at 0,0\x00", "1:\tat 0,0", "1: at\t0,0", "1: at\n0,0", "2: 0-1 at 0,0  1,0", "2: 0-1 at 0,0\t1,0", "2: 0-1  at 0,0 1,0", "2:  0-1 at 0,0 1,0", "2: 0-1at 0,0 1,0", "2: 0-1 at0,0 1,0", "2: 0-1 at  0,0 1,0", "2: 0-1 at 0,01,0",
		"1: At 0,0", "1: AT 0,0", "1: a 0,0", "1: t 0,0", "1: att 0,0", "1: aat 0,0", "1: at at 0,0", "1: at 0,0 at", "2: at 0,0 at 0,0", "3: at 0,0 at 0,0", "2: 0-1 at at 0,0 1,0", "2: at 0-1 0,0 1,0", "2: 0-1 at 0,0 at 1,0", "2: 0-1 0,0 1,0",
		"0,0 1,0 at 2: 0-1", "2: 0-1 at 0,0 1,0 2: 0-1", "3: 0-1 at 0,0 1,0 1-2", "01: at 0,0", "+1: at 0,0", "1:: at 0,0", "1; at 0,0", "1: at\u00a00,0", "\uff11: at 0,0", "1: at \u0660,0", "1: at 0\uff0c0", "1: at 0,0\xff", "2: 0\u20101 at 0,0 1,0",
		"2: 0-1 at 0,0 1,0" + strings.Repeat(" ", 1000), strings.Repeat("1: at 0,0", 1000), "1: at" + strings.Repeat(" 0,0", 100000), strings.Repeat(" at", 100000), "1:" + strings.Repeat(" ", 100000) + " at 0,0",
	} {
		if f, ok := impl.ParseFramework(s); ok || !sameFramework(f, impl.Framework{}) {
			t.Errorf("ParseFramework(%q) = %v, %v, want the zero value and false", s[:min(len(s), 60)], f, ok)
		}
		checkParse(t, s)
	}
}

// Graphs alone, with places that do not fit them, and with the places of other graphs.
func TestParseFrameworkOfParts(t *testing.T) {
	for _, f := range someFrameworks() {
		for _, g := range append(validGraphs(), graphOf(6, 0, 1), graphOf(3, 0, 1, 0, 1)) {
			s := impl.FormatFramework(f)
			places := s[strings.Index(s, " at"):]
			checkParse(t, impl.FormatGraph(g)+places)
			checkParse(t, impl.FormatGraph(g))
			checkParse(t, impl.FormatGraph(g)+places+places)
			checkParse(t, impl.FormatGraph(g)+places+places[len(" at"):])
		}
	}
}

// With all strings of up to five of these bytes between two parts, exactly the formats are accepted.
func TestParseFrameworkShortStrings(t *testing.T) {
	const bytes = "01,5 a-"
	for before, after := range map[string]string{"1: at": "", "1: at ": "", "2: 0-1 at": "", "2: 0-1 at 0,0": "", "2:": " at 0,0 1,0", "": ": at 0,0", "2: 0-1 at 0": "1,0", "2": "t 0,0 1,1"} {
		var check func(s string)
		check = func(s string) {
			checkParse(t, before+s+after)
			if len(s) < 5 {
				for i := range len(bytes) {
					check(s + bytes[i:i+1])
				}
			}
		}
		check("")
	}
}

// A format with one byte changed, added, left out or moved is accepted only if it is a format again.
func TestParseFrameworkChangedFormats(t *testing.T) {
	accepted := 0
	check := func(s string) {
		checkParse(t, s)
		if f, ok := impl.ParseFramework(s); ok && impl.FormatFramework(f) == s {
			accepted++
		} else if ok {
			t.Errorf("ParseFramework(%q) = %v", s, f)
		}
	}
	for _, f := range someFrameworks() {
		s := impl.FormatFramework(f)
		for i := range len(s) {
			check(s[:i])
			check(s[i:])
			check(s[:i] + s[i+1:])
			for j := range i {
				check(s[:j] + s[i:i+1] + s[j+1:i] + s[j:j+1] + s[i+1:])
			}
			for b := range 256 {
				check(s[:i] + string([]byte{byte(b)}) + s[i+1:])
				check(s[:i] + string([]byte{byte(b)}) + s[i:])
			}
		}
	}
	if accepted == 0 {
		t.Error("no changed format is a format")
	}
}

func TestEqualFrameworks(t *testing.T) {
	all := append(someFrameworks(), frameworksOfWrongGraphs()...)
	all = append(all, frameworksOfWrongPlaces()...)
	all = append(all, impl.Framework{}, frameworkOf(graphOf(2, 0, 1), 2, 2, 2, 4), frameworkOf(graphOf(2, 0, 1), 2, 2, 3, 3), frameworkOf(graphOf(2), 2, 2, 2, 3))
	for _, a := range all {
		for _, b := range all {
			if impl.EqualFrameworks(a, b) != sameFramework(a, b) {
				t.Fatalf("EqualFrameworks(%v, %v) is %v", a, b, !sameFramework(a, b))
			}
		}
	}
	empty := impl.Framework{Graph: impl.Graph{Points: 1, Bars: []impl.Bar{}}, Places: []impl.Place{}}
	if !impl.EqualFrameworks(empty, impl.Framework{Graph: impl.Graph{Points: 1}}) || !impl.EqualFrameworks(impl.Framework{}, impl.Framework{Places: []impl.Place{}}) {
		t.Error("no bars and no places, nil and empty")
	}
	f := frameworkOf(graphOf(2, 0, 1), 2, 2, 2, 3)
	for _, other := range []impl.Framework{
		frameworkOf(graphOf(3, 0, 1), 2, 2, 2, 3), frameworkOf(graphOf(2), 2, 2, 2, 3), frameworkOf(graphOf(2, 0, 1), 2, 2), frameworkOf(graphOf(2, 0, 1), 2, 2, 2, 3, 2, 3),
		frameworkOf(graphOf(2, 0, 1), 2, 2, 2, 4), frameworkOf(graphOf(2, 0, 1), 2, 2, 3, 3), frameworkOf(graphOf(2, 0, 1), 2, 3, 2, 2), frameworkOf(graphOf(2, 1, 0), 2, 2, 2, 3),
	} {
		if impl.EqualFrameworks(f, other) || impl.EqualFrameworks(other, f) {
			t.Errorf("%v and %v are equal", f, other)
		}
	}
}

// inRoom copies a list with room behind it, filled with a mark.
func inRoom[T any](l []T, mark T) []T {
	return append(slices.Clone(l), slices.Repeat([]T{mark}, 4)...)
}

// changeSharedPlaces gives a function lists with room behind them and reports whether they were written to or are shared with the result.
func changeSharedPlaces(f impl.Framework, call func(impl.Framework) impl.Framework) bool {
	bars, places := inRoom(f.Graph.Bars, impl.Bar{A: 77, B: 78}), inRoom(f.Places, impl.Place{X: 77, Y: 78})
	wantBars, wantPlaces := slices.Clone(bars), slices.Clone(places)
	out := call(impl.Framework{Graph: impl.Graph{Points: f.Graph.Points, Bars: bars[:len(f.Graph.Bars)]}, Places: places[:len(f.Places)]})
	for i := range out.Graph.Bars {
		out.Graph.Bars[i] = impl.Bar{A: -9, B: -9}
	}
	for i := range out.Places {
		out.Places[i] = impl.Place{X: -9, Y: -9}
	}
	for range 4 {
		out.Graph.Bars = append(out.Graph.Bars, impl.Bar{A: -9, B: -9})
		out.Places = append(out.Places, impl.Place{X: -9, Y: -9})
	}
	return !slices.Equal(bars, wantBars) || !slices.Equal(places, wantPlaces)
}

func TestFrameworksAreNotShared(t *testing.T) {
	calls := map[string]func(impl.Framework) impl.Framework{
		"MirrorFramework": impl.MirrorFramework,
		"TurnFramework":   impl.TurnFramework,
	}
	for name, move := range map[string]struct {
		v int
		p impl.Place
	}{
		"MoveJoint":                  {0, impl.Place{X: 3, Y: 4}},
		"MoveJoint of no joint":      {-1, impl.Place{}},
		"MoveJoint of one too many":  {6, impl.Place{}},
		"MoveJoint off the grid":     {0, impl.Place{X: 5}},
		"MoveJoint to another joint": {0, impl.Place{X: 4, Y: 4}},
	} {
		calls[name] = func(f impl.Framework) impl.Framework {
			out, _ := impl.MoveJoint(f, move.v, move.p)
			return out
		}
	}
	readers := []func(impl.Framework){
		func(f impl.Framework) { impl.IsFramework(f) }, func(f impl.Framework) { impl.SquareLengths(f) }, func(f impl.Framework) { impl.FormatFramework(f) },
		func(f impl.Framework) { impl.AreSameLengths(f, f) }, func(f impl.Framework) { impl.EqualFrameworks(f, f) },
	}
	calls["the functions that only read"] = func(f impl.Framework) impl.Framework {
		for _, read := range readers {
			read(f)
		}
		return impl.Framework{}
	}
	for _, f := range append(someFrameworks(), invalidFrameworks()...) {
		for name, call := range calls {
			if changeSharedPlaces(f, call) {
				t.Errorf("%s changes or shares what %v holds", name, f)
			}
		}
	}
}
