package tests

import (
	"math"
	"slices"
	"testing"

	"loop.example/g02078/impl"
)

// Promise 3, the part on the components of a graph: components divide the bars, and their counts add up to the rank.

// fivePointGraphs returns all graphs of five points without equal bars.
func fivePointGraphs() []impl.Graph {
	all := impl.CompleteGraph(5)
	var out []impl.Graph
	for code := range 1 << len(all.Bars) {
		g := impl.Graph{Points: 5}
		for _, bar := range barsOfCode(code, len(all.Bars)) {
			g.Bars = append(g.Bars, all.Bars[bar])
		}
		out = append(out, g)
	}
	return out
}

// fullGraph has MaxBars bars, all between the first seven points but for the last ones, which are equal.
func fullGraph() impl.Graph {
	g := impl.CompleteGraph(7)
	g.Points = 8
	for len(g.Bars) < impl.MaxBars {
		g.Bars = slices.Insert(g.Bars, 6, impl.Bar{A: 0, B: 7})
	}
	return g
}

func componentGraphs() []impl.Graph {
	out := append(countGraphs(), fullGraph(),
		graphOf(5, 0, 1, 0, 2, 1, 2, 2, 3, 2, 4, 3, 4),
		graphOf(5, 0, 2, 0, 3, 0, 4, 1, 3, 1, 4, 3, 4),
		graphOf(6, 0, 1, 0, 2, 1, 2, 2, 3, 3, 4, 3, 5, 4, 5),
		graphOf(6, 0, 1, 0, 2, 1, 2, 1, 3, 2, 4, 3, 4, 3, 5, 4, 5),
		graphOf(6, 0, 1, 0, 5, 1, 2, 1, 5, 2, 3, 3, 4, 3, 5, 4, 5),
		graphOf(7, 0, 1, 0, 2, 1, 2, 2, 3, 2, 4, 3, 4, 4, 5, 4, 6, 5, 6),
		graphOf(8, 0, 1, 0, 1, 2, 3, 4, 5, 4, 6, 5, 6, 5, 6),
		graphOf(8, 0, 1, 0, 2, 0, 3, 1, 2, 1, 3, 2, 3, 3, 4, 3, 7, 4, 5, 4, 6, 4, 7, 5, 6, 5, 7, 6, 7),
	)
	return append(append(out, smallGraphs()...), fivePointGraphs()...)
}

// impliedByDefinition counts the rank with one more bar, however many bars there are already.
func impliedByDefinition(g impl.Graph, a, b int) bool {
	if a == b {
		return true
	}
	more := impl.Graph{Points: g.Points, Bars: append(slices.Clone(g.Bars), impl.Bar{A: min(a, b), B: max(a, b)})}
	return rankByCount(more, 2, 3, allBars(more)) == rankByCount(g, 2, 3, allBars(g))
}

// rigidSets returns the sets of at least two points that the bars between them hold together, as numbers with a bit for each point.
func rigidSets(g impl.Graph) []int {
	var out []int
	for code := range 1 << g.Points {
		points := barsOfCode(code, g.Points)
		if len(points) >= 2 && rankByCount(g, 2, 3, spannedByCode(g, code)) == 2*len(points)-3 {
			out = append(out, code)
		}
	}
	return out
}

func spannedByCode(g impl.Graph, code int) []int {
	var out []int
	for i, b := range g.Bars {
		if (code>>b.A)&(code>>b.B)&1 == 1 {
			out = append(out, i)
		}
	}
	return out
}

// largestRigidSets returns, in the order of the bars, the rigid sets that are in no other one.
func largestRigidSets(g impl.Graph) [][]int {
	sets := rigidSets(g)
	largest := slices.DeleteFunc(slices.Clone(sets), func(a int) bool {
		return slices.ContainsFunc(sets, func(b int) bool { return a != b && a&b == a })
	})
	slices.SortFunc(largest, func(a, b int) int { return spannedByCode(g, a)[0] - spannedByCode(g, b)[0] })
	var out [][]int
	for _, code := range largest {
		out = append(out, barsOfCode(code, g.Points))
	}
	return out
}

func sameSets(a, b [][]int) bool {
	return slices.EqualFunc(a, b, func(x, y []int) bool { return slices.Equal(x, y) })
}

func TestIsImplied(t *testing.T) {
	for _, c := range []struct {
		text string
		a, b int
		want bool
	}{
		{"5: 0-1 0-2 1-2 2-3 2-4 3-4", 0, 2, true},
		{"5: 0-1 0-2 1-2 2-3 2-4 3-4", 2, 0, true},
		{"5: 0-1 0-2 1-2 2-3 2-4 3-4", 0, 3, false},
		{"5: 0-1 0-2 1-2 2-3 2-4 3-4", 3, 0, false},
		{"5: 0-1 0-2 1-2 2-3 2-4 3-4", 1, 1, true},
		{"5: 0-1 0-2 1-2 2-3 2-4 3-4", 4, 4, true},
		{"4: 0-1 0-2 1-2 1-3 2-3", 0, 3, true},
		{"4: 0-1 0-2 1-3 2-3", 0, 3, false},
		{"4: 0-1 0-2 1-3 2-3", 1, 3, true},
		{"6: 0-1 0-2 0-3 1-2 1-4 2-5 3-4 3-5 4-5", 0, 5, true},
		{"6: 0-1 0-2 1-2 1-4 2-5 3-4 3-5 4-5", 0, 3, false},
		{"6: 0-3 0-4 0-5 1-3 1-4 1-5 2-3 2-4 2-5", 0, 1, true},
		{"3:", 0, 2, false},
		{"3:", 2, 2, true},
		{"1:", 0, 0, true},
		// A bar twice holds no more than once.
		{"3: 0-1 0-1 1-2", 0, 2, false},
		{"3: 0-1 0-1 1-2", 0, 1, true},
	} {
		g, ok := impl.ParseGraph(c.text)
		if got := impl.IsImplied(g, c.a, c.b); !ok || got != c.want {
			t.Errorf("IsImplied of %q with %d and %d = %v", c.text, c.a, c.b, got)
		}
	}
}

// A graph of MaxBars bars takes no other one, but one more would still raise its rank.
func TestIsImpliedOfFullGraphs(t *testing.T) {
	g := manyBars(4, impl.MaxBars)
	if impl.IsImplied(g, 2, 3) || impl.IsImplied(g, 0, 2) || !impl.IsImplied(g, 1, 0) || !impl.IsImplied(g, 3, 3) {
		t.Error("bars between two points only")
	}
	g = fullGraph()
	if len(g.Bars) != impl.MaxBars || !impl.IsGraph(g) {
		t.Fatal("a graph of this test is not valid:", g)
	}
	for v := 1; v <= 6; v++ {
		if impl.IsImplied(g, v, 7) || impl.IsImplied(g, 7, v) || !impl.IsImplied(g, 0, v) {
			t.Error("a point of seven that are rigid, and one that hangs on them:", v)
		}
	}
	if !impl.IsImplied(g, 0, 7) {
		t.Error("the ends of a bar")
	}
}

func TestRigidAndMinimallyRigid(t *testing.T) {
	for _, c := range []struct {
		text           string
		freedom        int
		rigid, minimal bool
	}{
		{"1:", 0, true, true},
		{"2:", 1, false, false},
		{"2: 0-1", 0, true, true},
		{"2: 0-1 0-1", 0, true, false},
		{"3:", 3, false, false},
		{"3: 0-1 0-2", 1, false, false},
		{"3: 0-1 0-2 1-2", 0, true, true},
		// As many bars as a minimally rigid graph has.
		{"3: 0-1 0-1 0-2", 1, false, false},
		{"4: 0-1 0-2 1-2 1-3 2-3", 0, true, true},
		{"4: 0-1 0-2 1-3 2-3", 1, false, false},
		{"4: 0-1 0-2 0-3 1-2 1-3 2-3", 0, true, false},
		{"5: 0-1 0-2 1-2 2-3 2-4 3-4", 1, false, false},
		{"5: 0-1 0-2 0-3 1-2 1-3 2-3 3-4", 1, false, false},
		{"6: 0-1 0-2 0-3 1-2 1-4 2-5 3-4 3-5 4-5", 0, true, true},
		{"6: 0-3 0-4 0-5 1-3 1-4 1-5 2-3 2-4 2-5", 0, true, true},
		{"8:", 13, false, false},
		{"8: 0-4 0-5 0-6 0-7 1-4 1-5 1-6 1-7 2-4 2-5 2-6 2-7 3-4 3-5 3-6 3-7", 0, true, false},
		{"8: 0-1 0-2 0-3 1-2 1-3 2-3 4-5 4-6 4-7 5-6 5-7 6-7", 3, false, false},
	} {
		g, ok := impl.ParseGraph(c.text)
		if n := impl.FreedomOf(g); !ok || n != c.freedom {
			t.Errorf("FreedomOf %q = %d, want %d", c.text, n, c.freedom)
		}
		if impl.IsRigid(g) != c.rigid || impl.IsMinimallyRigid(g) != c.minimal {
			t.Errorf("%q: rigid %v, minimally rigid %v", c.text, impl.IsRigid(g), impl.IsMinimallyRigid(g))
		}
	}
}

func TestComponentsOf(t *testing.T) {
	for _, c := range []struct{ text, want string }{
		{"1:", "none"},
		{"8:", "none"},
		{"2: 0-1", "{0,1}"},
		{"2: 0-1 0-1 0-1", "{0,1}"},
		{"3: 0-1 1-2", "{0,1} {1,2}"},
		{"3: 0-1 0-1 1-2 1-2", "{0,1} {1,2}"},
		{"3: 0-1 0-2 1-2", "{0,1,2}"},
		{"4: 0-1 0-2 1-2 1-3 2-3", "{0,1,2,3}"},
		{"4: 0-1 0-2 0-3 1-2 1-3 2-3", "{0,1,2,3}"},
		{"4: 0-1 0-3 1-2 2-3", "{0,1} {0,3} {1,2} {2,3}"},
		{"4: 0-1 2-3", "{0,1} {2,3}"},
		// Two components with a point in common.
		{"5: 0-1 0-2 1-2 2-3 2-4 3-4", "{0,1,2} {2,3,4}"},
		{"5: 0-1 0-2 0-3 1-2 1-3 2-3 3-4", "{0,1,2,3} {3,4}"},
		{"7: 0-1 0-2 0-3 1-2 1-3 2-3 3-4 3-5 3-6 4-5 4-6 5-6", "{0,1,2,3} {3,4,5,6}"},
		{"5: 0-2 0-4 1-2 1-3 2-3 2-4", "{0,2,4} {1,2,3}"},
		// Three triangles, of which each two have a point in common, are one component.
		{"6: 0-1 0-2 1-2 1-3 1-5 2-4 2-5 3-5 4-5", "{0,1,2,3,4,5}"},
		{"6: 0-1 0-2 1-2 3-4 3-5 4-5", "{0,1,2} {3,4,5}"},
		{"6: 0-1 0-2 1-2 2-3 3-4 3-5 4-5", "{0,1,2} {2,3} {3,4,5}"},
		{"6: 0-1 0-2 1-2 1-3 2-4 3-4 3-5 4-5", "{0,1,2} {1,3} {2,4} {3,4,5}"},
		// Four components in a ring move against each other.
		{"8: 0-1 0-3 0-4 0-7 1-2 1-4 1-5 2-3 2-5 2-6 3-6 3-7", "{0,1,4} {0,3,7} {1,2,5} {2,3,6}"},
		// In the order of the bars, not of the sets.
		{"5: 0-2 0-3 0-4 1-3 1-4 3-4", "{0,2} {0,1,3,4}"},
		{"7: 0-4 0-5 0-6 1-2 1-4 1-5 2-3 3-6 4-5 5-6", "{0,1,4,5,6} {1,2} {2,3} {3,6}"},
	} {
		g, ok := impl.ParseGraph(c.text)
		if got := impl.FormatSets(impl.ComponentsOf(g)); !ok || got != c.want {
			t.Errorf("ComponentsOf %q = %s, want %s", c.text, got, c.want)
		}
	}
	if got := impl.FormatSets(impl.ComponentsOf(fullGraph())); got != "{0,1,2,3,4,5,6} {0,7}" {
		t.Error("ComponentsOf a graph of MaxBars bars:", got)
	}
	if got := impl.FormatSets(impl.ComponentsOf(manyBars(8, impl.MaxBars))); got != "{0,1}" {
		t.Error("ComponentsOf MaxBars equal bars:", got)
	}
}

func TestComponentOfBar(t *testing.T) {
	g, ok := impl.ParseGraph("6: 0-1 0-2 1-2 2-3 2-4 3-4 4-5 4-5")
	want := [][]int{{0, 1, 2}, {0, 1, 2}, {0, 1, 2}, {2, 3, 4}, {2, 3, 4}, {2, 3, 4}, {4, 5}, {4, 5}}
	if !ok || len(g.Bars) != len(want) {
		t.Fatal("a graph of this test is not valid")
	}
	for bar, set := range want {
		if got := impl.ComponentOfBar(g, bar); !slices.Equal(got, set) {
			t.Errorf("ComponentOfBar(%v, %d) = %v, want %v", g, bar, got, set)
		}
	}
	// The point 3 is held by the ends of the bar, though no bar joins it to one of them.
	g, ok = impl.ParseGraph("6: 0-1 0-2 1-2 1-4 1-5 2-4 2-5 3-4 3-5")
	if got := impl.ComponentOfBar(g, 0); !ok || !slices.Equal(got, []int{0, 1, 2, 3, 4, 5}) {
		t.Errorf("ComponentOfBar(%v, 0) = %v", g, got)
	}
}

// checkComponentsByDefinition compares all functions of the chapter with the counts and with the sets that are rigid.
func checkComponentsByDefinition(t *testing.T, g impl.Graph) {
	rank := rankByCount(g, 2, 3, allBars(g))
	freedom := 2*g.Points - 3 - rank
	if g.Points == 1 {
		freedom = 0
	}
	if n := impl.FreedomOf(g); n != freedom {
		t.Fatalf("FreedomOf(%v) = %d, want %d", g, n, freedom)
	}
	if rigid := freedom == 0; impl.IsRigid(g) != rigid || impl.IsMinimallyRigid(g) != (rigid && rank == len(g.Bars)) {
		t.Fatalf("%v: rigid %v, minimally rigid %v", g, impl.IsRigid(g), impl.IsMinimallyRigid(g))
	}
	var implied [impl.MaxPoints][impl.MaxPoints]bool
	for a := range g.Points {
		for b := range g.Points {
			implied[a][b] = impliedByDefinition(g, a, b)
			if impl.IsImplied(g, a, b) != implied[a][b] {
				t.Fatalf("IsImplied(%v, %d, %d) = %v", g, a, b, !implied[a][b])
			}
		}
	}
	for i, bar := range g.Bars {
		var want []int
		for v := range g.Points {
			if implied[bar.A][v] && implied[bar.B][v] {
				want = append(want, v)
			}
		}
		if got := impl.ComponentOfBar(g, i); !slices.Equal(got, want) {
			t.Fatalf("ComponentOfBar(%v, %d) = %v, want %v", g, i, got, want)
		}
	}
	if got, want := impl.ComponentsOf(g), largestRigidSets(g); !sameSets(got, want) {
		t.Fatalf("ComponentsOf(%v) = %v, want %v", g, got, want)
	}
}

func TestComponentsByDefinition(t *testing.T) {
	for _, g := range componentGraphs() {
		if !impl.IsGraph(g) {
			t.Fatal("a graph of this test is not valid:", g)
		}
		checkComponentsByDefinition(t, g)
	}
}

// Each bar has both ends in exactly one component, and two components have at most one point in common.
func TestComponentsDivideTheBars(t *testing.T) {
	for _, g := range componentGraphs() {
		parts := impl.ComponentsOf(g)
		for i, bar := range g.Bars {
			owners := 0
			for _, part := range parts {
				if slices.Contains(part, bar.A) && slices.Contains(part, bar.B) {
					owners++
				}
			}
			if owners != 1 {
				t.Fatalf("the bar %d of %v is in %d of the components %v", i, g, owners, parts)
			}
		}
		for i, part := range parts {
			for _, other := range parts[:i] {
				shared := 0
				for _, v := range part {
					if slices.Contains(other, v) {
						shared++
					}
				}
				if shared > 1 {
					t.Fatalf("components of %v: %v and %v", g, other, part)
				}
			}
		}
	}
}

func TestCountsOfComponentsAddUp(t *testing.T) {
	for _, g := range componentGraphs() {
		parts := impl.ComponentsOf(g)
		sum := 0
		for _, part := range parts {
			sum += 2*len(part) - 3
			if rank := impl.RankOfSet(g, 2, 3, impl.SpannedBars(g, part)); rank != 2*len(part)-3 {
				t.Fatalf("the component %v of %v has the rank %d", part, g, rank)
			}
		}
		if rank := impl.RankOf(g, 2, 3); sum != rank {
			t.Fatalf("the counts of %v of %v add up to %d, but the rank is %d", parts, g, sum, rank)
		}
		whole := len(parts) == 1 && len(parts[0]) == g.Points
		if impl.IsRigid(g) != (whole || g.Points == 1) {
			t.Fatalf("%v: rigid %v with the components %v", g, !whole, parts)
		}
	}
}

func TestFormatSets(t *testing.T) {
	for _, c := range []struct {
		l    [][]int
		want string
	}{
		{nil, "none"},
		{[][]int{}, "none"},
		{[][]int{{}}, "{}"},
		{[][]int{nil}, "{}"},
		{[][]int{nil, {}, nil}, "{} {} {}"},
		{[][]int{{0}}, "{0}"},
		{[][]int{{7, 7, 3}}, "{7,7,3}"},
		{[][]int{{0, 1, 2}, {2, 3, 4}}, "{0,1,2} {2,3,4}"},
		{[][]int{{2}, {}, {1, 0}}, "{2} {} {1,0}"},
		{[][]int{{-1, 10}, {math.MinInt, math.MaxInt}}, "{-1,10} {-9223372036854775808,9223372036854775807}"},
	} {
		if got := impl.FormatSets(c.l); got != c.want {
			t.Errorf("FormatSets(%v) = %q, want %q", c.l, got, c.want)
		}
	}
}

// A graph of one point is rigid without bars, though its rank is not 2 * n - 3.
func TestComponentsOfOnePoint(t *testing.T) {
	g := graphOf(1)
	if !impl.IsRigid(g) || !impl.IsMinimallyRigid(g) || impl.FreedomOf(g) != 0 || !impl.IsImplied(g, 0, 0) {
		t.Error("a graph of one point is not rigid")
	}
	if len(impl.ComponentsOf(g)) != 0 || len(impl.ComponentOfBar(g, 0)) != 0 || impl.IsImplied(g, 0, 1) || impl.IsImplied(g, 1, 1) {
		t.Error("a graph of one point has a component or a second point")
	}
	for _, bad := range []impl.Graph{graphOf(1, 0, 0), graphOf(1, 0, 1), graphOf(1, -1, 0)} {
		if impl.IsRigid(bad) || impl.IsMinimallyRigid(bad) || impl.FreedomOf(bad) != -1 || impl.IsImplied(bad, 0, 0) {
			t.Errorf("%v is taken for a graph", bad)
		}
	}
}

func TestComponentsOfInvalidGraphs(t *testing.T) {
	numbers := []int{math.MinInt, -2, -1, 0, 1, 2, 3, 8, 24, math.MaxInt}
	for _, g := range invalidGraphs() {
		if impl.IsRigid(g) || impl.IsMinimallyRigid(g) || impl.FreedomOf(g) != -1 {
			t.Errorf("%v: rigid %v, minimally rigid %v, freedom %d", g, impl.IsRigid(g), impl.IsMinimallyRigid(g), impl.FreedomOf(g))
		}
		if l := impl.ComponentsOf(g); len(l) != 0 {
			t.Errorf("ComponentsOf(%v) = %v", g, l)
		}
		for _, a := range numbers {
			if l := impl.ComponentOfBar(g, a); len(l) != 0 {
				t.Errorf("ComponentOfBar(%v, %d) = %v", g, a, l)
			}
			for _, b := range numbers {
				if impl.IsImplied(g, a, b) {
					t.Errorf("IsImplied(%v, %d, %d) is true", g, a, b)
				}
			}
		}
	}
}

// The bars of these are valid ones, so that only the number of points is not.
func TestComponentsOfTooManyPoints(t *testing.T) {
	for _, points := range []int{0, -1, 9, 64, 1 << 40, math.MinInt, math.MaxInt} {
		g := graphOf(points, 0, 1, 0, 2, 1, 2)
		if len(impl.ComponentsOf(g)) != 0 || len(impl.ComponentOfBar(g, 0)) != 0 || impl.FreedomOf(g) != -1 || impl.IsRigid(g) || impl.IsMinimallyRigid(g) || impl.IsImplied(g, 0, 1) || impl.IsImplied(g, 0, 0) {
			t.Errorf("a graph of %d points has components", points)
		}
	}
}

func TestNoPointsAndNoBars(t *testing.T) {
	for _, g := range countGraphs() {
		for _, bad := range []int{-1, g.Points, g.Points + 1, 8, 64, math.MinInt, math.MaxInt} {
			if impl.IsImplied(g, bad, bad) || impl.IsImplied(g, 0, bad) || impl.IsImplied(g, bad, 0) {
				t.Errorf("IsImplied(%v) is true for the point %d", g, bad)
			}
		}
		for _, bad := range []int{-1, len(g.Bars), len(g.Bars) + 1, impl.MaxBars, math.MinInt, math.MaxInt} {
			if l := impl.ComponentOfBar(g, bad); len(l) != 0 {
				t.Errorf("ComponentOfBar(%v, %d) = %v", g, bad, l)
			}
		}
	}
}

func TestComponentsAreNotShared(t *testing.T) {
	room := []impl.Bar{{A: 0, B: 1}, {A: 0, B: 2}, {A: 1, B: 2}, {A: 2, B: 3}, {A: 2, B: 4}, {A: 3, B: 4}, {A: 77, B: 78}}
	before := slices.Clone(room)
	g := impl.Graph{Points: 5, Bars: room[:6]}
	for range 2 {
		parts := impl.ComponentsOf(g)
		part := impl.ComponentOfBar(g, 0)
		if impl.FormatSets(parts) != "{0,1,2} {2,3,4}" || !slices.Equal(part, []int{0, 1, 2}) || impl.FreedomOf(g) != 1 || impl.IsRigid(g) || impl.IsMinimallyRigid(g) || !impl.IsImplied(g, 0, 1) {
			t.Error("a call is different:", parts, part)
		}
		// Appending writes into the unused capacity, which no other result may use.
		for i := range parts {
			_ = append(parts[i], -9)
		}
		_ = append(part, -9)
		if impl.FormatSets(parts) != "{0,1,2} {2,3,4}" {
			t.Error("components share memory:", parts)
		}
		parts[0][0], part[0] = -9, -9
	}
	if !slices.Equal(room, before) {
		t.Error("an argument was changed:", room)
	}
	sets := [][]int{{0, 1}, {1, 2}, {3}}
	if got := impl.FormatSets(sets[:2]); got != "{0,1} {1,2}" || !sameSets(sets, [][]int{{0, 1}, {1, 2}, {3}}) {
		t.Error("an argument was changed:", sets, got)
	}
}
