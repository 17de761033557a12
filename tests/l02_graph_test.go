package tests

import (
	"math"
	"slices"
	"strings"
	"testing"

	"loop.example/g02078/impl"
)

// Promise 18, the part on graphs: graphs can be parsed from their string formats.

// graphOf builds a graph from its points and the pairs of ends of its bars, valid or not.
func graphOf(points int, ends ...int) impl.Graph {
	g := impl.Graph{Points: points}
	for i := 0; i+1 < len(ends); i += 2 {
		g.Bars = append(g.Bars, impl.Bar{A: ends[i], B: ends[i+1]})
	}
	return g
}

// sameGraph compares without the functions under test.
func sameGraph(a, b impl.Graph) bool {
	return a.Points == b.Points && slices.Equal(a.Bars, b.Bars)
}

func manyBars(points, n int) impl.Graph {
	g := impl.Graph{Points: points}
	for range n {
		g.Bars = append(g.Bars, impl.Bar{A: 0, B: 1})
	}
	return g
}

func validGraphs() []impl.Graph {
	out := []impl.Graph{
		graphOf(1), graphOf(2), graphOf(8),
		graphOf(2, 0, 1), graphOf(2, 0, 1, 0, 1),
		graphOf(4, 0, 1, 0, 1, 2, 3),
		graphOf(4, 0, 1, 0, 2, 1, 2, 1, 2, 2, 3),
		graphOf(5, 0, 4, 1, 4, 2, 4, 3, 4),
		graphOf(8, 0, 7, 1, 6, 2, 5, 3, 4, 6, 7, 6, 7, 6, 7),
		manyBars(2, impl.MaxBars), manyBars(8, impl.MaxBars),
	}
	for n := 1; n <= 7; n++ {
		out = append(out, impl.CompleteGraph(n))
	}
	return out
}

func invalidGraphs() []impl.Graph {
	return []impl.Graph{
		{}, graphOf(-1), graphOf(0), graphOf(9), graphOf(math.MinInt), graphOf(math.MaxInt),
		graphOf(0, 0, 1), graphOf(9, 0, 1), graphOf(-3, -2, -1), graphOf(1, 0, 1),
		graphOf(2, 1, 0), graphOf(2, 1, 1), graphOf(2, 0, 0), graphOf(2, 0, 2), graphOf(2, -1, 1), graphOf(3, -2, -1),
		graphOf(3, 1, 2, 0, 1), graphOf(3, 0, 2, 0, 1), graphOf(3, 0, 1, 1, 2, 0, 2), graphOf(4, 0, 1, 0, 1, 2, 3, 0, 1),
		graphOf(4, 0, 1, 2, 4), graphOf(4, 0, 1, 3, 2), graphOf(2, math.MinInt, math.MaxInt), graphOf(8, 0, math.MaxInt),
		manyBars(2, impl.MaxBars+1), manyBars(8, 1000),
	}
}

// smallGraphs returns all valid graphs of up to four points whose bars occur at most twice each.
func smallGraphs() []impl.Graph {
	var out []impl.Graph
	for points := 1; points <= 4; points++ {
		pairs := []impl.Bar{}
		for a := range points {
			for b := a + 1; b < points; b++ {
				pairs = append(pairs, impl.Bar{A: a, B: b})
			}
		}
		total := 1
		for range pairs {
			total *= 3
		}
		for code := range total {
			g := impl.Graph{Points: points}
			for _, p := range pairs {
				for range code % 3 {
					g.Bars = append(g.Bars, p)
				}
				code /= 3
			}
			out = append(out, g)
		}
	}
	return out
}

func TestGraphLimits(t *testing.T) {
	if impl.MaxPoints != 8 || impl.MaxBars != 24 {
		t.Error("limits", impl.MaxPoints, impl.MaxBars)
	}
}

func TestIsGraph(t *testing.T) {
	for _, g := range append(validGraphs(), smallGraphs()...) {
		if !impl.IsGraph(g) {
			t.Errorf("IsGraph(%v) is false", g)
		}
	}
	for _, g := range invalidGraphs() {
		if impl.IsGraph(g) {
			t.Errorf("IsGraph(%v) is true", g)
		}
	}
}

func TestCompleteGraph(t *testing.T) {
	for n, want := range map[int]impl.Graph{
		1: graphOf(1),
		2: graphOf(2, 0, 1),
		3: graphOf(3, 0, 1, 0, 2, 1, 2),
		4: graphOf(4, 0, 1, 0, 2, 0, 3, 1, 2, 1, 3, 2, 3),
	} {
		if g := impl.CompleteGraph(n); !sameGraph(g, want) {
			t.Errorf("CompleteGraph(%d) = %v", n, g)
		}
	}
	for n := 1; n <= 7; n++ {
		g := impl.CompleteGraph(n)
		if g.Points != n || len(g.Bars) != n*(n-1)/2 || !impl.IsGraph(g) {
			t.Errorf("CompleteGraph(%d) = %v", n, g)
		}
		if len(slices.Compact(slices.Clone(g.Bars))) != len(g.Bars) {
			t.Errorf("CompleteGraph(%d) has a bar twice: %v", n, g)
		}
	}
	for _, n := range []int{math.MinInt, -1, 0, 8, 9, math.MaxInt} {
		if g := impl.CompleteGraph(n); !sameGraph(g, impl.Graph{}) {
			t.Errorf("CompleteGraph(%d) = %v, want the zero value", n, g)
		}
	}
}

func TestCountBar(t *testing.T) {
	for _, c := range []struct {
		g          impl.Graph
		a, b, want int
	}{
		{graphOf(4, 0, 1, 0, 1, 2, 3), 0, 1, 2},
		{graphOf(4, 0, 1, 0, 1, 2, 3), 1, 0, 2},
		{graphOf(4, 0, 1, 0, 1, 2, 3), 3, 2, 1},
		{graphOf(4, 0, 1, 0, 1, 2, 3), 0, 2, 0},
		{graphOf(4, 0, 1, 0, 1, 2, 3), 0, 0, 0},
		{graphOf(4, 0, 1, 0, 1, 2, 3), 1, 1, 0},
		{graphOf(4, 0, 1, 0, 1, 2, 3), 0, 4, 0},
		{graphOf(4, 0, 1, 0, 1, 2, 3), -1, math.MaxInt, 0},
		{manyBars(2, impl.MaxBars), 0, 1, impl.MaxBars},
		{graphOf(1), 0, 0, 0},
		{impl.Graph{}, 0, 1, 0},
		{manyBars(9, 30), 1, 0, 30},
		{graphOf(-1, 5, 9, 2, 3, 5, 9), 5, 9, 2},
		{graphOf(-1, 5, 9, 2, 3, 5, 9), 9, 5, 2},
		{graphOf(2, 0, 1, 1, 0), 0, 1, 2},
	} {
		if n := impl.CountBar(c.g, c.a, c.b); n != c.want {
			t.Errorf("CountBar(%v, %d, %d) = %d, want %d", c.g, c.a, c.b, n, c.want)
		}
	}
}

func TestDegreeOf(t *testing.T) {
	for _, c := range []struct {
		g       impl.Graph
		v, want int
	}{
		{graphOf(4, 0, 1, 0, 1, 2, 3), 0, 2},
		{graphOf(4, 0, 1, 0, 1, 2, 3), 1, 2},
		{graphOf(4, 0, 1, 0, 1, 2, 3), 3, 1},
		{graphOf(4, 0, 1, 0, 2, 1, 2, 1, 2, 2, 3), 2, 4},
		{graphOf(4, 0, 1, 0, 1, 2, 3), 4, 0},
		{graphOf(4, 0, 1, 0, 1, 2, 3), -1, 0},
		{graphOf(3, 0, 1), 2, 0},
		{manyBars(2, impl.MaxBars), 1, impl.MaxBars},
		{impl.Graph{}, 0, 0},
		{manyBars(0, 30), 0, 30},
		{graphOf(9, 8, 7, 7, 3, 0, 7, -5, 2), 7, 3},
		{graphOf(9, 8, 7, 7, 3, 0, 7, -5, 2), -5, 1},
	} {
		if n := impl.DegreeOf(c.g, c.v); n != c.want {
			t.Errorf("DegreeOf(%v, %d) = %d, want %d", c.g, c.v, n, c.want)
		}
	}
}

// Each bar has two ends and is counted at both; bars between the same points count each.
func TestDegreesAddUp(t *testing.T) {
	for _, g := range append(validGraphs(), smallGraphs()...) {
		ends := 0
		for v := range g.Points {
			pairs := 0
			for w := range g.Points {
				if impl.CountBar(g, v, w) != impl.CountBar(g, w, v) {
					t.Fatalf("CountBar(%v, %d, %d) depends on the order of the ends", g, v, w)
				}
				pairs += impl.CountBar(g, v, w)
			}
			if impl.DegreeOf(g, v) != pairs {
				t.Fatalf("DegreeOf(%v, %d) = %d, want %d", g, v, impl.DegreeOf(g, v), pairs)
			}
			ends += pairs
		}
		if ends != 2*len(g.Bars) {
			t.Fatalf("the degrees of %v make %d", g, ends)
		}
	}
}

func TestAddBar(t *testing.T) {
	for _, c := range []struct {
		g    impl.Graph
		a, b int
		want impl.Graph
	}{
		{graphOf(2), 0, 1, graphOf(2, 0, 1)},
		{graphOf(2), 1, 0, graphOf(2, 0, 1)},
		{graphOf(2, 0, 1), 0, 1, graphOf(2, 0, 1, 0, 1)},
		{graphOf(4, 0, 1, 0, 1, 2, 3), 2, 1, graphOf(4, 0, 1, 0, 1, 1, 2, 2, 3)},
		{graphOf(4, 0, 2, 1, 2), 0, 1, graphOf(4, 0, 1, 0, 2, 1, 2)},
		{graphOf(4, 0, 2, 1, 2), 3, 0, graphOf(4, 0, 2, 0, 3, 1, 2)},
		{graphOf(4, 0, 2, 1, 2), 2, 3, graphOf(4, 0, 2, 1, 2, 2, 3)},
		{graphOf(8, 0, 1), 7, 6, graphOf(8, 0, 1, 6, 7)},
		{manyBars(2, impl.MaxBars-1), 1, 0, manyBars(2, impl.MaxBars)},
	} {
		if g, ok := impl.AddBar(c.g, c.a, c.b); !ok || !sameGraph(g, c.want) {
			t.Errorf("AddBar(%v, %d, %d) = %v, %v, want %v", c.g, c.a, c.b, g, ok, c.want)
		}
	}
}

// checkAddBar checks that the new graph is valid and differs by one bar between the two points.
func checkAddBar(t *testing.T, g impl.Graph, a, b int) {
	x, ok := impl.AddBar(g, a, b)
	if !ok || x.Points != g.Points || !impl.IsGraph(x) {
		t.Fatalf("AddBar(%v, %d, %d) = %v, %v", g, a, b, x, ok)
	}
	for v := range g.Points {
		for w := range v {
			want := impl.CountBar(g, v, w)
			if v == max(a, b) && w == min(a, b) {
				want++
			}
			if impl.CountBar(x, v, w) != want {
				t.Fatalf("AddBar(%v, %d, %d) = %v", g, a, b, x)
			}
		}
	}
}

func TestAddBarBetweenAllPoints(t *testing.T) {
	for _, g := range smallGraphs() {
		for a := range g.Points {
			for b := range g.Points {
				if a != b {
					checkAddBar(t, g, a, b)
				}
			}
		}
	}
}

func TestAddBarInvalid(t *testing.T) {
	g := graphOf(4, 0, 1, 0, 1, 2, 3)
	for _, c := range [][2]int{{0, 0}, {3, 3}, {-1, 0}, {0, -1}, {4, 0}, {0, 4}, {4, 5}, {-1, -2}, {4, 4}, {math.MinInt, math.MaxInt}} {
		if x, ok := impl.AddBar(g, c[0], c[1]); ok || !sameGraph(x, g) {
			t.Errorf("AddBar(%v, %d, %d) = %v, %v, want it unchanged and false", g, c[0], c[1], x, ok)
		}
	}
	for _, g := range append(invalidGraphs(), manyBars(2, impl.MaxBars), manyBars(8, impl.MaxBars)) {
		if x, ok := impl.AddBar(g, 0, 1); ok || !sameGraph(x, g) {
			t.Errorf("AddBar(%v, 0, 1) = %v, %v, want it unchanged and false", g, x, ok)
		}
	}
}

func TestRemoveBar(t *testing.T) {
	g := graphOf(4, 0, 1, 0, 1, 1, 2, 2, 3)
	for k, want := range []impl.Graph{
		graphOf(4, 0, 1, 1, 2, 2, 3), graphOf(4, 0, 1, 1, 2, 2, 3), graphOf(4, 0, 1, 0, 1, 2, 3), graphOf(4, 0, 1, 0, 1, 1, 2),
	} {
		if x, ok := impl.RemoveBar(g, k); !ok || !sameGraph(x, want) {
			t.Errorf("RemoveBar(%v, %d) = %v, %v, want %v", g, k, x, ok, want)
		}
	}
	if x, ok := impl.RemoveBar(graphOf(2, 0, 1), 0); !ok || !sameGraph(x, graphOf(2)) {
		t.Error("the last bar", x, ok)
	}
	if x, ok := impl.RemoveBar(manyBars(3, impl.MaxBars), impl.MaxBars-1); !ok || !sameGraph(x, manyBars(3, impl.MaxBars-1)) {
		t.Error("the bar with the index MaxBars - 1", x, ok)
	}
}

func TestRemoveBarInvalid(t *testing.T) {
	for _, g := range validGraphs() {
		for _, k := range []int{math.MinInt, -1, len(g.Bars), len(g.Bars) + 1, math.MaxInt} {
			if x, ok := impl.RemoveBar(g, k); ok || !sameGraph(x, g) {
				t.Errorf("RemoveBar(%v, %d) = %v, %v, want it unchanged and false", g, k, x, ok)
			}
		}
	}
	for _, g := range invalidGraphs() {
		if x, ok := impl.RemoveBar(g, 0); ok || !sameGraph(x, g) {
			t.Errorf("RemoveBar(%v, 0) = %v, %v, want it unchanged and false", g, x, ok)
		}
	}
}

func TestReachOf(t *testing.T) {
	for _, c := range []struct {
		g    impl.Graph
		v    int
		want []int
	}{
		{graphOf(1), 0, []int{0}},
		{graphOf(3), 1, []int{1}},
		{graphOf(4, 0, 1, 0, 1, 2, 3), 0, []int{0, 1}},
		{graphOf(4, 0, 1, 0, 1, 2, 3), 1, []int{0, 1}},
		{graphOf(4, 0, 1, 0, 1, 2, 3), 3, []int{2, 3}},
		{graphOf(5, 0, 4, 1, 4, 2, 4), 3, []int{3}},
		{graphOf(5, 0, 4, 1, 4, 2, 4), 2, []int{0, 1, 2, 4}},
		// Ways through all points, against the order of the bars.
		{graphOf(8, 0, 1, 1, 2, 2, 3, 3, 4, 4, 5, 5, 6, 6, 7), 7, []int{0, 1, 2, 3, 4, 5, 6, 7}},
		{graphOf(8, 0, 1, 1, 2, 2, 3, 3, 4, 4, 5, 5, 6, 6, 7), 0, []int{0, 1, 2, 3, 4, 5, 6, 7}},
		{graphOf(8, 0, 4, 0, 7, 1, 5, 1, 7, 2, 5, 3, 4, 3, 6), 2, []int{0, 1, 2, 3, 4, 5, 6, 7}},
		{graphOf(8, 0, 4, 0, 7, 1, 5, 1, 7, 2, 5, 3, 4, 3, 6), 6, []int{0, 1, 2, 3, 4, 5, 6, 7}},
		{graphOf(4, 0, 1, 0, 1, 2, 3), 4, nil},
		{graphOf(4, 0, 1, 0, 1, 2, 3), -1, nil},
		{graphOf(4, 0, 1, 0, 1, 2, 3), math.MaxInt, nil},
		{graphOf(4, 0, 1, 0, 1, 2, 3), math.MinInt, nil},
	} {
		if got := impl.ReachOf(c.g, c.v); !slices.Equal(got, c.want) {
			t.Errorf("ReachOf(%v, %d) = %v, want %v", c.g, c.v, got, c.want)
		}
	}
	for _, g := range invalidGraphs() {
		for _, v := range []int{-1, 0, 1, 8} {
			if got := impl.ReachOf(g, v); len(got) != 0 {
				t.Errorf("ReachOf(%v, %d) = %v, want nothing", g, v, got)
			}
		}
	}
}

// closeRelation returns which points of a valid graph are joined by a way, from the definition of a transitive relation.
func closeRelation(g impl.Graph) [impl.MaxPoints][impl.MaxPoints]bool {
	var joined [impl.MaxPoints][impl.MaxPoints]bool
	for v := range g.Points {
		joined[v][v] = true
	}
	for _, b := range g.Bars {
		joined[b.A][b.B], joined[b.B][b.A] = true, true
	}
	for m := range g.Points {
		for v := range g.Points {
			for w := range g.Points {
				joined[v][w] = joined[v][w] || joined[v][m] && joined[m][w]
			}
		}
	}
	return joined
}

func TestReachAndConnection(t *testing.T) {
	for _, g := range append(validGraphs(), smallGraphs()...) {
		joined := closeRelation(g)
		for v := range g.Points {
			var want []int
			for w := range g.Points {
				if joined[v][w] {
					want = append(want, w)
				}
			}
			if got := impl.ReachOf(g, v); !slices.Equal(got, want) {
				t.Fatalf("ReachOf(%v, %d) = %v, want %v", g, v, got, want)
			}
			if impl.IsConnected(g) != (len(impl.ReachOf(g, 0)) == g.Points) {
				t.Fatalf("IsConnected(%v) = %v", g, impl.IsConnected(g))
			}
		}
	}
}

func TestIsConnected(t *testing.T) {
	for s, want := range map[string]bool{
		"1:": true, "2:": false, "2: 0-1": true, "2: 0-1 0-1": true, "3: 0-1 0-1": false, "3: 1-2": false, "3: 0-2 1-2": true,
		"4: 0-1 0-1 2-3": false, "4: 0-1 0-1 1-2 2-3": true,
		"8: 0-1 0-2 0-3 0-4 0-5 0-6": false, "8: 0-7 1-7 2-7 3-7 4-7 5-7 6-7": true,
	} {
		g, ok := impl.ParseGraph(s)
		if !ok || impl.IsConnected(g) != want {
			t.Errorf("IsConnected of %q is %v", s, impl.IsConnected(g))
		}
	}
	for _, g := range append(invalidGraphs(), graphOf(3, 1, 2, 0, 1), graphOf(2, 1, 0)) {
		if impl.IsConnected(g) {
			t.Errorf("IsConnected(%v) is true", g)
		}
	}
}

func TestOnlyBars(t *testing.T) {
	g := graphOf(4, 0, 1, 0, 1, 1, 2, 2, 3)
	for _, c := range []struct {
		g    impl.Graph
		keep []int
		want impl.Graph
	}{
		{g, nil, graphOf(4)},
		{g, []int{}, graphOf(4)},
		{g, []int{0, 1, 2, 3}, g},
		{g, []int{1}, graphOf(4, 0, 1)},
		{g, []int{0, 1}, graphOf(4, 0, 1, 0, 1)},
		{g, []int{3, 0}, graphOf(4, 0, 1, 2, 3)},
		{g, []int{2, 2, 2}, graphOf(4, 1, 2)},
		{g, []int{-1, 4, math.MinInt, math.MaxInt}, graphOf(4)},
		{g, []int{9, 3, -3, 2}, graphOf(4, 1, 2, 2, 3)},
		{impl.Graph{}, []int{0}, impl.Graph{}},
		{graphOf(-7, 9, 3, 1, 1, 0, -5), []int{2, 0}, graphOf(-7, 9, 3, 0, -5)},
		{manyBars(99, 1000), []int{999, 1000, 0, 500}, manyBars(99, 3)},
	} {
		if got := impl.OnlyBars(c.g, c.keep); !sameGraph(got, c.want) {
			t.Errorf("OnlyBars(%v, %v) = %v, want %v", c.g, c.keep, got, c.want)
		}
	}
}

func TestFormatGraph(t *testing.T) {
	for _, c := range []struct {
		g    impl.Graph
		want string
	}{
		{graphOf(1), "1:"},
		{graphOf(8), "8:"},
		{graphOf(2, 0, 1), "2: 0-1"},
		{graphOf(2, 0, 1, 0, 1), "2: 0-1 0-1"},
		{graphOf(4, 0, 1, 0, 1, 2, 3), "4: 0-1 0-1 2-3"},
		{graphOf(8, 0, 7, 6, 7), "8: 0-7 6-7"},
		{manyBars(8, impl.MaxBars), "8:" + strings.Repeat(" 0-1", impl.MaxBars)},
	} {
		if got := impl.FormatGraph(c.g); got != c.want {
			t.Errorf("FormatGraph(%v) = %q, want %q", c.g, got, c.want)
		}
	}
	for _, g := range invalidGraphs() {
		if got := impl.FormatGraph(g); got != "" {
			t.Errorf("FormatGraph(%v) = %q, want nothing", g, got)
		}
	}
}

func TestGraphsComeBack(t *testing.T) {
	seen := map[string]bool{}
	for _, g := range smallGraphs() {
		seen[impl.FormatGraph(g)] = true
	}
	if len(seen) != len(smallGraphs()) {
		t.Error("two graphs have the same format")
	}
	for _, g := range append(validGraphs(), smallGraphs()...) {
		s := impl.FormatGraph(g)
		if got, ok := impl.ParseGraph(s); !ok || !sameGraph(got, g) {
			t.Fatalf("ParseGraph(%q) = %v, %v, want %v", s, got, ok, g)
		}
	}
}

func TestParseGraphInvalid(t *testing.T) {
	for _, s := range []string{
		"", ":", " ", "3", "-", "none", "3;", "3; 0-1", "3 : 0-1", " 3:", "3: ", "3:\n", "3:0-1", "3:  0-1", "3: 0-1 ", "3: 0-1  1-2", "\xff",
		"0:", "9:", "10:", "-1:", "02:", "+2:", "2.:", "a:", "3::", "3:: 0-1", "3: 0-1:", "99999999999999999999:", "8\x00:",
		"2: 1-0", "2: 0-0", "2: 0-2", "1: 0-1", "3: -1-1", "3: 0--1", "3: 0-1-1", "3: 0-1-", "3: 0", "3: 0-", "3: -1", "3: -", "3: 01", "3: 0,1",
		"3: 00-1", "3: 0-01", "3: +0-1", "3: -0-1", "3: 0-1a", "3: a-1", "3: 0-1,1-2", "3:\t0-1", "3: 0-1\n1-2", "3: 0-1\x001-2", "3: 0- 1", "3: 0 -1",
		"3: 1-2 0-1", "3: 0-2 0-1", "3: 0-1 1-2 0-1", "3: \u06600-1", "3:\u00a00-1", "3: 0\u20101", "2: 0-1\xff", "2\uff1a 0-1",
		"2:" + strings.Repeat(" 0-1", impl.MaxBars+1), "8: 0-8", "8: 0-10", "3: 0-1 2", "3: 0-1 2-", "3: 0-1 1-3",
		strings.Repeat("2: 0-1", 1000), "2:" + strings.Repeat(" ", 1000),
	} {
		if g, ok := impl.ParseGraph(s); ok || !sameGraph(g, impl.Graph{}) {
			t.Errorf("ParseGraph(%q) = %v, %v, want the zero value and false", s, g, ok)
		}
	}
}

// Among all strings of up to six of these bytes, exactly the formats are accepted.
func TestParseGraphShortStrings(t *testing.T) {
	formats := map[string]impl.Graph{}
	for _, g := range append(smallGraphs(), graphOf(9)) {
		if s := impl.FormatGraph(g); s != "" {
			formats[s] = g
		}
	}
	const bytes = "012:- "
	var check func(s string)
	check = func(s string) {
		want, wantOk := formats[s]
		if g, ok := impl.ParseGraph(s); ok != wantOk || !sameGraph(g, want) {
			t.Errorf("ParseGraph(%q) = %v, %v, want %v, %v", s, g, ok, want, wantOk)
		}
		if len(s) < 6 {
			for i := range len(bytes) {
				check(s + bytes[i:i+1])
			}
		}
	}
	check("")
}

// A format with one byte changed, added or left out is accepted only if it is a format again.
func TestParseGraphChangedFormats(t *testing.T) {
	check := func(s string) {
		if g, ok := impl.ParseGraph(s); ok != impl.IsGraph(g) || ok && impl.FormatGraph(g) != s || !ok && !sameGraph(g, impl.Graph{}) {
			t.Errorf("ParseGraph(%q) = %v, %v", s, g, ok)
		}
	}
	for _, g := range validGraphs() {
		s := impl.FormatGraph(g)
		for i := range len(s) {
			check(s[:i] + s[i+1:])
			for b := range 256 {
				check(s[:i] + string([]byte{byte(b)}) + s[i+1:])
				check(s[:i] + string([]byte{byte(b)}) + s[i:])
			}
		}
	}
}

func TestEqualGraphs(t *testing.T) {
	all := append(validGraphs()[:9], invalidGraphs()...)
	all = append(all, graphOf(3, 0, 1, 0, 2), graphOf(4, 0, 1), graphOf(2, 0, 1, 0, 1, 0, 1))
	for _, a := range all {
		for _, b := range all {
			if impl.EqualGraphs(a, b) != sameGraph(a, b) {
				t.Errorf("EqualGraphs(%v, %v) = %v", a, b, impl.EqualGraphs(a, b))
			}
		}
	}
	if !impl.EqualGraphs(impl.Graph{Points: 3}, impl.Graph{Points: 3, Bars: []impl.Bar{}}) {
		t.Error("no bars, nil and empty")
	}
	if impl.EqualGraphs(graphOf(2), graphOf(3)) || impl.EqualGraphs(graphOf(2, 0, 1), graphOf(2, 0, 1, 0, 1)) || impl.EqualGraphs(graphOf(3, 0, 1), graphOf(3, 0, 2)) || impl.EqualGraphs(graphOf(3, 0, 2), graphOf(3, 1, 2)) {
		t.Error("different graphs are equal")
	}
}

// changeSharedBars gives each function a list with room behind it and reports whether it was written to or is shared with the result.
func changeSharedBars(g impl.Graph, f func(impl.Graph) impl.Graph) bool {
	mark := impl.Bar{A: 77, B: 78}
	room := make([]impl.Bar, len(g.Bars)+4)
	for i := range room {
		room[i] = mark
	}
	copy(room, g.Bars)
	out := f(impl.Graph{Points: g.Points, Bars: room[:len(g.Bars)]})
	before := slices.Clone(room)
	for i := range out.Bars {
		out.Bars[i] = impl.Bar{A: -9, B: -9}
	}
	for range 4 {
		out.Bars = append(out.Bars, impl.Bar{A: -9, B: -9})
	}
	want := append(slices.Clone(g.Bars), mark, mark, mark, mark)
	return !slices.Equal(room, before) || !slices.Equal(room, want)
}

func TestGraphsAreNotShared(t *testing.T) {
	for name, f := range map[string]func(impl.Graph) impl.Graph{
		"AddBar":            func(g impl.Graph) impl.Graph { x, _ := impl.AddBar(g, 0, 1); return x },
		"AddBar behind":     func(g impl.Graph) impl.Graph { x, _ := impl.AddBar(g, g.Points-2, g.Points-1); return x },
		"AddBar refused":    func(g impl.Graph) impl.Graph { x, _ := impl.AddBar(g, 0, 0); return x },
		"RemoveBar":         func(g impl.Graph) impl.Graph { x, _ := impl.RemoveBar(g, 0); return x },
		"RemoveBar behind":  func(g impl.Graph) impl.Graph { x, _ := impl.RemoveBar(g, len(g.Bars)-1); return x },
		"RemoveBar refused": func(g impl.Graph) impl.Graph { x, _ := impl.RemoveBar(g, -1); return x },
		"OnlyBars":          func(g impl.Graph) impl.Graph { return impl.OnlyBars(g, []int{0, 1, 2, 3, 4}) },
	} {
		for _, g := range append(validGraphs(), invalidGraphs()...) {
			if changeSharedBars(g, f) {
				t.Errorf("%s changes or shares the bars of %v", name, g)
			}
		}
	}
}

func TestOnlyBarsLeavesTheList(t *testing.T) {
	room := []int{3, 1, 1, 55}
	impl.OnlyBars(graphOf(4, 0, 1, 0, 1, 1, 2, 2, 3), room[:3])
	if !slices.Equal(room, []int{3, 1, 1, 55}) {
		t.Error("the list of bars was changed:", room)
	}
}
