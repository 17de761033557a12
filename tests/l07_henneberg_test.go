package tests

import (
	"math"
	"math/bits"
	"slices"
	"testing"

	"loop.example/g02078/impl"
)

// Promise 4, the part on steps: steps build exactly the minimally rigid graphs, and are found for each of them with a bar.

func stepBar(a, b int) impl.Step {
	return impl.Step{Kind: impl.StepBar, A: a, B: b}
}

func stepTwo(v, a, b int) impl.Step {
	return impl.Step{Kind: impl.StepTwo, Point: v, A: a, B: b}
}

func stepThree(v, a, b, c int) impl.Step {
	return impl.Step{Kind: impl.StepThree, Point: v, A: a, B: b, C: c}
}

// isMinimalByCount counts the bars of all points and of each set of them.
func isMinimalByCount(g impl.Graph) bool {
	for code := range 1 << g.Points {
		spanned := len(spannedByCode(g, code))
		if spanned > 0 && spanned > 2*bits.OnesCount(uint(code))-3 {
			return false
		}
	}
	return len(g.Bars) == max(2*g.Points-3, 0)
}

// minimalGraphs returns all minimally rigid graphs of so many points, each of which has at least so many bars.
func minimalGraphs(points, degree int) []impl.Graph {
	all := impl.CompleteGraph(points)
	var out []impl.Graph
	for code := range 1 << len(all.Bars) {
		if bits.OnesCount(uint(code)) != max(2*points-3, 0) {
			continue
		}
		g := impl.Graph{Points: points}
		var degrees [impl.MaxPoints]int
		for _, bar := range barsOfCode(code, len(all.Bars)) {
			b := all.Bars[bar]
			g.Bars = append(g.Bars, b)
			degrees[b.A]++
			degrees[b.B]++
		}
		if slices.Min(degrees[:points]) >= degree && isMinimalByCount(g) {
			out = append(out, g)
		}
	}
	return out
}

// stepGraphs are the minimally rigid graphs with bars of up to six points, and those of seven points none of which has two bars only.
func stepGraphs() []impl.Graph {
	var out []impl.Graph
	for points := 2; points <= 6; points++ {
		out = append(out, minimalGraphs(points, 1)...)
	}
	out = append(out, minimalGraphs(7, 3)...)
	return append(out,
		graphOf(8, 0, 1, 0, 2, 0, 5, 1, 3, 1, 4, 2, 3, 2, 4, 3, 4, 3, 6, 4, 7, 5, 6, 5, 7, 6, 7),
		graphOf(8, 0, 1, 0, 2, 0, 7, 1, 2, 1, 3, 2, 3, 3, 4, 3, 5, 3, 6, 4, 5, 4, 6, 4, 7, 5, 7),
		graphOf(8, 0, 1, 0, 2, 0, 3, 0, 4, 0, 5, 0, 6, 0, 7, 1, 2, 2, 3, 3, 4, 4, 5, 5, 6, 6, 7),
	)
}

// threeBarGraphs returns all graphs each of whose points has three bars and that are minimally rigid.
func threeBarGraphs() []impl.Graph {
	return minimalGraphs(6, 3)
}

// applyByDefinition follows the text of the chapter for a valid graph.
func applyByDefinition(g impl.Graph, s impl.Step) (impl.Graph, bool) {
	named := map[int][]int{impl.StepBar: {s.A, s.B}, impl.StepTwo: {s.Point, s.A, s.B}, impl.StepThree: {s.Point, s.A, s.B, s.C}}[s.Kind]
	unused := map[int][]int{impl.StepBar: {s.Point, s.C}, impl.StepTwo: {s.C}}[s.Kind]
	if named == nil || len(g.Bars) > impl.MaxBars-3 || slices.ContainsFunc(unused, func(n int) bool { return n != 0 }) {
		return g, false
	}
	for i, v := range named {
		if v < 0 || v >= g.Points || slices.Contains(named[:i], v) {
			return g, false
		}
	}
	bars := slices.Clone(g.Bars)
	if s.Kind == impl.StepBar {
		return impl.Graph{Points: g.Points, Bars: []impl.Bar{{A: min(s.A, s.B), B: max(s.A, s.B)}}}, len(bars) == 0
	}
	if s.Kind == impl.StepThree {
		k := slices.Index(bars, impl.Bar{A: min(s.A, s.B), B: max(s.A, s.B)})
		if k < 0 {
			return g, false
		}
		bars = slices.Delete(bars, k, k+1)
	}
	for i, v := range named {
		has := slices.ContainsFunc(g.Bars, func(b impl.Bar) bool { return b.A == v || b.B == v })
		if has != (i > 0) {
			return g, false
		}
		if i > 0 {
			bars = append(bars, impl.Bar{A: min(s.Point, v), B: max(s.Point, v)})
		}
	}
	slices.SortFunc(bars, func(x, y impl.Bar) int { return (x.A-y.A)*impl.MaxPoints + x.B - y.B })
	return impl.Graph{Points: g.Points, Bars: bars}, true
}

// lastStepByDefinition returns the step that is taken back, and the bars that are then left.
func lastStepByDefinition(points int, bars []impl.Bar) (impl.Step, []impl.Bar) {
	for _, degree := range []int{2, 3} {
		for v := range points {
			var near []int
			var left []impl.Bar
			for _, b := range bars {
				if b.A == v || b.B == v {
					near = append(near, b.A+b.B-v)
				} else {
					left = append(left, b)
				}
			}
			slices.Sort(near)
			if len(near) != degree {
				continue
			}
			if degree == 2 {
				return stepTwo(v, near[0], near[1]), left
			}
			for _, pair := range [][3]int{{0, 1, 2}, {1, 2, 0}, {0, 2, 1}} {
				s := stepThree(v, near[pair[0]], near[pair[1]], near[pair[2]])
				more := impl.Graph{Points: points, Bars: append(slices.Clone(left), impl.Bar{A: s.A, B: s.B})}
				if rankByCount(more, 2, 3, allBars(more)) == len(more.Bars) {
					return s, more.Bars
				}
			}
		}
	}
	panic("no step can be taken back")
}

// stepsByDefinition expects a minimally rigid graph with a bar.
func stepsByDefinition(g impl.Graph) []impl.Step {
	bars := g.Bars
	var out []impl.Step
	for len(bars) > 1 {
		s, left := lastStepByDefinition(g.Points, bars)
		out = append(out, s)
		bars = left
	}
	out = append(out, stepBar(bars[0].A, bars[0].B))
	slices.Reverse(out)
	return out
}

func TestKindsOfSteps(t *testing.T) {
	if impl.StepBar != 0 || impl.StepTwo != 1 || impl.StepThree != 2 {
		t.Error("the kinds are", impl.StepBar, impl.StepTwo, impl.StepThree)
	}
}

func TestApplyStep(t *testing.T) {
	for _, c := range []struct {
		text string
		s    impl.Step
		want string
	}{
		{"2:", stepBar(0, 1), "2: 0-1"},
		{"3:", stepBar(2, 0), "3: 0-2"},
		{"8:", stepBar(6, 7), "8: 6-7"},
		{"3: 0-2", stepTwo(1, 0, 2), "3: 0-1 0-2 1-2"},
		{"3: 0-2", stepTwo(1, 2, 0), "3: 0-1 0-2 1-2"},
		{"3: 1-2", stepTwo(0, 1, 2), "3: 0-1 0-2 1-2"},
		// The two points need not be joined.
		{"5: 0-1 2-3", stepTwo(4, 0, 3), "5: 0-1 0-4 2-3 3-4"},
		{"8: 0-1 0-1", stepTwo(7, 1, 0), "8: 0-1 0-1 0-7 1-7"},
		{"4: 0-1 0-2 1-2", stepThree(3, 0, 1, 2), "4: 0-2 0-3 1-2 1-3 2-3"},
		{"4: 0-1 0-2 1-2", stepThree(3, 2, 1, 0), "4: 0-1 0-2 0-3 1-3 2-3"},
		{"4: 1-2 1-3 2-3", stepThree(0, 3, 1, 2), "4: 0-1 0-2 0-3 1-2 2-3"},
		{"6: 1-2 3-4", stepThree(0, 1, 2, 4), "6: 0-1 0-2 0-4 3-4"},
		// One of several bars between the two points is taken away.
		{"4: 0-1 0-1 1-2", stepThree(3, 1, 0, 2), "4: 0-1 0-3 1-2 1-3 2-3"},
		{"4: 0-1 0-1 0-1 1-2 1-2", stepThree(3, 0, 1, 2), "4: 0-1 0-1 0-3 1-2 1-2 1-3 2-3"},
		// The graph need not be sparse.
		{"5: 0-1 0-2 0-3 1-2 1-3 2-3", stepThree(4, 0, 3, 1), "5: 0-1 0-2 0-4 1-2 1-3 1-4 2-3 3-4"},
	} {
		g, valid := impl.ParseGraph(c.text)
		if got, ok := impl.ApplyStep(g, c.s); !valid || !ok || impl.FormatGraph(got) != c.want {
			t.Errorf("ApplyStep(%q, %v) = %v, %v, want %q", c.text, c.s, got, ok, c.want)
		}
	}
}

// noSteps returns a step of each kind with something wrong for the graph, and steps of other kinds.
func noSteps() map[string][]impl.Step {
	return map[string][]impl.Step{
		// The first bar.
		"4:": {
			stepBar(0, 0), stepBar(3, 3), stepBar(-1, 0), stepBar(0, -1), stepBar(0, 4), stepBar(4, 0), stepBar(4, 5),
			stepBar(math.MinInt, 0), stepBar(0, math.MaxInt), {},
			{A: 0, B: 1, Point: 2}, {A: 0, B: 1, Point: -1}, {A: 0, B: 1, C: 2}, {A: 0, B: 1, C: -1}, {A: 0, B: 1, Point: 3, C: 2},
			stepTwo(2, 0, 1), stepThree(3, 0, 1, 2),
		},
		// The points 3 and 4 have no bars, and 1 and 2 are not joined.
		"5: 0-1 0-2": {
			stepBar(0, 1), stepBar(3, 4), stepBar(1, 2), {},
			stepTwo(2, 0, 1), stepTwo(0, 1, 2), stepTwo(3, 0, 4), stepTwo(3, 4, 0), stepTwo(3, 0, 0), stepTwo(3, 3, 0), stepTwo(3, 0, 3), stepTwo(3, 3, 3),
			stepTwo(5, 0, 1), stepTwo(-1, 0, 1), stepTwo(3, 0, 5), stepTwo(3, 5, 0), stepTwo(3, -1, 0), stepTwo(3, 0, -1),
			stepTwo(math.MaxInt, 0, 1), stepTwo(3, math.MinInt, 1), stepTwo(3, 0, math.MaxInt),
			{Kind: impl.StepTwo, Point: 3, A: 0, B: 1, C: 2}, {Kind: impl.StepTwo, Point: 3, A: 0, B: 1, C: -1}, {Kind: impl.StepTwo, Point: 3, A: 0, B: 1, C: 4},
			stepThree(3, 1, 2, 0), stepThree(3, 0, 1, 4), stepThree(3, 0, 4, 1), stepThree(3, 4, 0, 1),
			stepThree(3, 0, 1, 0), stepThree(3, 0, 1, 1), stepThree(3, 0, 1, 3), stepThree(3, 0, 0, 1), stepThree(3, 3, 0, 1), stepThree(3, 0, 3, 1),
			stepThree(0, 0, 1, 2), stepThree(1, 0, 2, 1), stepThree(5, 0, 1, 2), stepThree(-1, 0, 1, 2),
			stepThree(3, 0, 1, 5), stepThree(3, 0, 1, -1), stepThree(3, 0, 5, 1), stepThree(3, -1, 0, 1), stepThree(3, 0, 1, math.MaxInt), stepThree(math.MinInt, 0, 1, 2),
			{Kind: 3, Point: 3, A: 0, B: 1}, {Kind: 3, Point: 3, A: 0, B: 1, C: 2}, {Kind: -1, Point: 3, A: 0, B: 1, C: 2},
			{Kind: math.MaxInt, Point: 3, A: 0, B: 1}, {Kind: math.MinInt, Point: 3, A: 0, B: 1, C: 2}, {Kind: 3}, {Kind: -1},
		},
		// All points have bars.
		"4: 0-1 0-2 0-3 1-2": {stepTwo(3, 1, 2), stepThree(3, 0, 1, 2), stepThree(3, 1, 2, 0), stepTwo(4, 0, 1), stepThree(4, 0, 1, 2)},
		"1:":                 {stepBar(0, 0), stepBar(0, 1), stepTwo(0, 0, 0), {Kind: 3}},
	}
}

func TestApplyStepThatDoesNotFit(t *testing.T) {
	for text, steps := range noSteps() {
		g, valid := impl.ParseGraph(text)
		for _, s := range steps {
			if got, ok := impl.ApplyStep(g, s); !valid || ok || !sameGraph(got, g) {
				t.Errorf("ApplyStep(%q, %v) = %v, %v", text, s, got, ok)
			}
		}
	}
}

func TestApplyStepByDefinition(t *testing.T) {
	for _, g := range smallGraphs() {
		numbers := g.Points + 2
		for code := range 5 * numbers * numbers * numbers * numbers {
			s := impl.Step{Kind: code%5 - 1}
			for _, field := range []*int{&s.Point, &s.A, &s.B, &s.C} {
				*field = code/5%numbers - 1
				code /= numbers
			}
			got, ok := impl.ApplyStep(g, s)
			want, fits := applyByDefinition(g, s)
			if !fits {
				want = g
			}
			if ok != fits || !sameGraph(got, want) {
				t.Fatalf("ApplyStep(%v, %v) = %v, %v, want %v, %v", g, s, got, ok, want, fits)
			}
		}
	}
}

// A graph may have MaxBars - 3 bars and no more, whether or not the step would be within MaxBars.
func TestApplyStepOfManyBars(t *testing.T) {
	for n := impl.MaxBars - 5; n <= impl.MaxBars; n++ {
		g := manyBars(5, n-2)
		g.Bars = append(g.Bars, impl.Bar{A: 0, B: 2}, impl.Bar{A: 1, B: 2})
		for _, s := range []impl.Step{stepTwo(3, 0, 1), stepTwo(4, 2, 1), stepThree(3, 0, 1, 2), stepThree(4, 2, 1, 0)} {
			want, fits := applyByDefinition(g, s)
			if fits != (n <= 21) {
				t.Fatal("a step of this test is wrong:", s, n)
			}
			if got, ok := impl.ApplyStep(g, s); ok != fits || !sameGraph(got, want) {
				t.Errorf("ApplyStep(%v, %v) = %v, %v", g, s, got, ok)
			}
		}
		if got, ok := impl.ApplyStep(g, stepBar(0, 1)); ok || !sameGraph(got, g) {
			t.Errorf("a first bar after %d: %v", n, got)
		}
	}
}

func TestStepsOfInvalidGraphs(t *testing.T) {
	steps := []impl.Step{stepBar(0, 1), stepBar(1, 2), stepTwo(2, 0, 1), stepTwo(3, 0, 1), stepTwo(0, 1, 2), stepThree(3, 0, 1, 2), stepThree(2, 0, 1, 3), {Kind: 3}, {}}
	for _, g := range append(invalidGraphs(), graphOf(9, 0, 1, 0, 2, 1, 2), graphOf(math.MaxInt, 0, 1, 0, 2, 1, 2), graphOf(3, 1, 2, 0, 2, 0, 1), graphOf(4, 0, 2, 0, 1, 1, 2), graphOf(4, 0, 1, 2, 1)) {
		for _, s := range steps {
			if got, ok := impl.ApplyStep(g, s); ok || !sameGraph(got, g) {
				t.Errorf("ApplyStep(%v, %v) = %v, %v", g, s, got, ok)
			}
		}
		if l, ok := impl.FindSteps(g); ok || len(l) != 0 {
			t.Errorf("FindSteps(%v) = %v, %v", g, l, ok)
		}
	}
}

func TestBuildSteps(t *testing.T) {
	for _, c := range []struct {
		n    int
		l    []impl.Step
		want string
	}{
		{1, nil, "1:"},
		{8, []impl.Step{}, "8:"},
		{2, []impl.Step{stepBar(1, 0)}, "2: 0-1"},
		{3, []impl.Step{stepBar(1, 2), stepTwo(0, 1, 2)}, "3: 0-1 0-2 1-2"},
		// Points without bars may be left.
		{8, []impl.Step{stepBar(1, 2), stepTwo(0, 1, 2)}, "8: 0-1 0-2 1-2"},
		{4, []impl.Step{stepBar(2, 3), stepTwo(1, 2, 3), stepTwo(0, 1, 2)}, "4: 0-1 0-2 1-2 1-3 2-3"},
		{4, []impl.Step{stepBar(0, 1), stepTwo(2, 0, 1), stepThree(3, 0, 1, 2)}, "4: 0-2 0-3 1-2 1-3 2-3"},
		{6, []impl.Step{stepBar(3, 4), stepTwo(2, 3, 4), stepTwo(1, 3, 4), stepTwo(5, 1, 2), stepThree(0, 3, 4, 5)}, "6: 0-3 0-4 0-5 1-3 1-4 1-5 2-3 2-4 2-5"},
		// A later step may take a bar of an earlier one away.
		{5, []impl.Step{stepBar(0, 1), stepTwo(2, 0, 1), stepThree(3, 0, 2, 1), stepThree(4, 0, 3, 2)}, "5: 0-1 0-4 1-2 1-3 2-3 2-4 3-4"},
	} {
		if got, ok := impl.BuildSteps(c.n, c.l); !ok || impl.FormatGraph(got) != c.want {
			t.Errorf("BuildSteps(%d, %v) = %v, %v, want %q", c.n, c.l, got, ok, c.want)
		}
	}
}

func TestBuildStepsThatFail(t *testing.T) {
	good := []impl.Step{stepBar(0, 1), stepTwo(2, 0, 1), stepThree(3, 0, 1, 2)}
	if _, ok := impl.BuildSteps(4, good); !ok {
		t.Fatal("the steps of this test fail")
	}
	check := func(n int, l []impl.Step) {
		if got, ok := impl.BuildSteps(n, l); ok || got.Points != 0 || len(got.Bars) != 0 {
			t.Errorf("BuildSteps(%d, %v) = %v, %v", n, l, got, ok)
		}
	}
	for _, n := range []int{0, -1, impl.MaxPoints + 1, 1000, math.MinInt, math.MaxInt} {
		check(n, nil)
		check(n, good)
		check(n, good[:1])
	}
	for n := 1; n < 4; n++ {
		check(n, good)
	}
	bad := []impl.Step{{}, stepBar(2, 3), stepTwo(1, 2, 2), stepTwo(3, 1, 4), stepThree(4, 0, 1, 2), {Kind: 3}, {Kind: -1, Point: 3, A: 0, B: 1}}
	for i := 1; i <= len(good); i++ {
		for _, s := range bad {
			check(4, slices.Insert(slices.Clone(good), i, s))
			check(4, append(slices.Clone(good[:i]), s))
		}
	}
	// Without the first bar, and without the third point.
	check(4, good[1:])
	check(4, good[2:])
	check(4, []impl.Step{good[0], good[2]})
	check(4, append(slices.Clone(good), good...))
}

func TestFindSteps(t *testing.T) {
	for _, c := range []struct{ text, want string }{
		{"2: 0-1", "0-1"},
		{"3: 0-1 0-2 1-2", "1-2 0:1,2"},
		{"4: 0-1 0-2 1-2 1-3 2-3", "2-3 1:2,3 0:1,2"},
		// The least point with two bars comes before lesser ones with three.
		{"4: 0-1 0-2 0-3 1-2 1-3", "1-3 0:1,3 2:0,1"},
		{"5: 0-1 0-2 1-2 1-3 2-3 2-4 3-4", "3-4 2:3,4 1:2,3 0:1,2"},
		{"5: 0-1 0-2 0-3 0-4 1-2 2-3 3-4", "3-4 0:3,4 2:0,3 1:0,2"},
		// The first pair of neighbours.
		{"6: 0-3 0-4 0-5 1-3 1-4 1-5 2-3 2-4 2-5", "3-4 2:3,4 1:3,4 5:1,2 0:3-4,5"},
		// The second pair, because a bar joins the first one.
		{"6: 0-1 0-2 0-3 1-2 1-4 2-5 3-4 3-5 4-5", "4-5 3:4,5 2:3,5 1:2,4 0:2-3,1"},
		// The third pair, because bars join the others.
		{"7: 0-1 0-3 0-6 1-3 1-4 2-4 2-5 2-6 3-5 3-6 4-5", "4-5 3:4,5 2:4,5 6:2,3 1:3-4,6 0:1-6,3"},
		// The point 0 has four bars.
		{"7: 0-1 0-2 0-3 0-5 1-3 1-4 2-5 2-6 3-4 4-6 5-6", "5-6 2:5,6 0:2,5 4:0,6 3:0,4 1:0-4,3"},
		// No bar joins 1 and 2, but they are rigid together without the point 0.
		{"8: 0-1 0-2 0-5 1-3 1-4 2-3 2-4 3-4 3-6 4-7 5-6 5-7 6-7", "6-7 5:6,7 4:5,7 3:4,6 2:4-5,3 1:3,4 0:2-5,1"},
	} {
		g, valid := impl.ParseGraph(c.text)
		if l, ok := impl.FindSteps(g); !valid || !ok || impl.FormatSteps(l) != c.want {
			t.Errorf("FindSteps(%q) = %s, %v, want %s", c.text, impl.FormatSteps(l), ok, c.want)
		}
	}
}

// The steps are those of the definition, and build the graph again.
func TestFindStepsByDefinition(t *testing.T) {
	for _, g := range stepGraphs() {
		if !impl.IsGraph(g) || !isMinimalByCount(g) {
			t.Fatal("a graph of this test is not minimally rigid:", g)
		}
		l, ok := impl.FindSteps(g)
		if want := stepsByDefinition(g); !ok || !slices.Equal(l, want) {
			t.Fatalf("FindSteps(%v) = %v, %v, want %v", g, l, ok, want)
		}
		if built, ok := impl.BuildSteps(g.Points, l); !ok || !sameGraph(built, g) {
			t.Fatalf("the steps %v of %v build %v, %v", l, g, built, ok)
		}
	}
}

// There are two such graphs, but for the order of the points: two triangles joined by bars, and two triples with all bars between them.
func TestGraphsWithThreeBarsAtEachPoint(t *testing.T) {
	graphs := threeBarGraphs()
	if len(graphs) != 60+10 {
		t.Fatal("number of graphs:", len(graphs))
	}
	for _, g := range graphs {
		l, ok := impl.FindSteps(g)
		if !ok || len(l) != 5 || l[4].Kind != impl.StepThree || l[4].Point != 0 || l[0].Kind != impl.StepBar {
			t.Fatalf("FindSteps(%v) = %v, %v", g, l, ok)
		}
		if n := impl.CountThrees(l); n != 1 {
			t.Fatalf("%v has %d steps with three bars: %v", g, n, l)
		}
		if built, ok := impl.BuildSteps(6, l); !ok || !sameGraph(built, g) {
			t.Fatalf("the steps of %v build %v, %v", g, built, ok)
		}
		if built, ok := impl.BuildSteps(6, l[:4]); !ok || len(built.Bars) != 7 || impl.DegreeOf(built, 0) != 0 || impl.RankOf(built, 2, 3) != 7 {
			t.Fatalf("the steps of %v but for the last one build %v, %v", g, built, ok)
		}
	}
}

func TestFindStepsOfOtherGraphs(t *testing.T) {
	graphs := append(append(componentGraphs(), matroidGraphs()...),
		// As many bars as a minimally rigid graph has.
		graphOf(3, 0, 1, 0, 1, 0, 2), graphOf(5, 0, 1, 0, 2, 0, 3, 1, 2, 1, 3, 2, 3, 3, 4),
		// Three bars at each point, but one too many.
		graphOf(4, 0, 1, 0, 2, 0, 3, 1, 2, 1, 3, 2, 3),
		// Three bars at each point, but not rigid.
		graphOf(8, 0, 1, 0, 2, 0, 3, 1, 2, 1, 3, 2, 3, 4, 5, 4, 6, 4, 7, 5, 6, 5, 7, 6, 7),
		// Minimally rigid but for a point without bars.
		graphOf(4, 0, 1, 0, 2, 1, 2), graphOf(3, 0, 1), graphOf(3, 1, 2),
	)
	found := 0
	for _, g := range graphs {
		want := isMinimalByCount(g) && len(g.Bars) > 0
		l, ok := impl.FindSteps(g)
		if ok != want || ok != (len(l) > 0) {
			t.Fatalf("FindSteps(%v) = %v, %v", g, l, ok)
		}
		if ok {
			found++
		}
	}
	if found < 100 || found > len(graphs)/2 {
		t.Error("minimally rigid graphs among those of this test:", found)
	}
	if l, ok := impl.FindSteps(graphOf(1)); ok || len(l) != 0 {
		t.Error("a graph of one point is built by steps:", l)
	}
}

// builtGraphs applies all steps that fit, in all orders, to the graph without bars.
func builtGraphs(points int) map[string]impl.Graph {
	built := map[string]impl.Graph{}
	work := []impl.Graph{{Points: points}}
	for len(work) > 0 {
		g := work[0]
		work = work[1:]
		for code := range 3 * points * points * points * points {
			s := impl.Step{Kind: code % 3}
			for _, field := range []*int{&s.Point, &s.A, &s.B, &s.C} {
				*field = code / 3 % points
				code /= points
			}
			after, ok := impl.ApplyStep(g, s)
			if !ok {
				continue
			}
			text := impl.FormatGraph(after)
			if _, known := built[text]; !known {
				built[text] = after
				work = append(work, after)
			}
		}
	}
	return built
}

func TestStepsBuildTheMinimallyRigidGraphs(t *testing.T) {
	for points := 1; points <= 5; points++ {
		whole := 0
		for _, g := range builtGraphs(points) {
			used := 0
			for v := range points {
				used += min(impl.DegreeOf(g, v), 1)
			}
			if rank := rankByCount(g, 2, 3, allBars(g)); !impl.IsGraph(g) || rank != len(g.Bars) || rank != 2*used-3 {
				t.Fatalf("steps build %v, with the rank %d", g, rank)
			}
			if used == points {
				whole++
				if l, ok := impl.FindSteps(g); !ok || len(l) != points-1 {
					t.Fatalf("FindSteps(%v) = %v, %v", g, l, ok)
				}
			}
		}
		want := 0
		for _, g := range minimalGraphs(points, 1) {
			want++
			if _, ok := impl.FindSteps(g); !ok {
				t.Fatalf("no steps are found for %v", g)
			}
		}
		if whole != want {
			t.Errorf("steps build %d graphs of %d points, want %d", whole, points, want)
		}
	}
}

func TestCountThrees(t *testing.T) {
	for _, c := range []struct {
		l    []impl.Step
		want int
	}{
		{nil, 0},
		{[]impl.Step{}, 0},
		{[]impl.Step{{}}, 0},
		{[]impl.Step{stepThree(3, 0, 1, 2)}, 1},
		{[]impl.Step{stepBar(0, 1), stepTwo(2, 0, 1), stepThree(3, 0, 1, 2), stepTwo(4, 0, 2), stepThree(5, 0, 4, 2)}, 2},
		// Steps need not be possible.
		{[]impl.Step{{Kind: impl.StepThree}, {Kind: impl.StepThree}, {Kind: 3}, {Kind: -1}, {Kind: math.MaxInt}, {Kind: math.MinInt}}, 2},
	} {
		if got := impl.CountThrees(c.l); got != c.want {
			t.Errorf("CountThrees(%v) = %d, want %d", c.l, got, c.want)
		}
	}
}

func TestFormatSteps(t *testing.T) {
	for _, c := range []struct {
		l    []impl.Step
		want string
	}{
		{nil, "none"},
		{[]impl.Step{}, "none"},
		{[]impl.Step{{}}, "0-0"},
		{[]impl.Step{stepBar(0, 1)}, "0-1"},
		{[]impl.Step{stepBar(7, 3)}, "7-3"},
		{[]impl.Step{stepTwo(2, 0, 1)}, "2:0,1"},
		{[]impl.Step{stepThree(3, 0, 1, 2)}, "3:0-1,2"},
		{[]impl.Step{stepBar(0, 1), stepTwo(2, 0, 1), stepThree(3, 0, 1, 2)}, "0-1 2:0,1 3:0-1,2"},
		// Numbers that are not shown, and steps that are not possible.
		{[]impl.Step{{A: 1, B: 2, Point: 5, C: 6}, {Kind: impl.StepTwo, Point: 3, A: 4, B: 4, C: 9}}, "1-2 3:4,4"},
		{[]impl.Step{{Kind: 3}}, "?"},
		{[]impl.Step{{Kind: -1, Point: 1, A: 2, B: 3, C: 4}, stepBar(0, 1), {Kind: math.MaxInt}, {Kind: math.MinInt}}, "? 0-1 ? ?"},
		{[]impl.Step{stepBar(-1, -2), stepThree(-3, 10, math.MaxInt, math.MinInt)}, "-1--2 -3:10-9223372036854775807,-9223372036854775808"},
	} {
		if got := impl.FormatSteps(c.l); got != c.want {
			t.Errorf("FormatSteps(%v) = %q, want %q", c.l, got, c.want)
		}
	}
}

func TestAreSameSteps(t *testing.T) {
	base := impl.Step{Kind: 2, Point: 3, A: 0, B: 1, C: 2}
	lists := [][]impl.Step{
		nil, {{}}, {{}, {}}, {base}, {base, base}, {{}, base}, {base, {}},
		{{Kind: 1, Point: 3, A: 0, B: 1, C: 2}}, {{Kind: 2, Point: 4, A: 0, B: 1, C: 2}}, {{Kind: 2, Point: 3, A: 5, B: 1, C: 2}},
		{{Kind: 2, Point: 3, A: 0, B: 5, C: 2}}, {{Kind: 2, Point: 3, A: 0, B: 1, C: 5}},
		{{Kind: 2, Point: 3, A: 1, B: 0, C: 2}},
		// Kinds that look the same.
		{{Kind: 3}}, {{Kind: -1}},
	}
	for i, a := range lists {
		for j, b := range lists {
			if impl.AreSameSteps(a, slices.Clone(b)) != (i == j) {
				t.Errorf("AreSameSteps(%v, %v) = %v", a, b, i != j)
			}
		}
	}
	if !impl.AreSameSteps(nil, []impl.Step{}) || !impl.AreSameSteps([]impl.Step{}, nil) {
		t.Error("no steps, nil and empty")
	}
}

func TestGraphsOfStepsAreNotShared(t *testing.T) {
	for _, c := range []struct {
		g impl.Graph
		s impl.Step
	}{
		{graphOf(3), stepBar(0, 2)},
		{graphOf(4, 0, 1, 0, 2), stepTwo(3, 0, 1)},
		{graphOf(4, 1, 2, 1, 3), stepTwo(0, 1, 2)},
		{graphOf(4, 0, 1, 0, 2, 1, 2), stepThree(3, 0, 1, 2)},
		{graphOf(4, 1, 2, 1, 3, 2, 3), stepThree(0, 2, 3, 1)},
		{graphOf(4, 0, 1, 0, 2, 1, 2), stepTwo(2, 0, 1)},
		{graphOf(4, 0, 1, 0, 2, 1, 2), impl.Step{Kind: 3}},
		{graphOf(3, 1, 2, 0, 1), stepBar(0, 1)},
		{graphOf(9, 0, 1, 0, 2), stepTwo(3, 0, 1)},
		{manyBars(4, impl.MaxBars-2), stepTwo(3, 0, 1)},
		{manyBars(4, impl.MaxBars+1), stepTwo(3, 0, 1)},
	} {
		if changeSharedBars(c.g, func(g impl.Graph) impl.Graph { x, _ := impl.ApplyStep(g, c.s); return x }) {
			t.Errorf("ApplyStep changes or shares the bars of %v with %v", c.g, c.s)
		}
	}
	for _, g := range []impl.Graph{graphOf(2, 0, 1), threeBarGraphs()[0], graphOf(4, 0, 1, 0, 2, 1, 2, 1, 3, 2, 3), graphOf(4, 0, 1)} {
		if changeSharedBars(g, func(g impl.Graph) impl.Graph { impl.FindSteps(g); return impl.Graph{} }) {
			t.Errorf("FindSteps changes the bars of %v", g)
		}
	}
}

func TestStepsAreNotShared(t *testing.T) {
	g := graphOf(6, 0, 1, 0, 2, 0, 3, 1, 2, 1, 4, 2, 5, 3, 4, 3, 5, 4, 5)
	want := "4-5 3:4,5 2:3,5 1:2,4 0:2-3,1"
	for range 2 {
		l, ok := impl.FindSteps(g)
		if !ok || impl.FormatSteps(l) != want {
			t.Fatal("a call is different:", l)
		}
		for i := range l {
			l[i] = impl.Step{Kind: 9}
		}
		_ = append(l, impl.Step{Kind: 9})
	}
	l, _ := impl.FindSteps(g)
	room := append(slices.Clone(l), impl.Step{Kind: 9})
	before := slices.Clone(room)
	for range 2 {
		built, ok := impl.BuildSteps(6, room[:5])
		if !ok || !sameGraph(built, g) || impl.CountThrees(room[:5]) != 1 || impl.FormatSteps(room[:5]) != want || !impl.AreSameSteps(room[:5], l) {
			t.Fatal("a call is different:", built)
		}
		built.Bars[0] = impl.Bar{A: -9, B: -9}
	}
	if !slices.Equal(room, before) {
		t.Error("an argument was changed:", room)
	}
}
