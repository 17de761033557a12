package tests

import (
	"math"
	"slices"
	"testing"

	"loop.example/g02078/impl"
)

// Promise 5, the part on trees: tight graphs, and no others, are packed by spanning trees.

// isForestByDefinition adds bar by bar: a cycle closes where both ends are in one part already.
func isForestByDefinition(g impl.Graph, set []int) bool {
	var part [impl.MaxPoints]int
	for v := range part {
		part[v] = v
	}
	for _, bar := range set {
		from, to := part[g.Bars[bar].A], part[g.Bars[bar].B]
		if from == to {
			return false
		}
		for v := range part {
			if part[v] == from {
				part[v] = to
			}
		}
	}
	return true
}

func isTreeByDefinition(g impl.Graph, set []int) bool {
	return len(set) == g.Points-1 && isForestByDefinition(g, set)
}

// treesOfNumbers gives each bar to the tree with its number, or to none.
func treesOfNumbers(numbers []int, k int) [][]int {
	trees := make([][]int, k)
	for bar, n := range numbers {
		if n < k {
			trees[n] = append(trees[n], bar)
		}
	}
	return trees
}

// increase turns the list of numbers below base into the next one in lexicographic order, and reports whether there is one.
func increase(numbers []int, base int) bool {
	for i := len(numbers) - 1; i >= 0; i-- {
		if numbers[i]++; numbers[i] < base {
			return true
		}
		numbers[i] = 0
	}
	return false
}

// packByDefinition goes through the lists of the numbers of trees in lexicographic order.
func packByDefinition(g impl.Graph, k int) ([][]int, bool) {
	if len(g.Bars) != k*(g.Points-1) {
		return nil, false
	}
	numbers := make([]int, len(g.Bars))
	for {
		trees := treesOfNumbers(numbers, k)
		if !slices.ContainsFunc(trees, func(tree []int) bool { return !isTreeByDefinition(g, tree) }) {
			return trees, true
		}
		if !increase(numbers, k) {
			return nil, false
		}
	}
}

// arePackedByDefinition expects k sets of bars.
func arePackedByDefinition(g impl.Graph, l [][]int) bool {
	times := make([]int, len(g.Bars))
	for _, tree := range l {
		if !isTreeByDefinition(g, tree) {
			return false
		}
		for _, bar := range tree {
			times[bar]++
		}
	}
	return !slices.ContainsFunc(times, func(n int) bool { return n != 1 })
}

// countByDefinition tries all sets of one bar less than there are points; of a set that has a cycle nothing more is tried.
func countByDefinition(g impl.Graph, set []int) int {
	if !isForestByDefinition(g, set) {
		return 0
	}
	if len(set) == g.Points-1 {
		return 1
	}
	first := 0
	if len(set) > 0 {
		first = set[len(set)-1] + 1
	}
	n := 0
	for bar := first; bar < len(g.Bars); bar++ {
		n += countByDefinition(g, append(slices.Clone(set), bar))
	}
	return n
}

// firstBars returns the indices of so many bars.
func firstBars(n int) []int {
	return barsOfCode(1<<n-1, n)
}

// graphsWithBars returns all graphs of so many points and bars, with at most most bars between two points.
func graphsWithBars(points, bars, most int) []impl.Graph {
	graphs := []impl.Graph{{Points: points}}
	for a := range points {
		for b := a + 1; b < points; b++ {
			var more []impl.Graph
			for _, g := range graphs {
				for n := 0; n <= most && len(g.Bars)+n <= bars; n++ {
					equal := slices.Repeat([]impl.Bar{{A: a, B: b}}, n)
					more = append(more, impl.Graph{Points: points, Bars: append(slices.Clone(g.Bars), equal...)})
				}
			}
			graphs = more
		}
	}
	return slices.DeleteFunc(graphs, func(g impl.Graph) bool { return len(g.Bars) != bars })
}

// treeGraphs have so few bars that all their sets of bars can be tried.
func treeGraphs() []impl.Graph {
	return append(matroidGraphs(),
		graphOf(2), graphOf(3), graphOf(3, 0, 1), graphOf(3, 0, 1, 0, 1), graphOf(3, 0, 1, 0, 2, 1, 2),
		graphOf(6, 0, 1, 0, 2, 1, 2, 3, 4, 3, 5, 4, 5), graphOf(6, 0, 1, 0, 2, 1, 2, 2, 3, 3, 4, 3, 5, 4, 5),
		graphOf(8, 0, 1, 1, 2, 2, 3, 3, 4, 4, 5, 5, 6, 6, 7), graphOf(8, 0, 1, 0, 7, 1, 2, 2, 3, 3, 4, 4, 5, 5, 6, 6, 7),
		graphOf(8, 0, 7, 1, 7, 2, 7, 3, 7, 4, 7, 5, 7, 6, 7, 6, 7),
	)
}

func TestForests(t *testing.T) {
	for _, c := range []struct {
		text         string
		set          []int
		forest, tree bool
	}{
		// A single point.
		{"1:", nil, true, true},
		{"1:", []int{}, true, true},
		{"2:", nil, true, false},
		{"2: 0-1", nil, true, false},
		{"2: 0-1", []int{0}, true, true},
		// Equal bars are a cycle, but each of them is a tree.
		{"2: 0-1 0-1", []int{0, 1}, false, false},
		{"2: 0-1 0-1", []int{0}, true, true},
		{"2: 0-1 0-1", []int{1}, true, true},
		{"3: 0-1 0-2 1-2", []int{0, 2}, true, true},
		{"3: 0-1 0-2 1-2", []int{0, 1, 2}, false, false},
		{"4: 0-1 0-2 0-3 1-2 1-3 2-3", []int{0, 1}, true, false},
		{"4: 0-1 0-2 0-3 1-2 1-3 2-3", []int{0, 5}, true, false},
		{"4: 0-1 0-2 0-3 1-2 1-3 2-3", []int{0, 1, 2}, true, true},
		{"4: 0-1 0-2 0-3 1-2 1-3 2-3", []int{0, 3, 5}, true, true},
		// As many bars as a spanning tree, but with a cycle.
		{"4: 0-1 0-2 0-3 1-2 1-3 2-3", []int{0, 1, 3}, false, false},
		{"4: 0-1 0-2 0-3 1-2 1-3 2-3", []int{3, 4, 5}, false, false},
		{"4: 0-1 0-2 0-3 1-2 1-3 2-3", []int{0, 1, 2, 3}, false, false},
		{"4: 0-1 0-2 0-3 1-2 1-3 2-3", []int{1, 2, 3, 4}, false, false},
		{"8: 0-1 1-2 2-3 3-4 4-5 5-6 6-7", []int{0, 1, 2, 3, 4, 5, 6}, true, true},
		{"8: 0-1 1-2 2-3 3-4 4-5 5-6 6-7", []int{0, 1, 2, 4, 5, 6}, true, false},
		{"8: 0-1 0-7 1-2 2-3 3-4 4-5 5-6 6-7", []int{0, 1, 2, 3, 4, 5, 6, 7}, false, false},
	} {
		g, ok := impl.ParseGraph(c.text)
		if !ok || impl.IsForest(g, c.set) != c.forest || impl.IsSpanningTree(g, c.set) != c.tree {
			t.Errorf("%v of %q: forest %v, spanning tree %v", c.set, c.text, impl.IsForest(g, c.set), impl.IsSpanningTree(g, c.set))
		}
	}
}

func TestForestsByDefinition(t *testing.T) {
	for _, g := range treeGraphs() {
		for code := range 1 << len(g.Bars) {
			set := barsOfCode(code, len(g.Bars))
			if impl.IsForest(g, set) != isForestByDefinition(g, set) || impl.IsSpanningTree(g, set) != isTreeByDefinition(g, set) {
				t.Fatalf("%v of %v: forest %v, spanning tree %v", set, g, impl.IsForest(g, set), impl.IsSpanningTree(g, set))
			}
		}
	}
}

func TestForestsInvalid(t *testing.T) {
	check := func(g impl.Graph, set []int) {
		if impl.IsForest(g, set) || impl.IsSpanningTree(g, set) {
			t.Errorf("%v of %v: forest %v, spanning tree %v", set, g, impl.IsForest(g, set), impl.IsSpanningTree(g, set))
		}
	}
	k4 := impl.CompleteGraph(4)
	for _, set := range append(noBarSets(), []int{2, 1, 0}, []int{0, 2, 1}, []int{0, 0, 1}, []int{0, 1, 1}, []int{0, 1, 6}, []int{-1, 0, 1}) {
		check(k4, set)
	}
	// Lists of as many bars as a spanning tree has.
	check(graphOf(1), []int{0})
	check(graphOf(1), []int{-1})
	check(graphOf(2), []int{0})
	check(graphOf(2, 0, 1), []int{1})
	check(graphOf(3, 0, 1, 1, 2), []int{1, 0})
	check(graphOf(3, 0, 1, 1, 2), []int{0, 0})
	check(graphOf(3, 0, 1, 1, 2), []int{1, 2})
	check(manyBars(2, impl.MaxBars), []int{impl.MaxBars})
	for _, g := range append(invalidGraphs(), graphOf(9, 0, 1, 1, 2, 2, 3, 3, 4, 4, 5, 5, 6, 6, 7, 7, 8), graphOf(3, 0, 2, 0, 1), graphOf(3, 0, 1, 2, 1)) {
		for _, set := range append(noBarSets(), nil, []int{}) {
			check(g, set)
		}
		for bar := range 10 {
			check(g, []int{bar})
			check(g, firstBars(bar))
		}
	}
}

func TestPackTrees(t *testing.T) {
	for _, c := range []struct {
		text string
		k    int
		want [][]int
	}{
		{"2: 0-1", 1, [][]int{{0}}},
		{"2: 0-1 0-1", 2, [][]int{{0}, {1}}},
		{"2: 0-1 0-1 0-1", 3, [][]int{{0}, {1}, {2}}},
		{"3: 0-1 1-2", 1, [][]int{{0, 1}}},
		{"3: 0-1 0-1 0-2 1-2", 2, [][]int{{0, 2}, {1, 3}}},
		{"3: 0-1 0-1 0-1 0-2 1-2 1-2", 3, [][]int{{0, 3}, {1, 4}, {2, 5}}},
		// With 2 in the first tree, a triangle would be left.
		{"4: 0-1 0-2 0-3 1-2 1-3 2-3", 2, [][]int{{0, 1, 4}, {2, 3, 5}}},
		// With 1 in the first tree, both bars between 1 and 2 would be left.
		{"4: 0-1 0-2 0-3 1-2 1-2 2-3", 2, [][]int{{0, 2, 3}, {1, 4, 5}}},
		{"4: 0-1 0-2 0-2 1-2 1-2 1-3 1-3 1-3 2-3", 3, [][]int{{0, 3, 5}, {1, 4, 6}, {2, 7, 8}}},
		// As many points as there may be.
		{"5: 0-4 1-4 2-4 3-4", 1, [][]int{{0, 1, 2, 3}}},
		{"5: 0-1 0-2 0-3 0-4 1-2 1-4 2-3 3-4", 2, [][]int{{0, 1, 2, 5}, {3, 4, 6, 7}}},
	} {
		g, valid := impl.ParseGraph(c.text)
		if l, ok := impl.PackTrees(g, c.k); !valid || !ok || !sameSets(l, c.want) || !impl.ArePackedTrees(g, c.k, l) {
			t.Errorf("PackTrees of %q with %d = %v, %v, want %v", c.text, c.k, l, ok, c.want)
		}
	}
}

// A single point has no bars, and the trees have none either.
func TestTreesOfASinglePoint(t *testing.T) {
	g := graphOf(1)
	for k := 1; k <= impl.MaxK; k++ {
		if l, ok := impl.PackTrees(g, k); !ok || !sameSets(l, make([][]int, k)) {
			t.Errorf("PackTrees with %d = %v, %v", k, l, ok)
		}
		for n := range impl.MaxK + 2 {
			if impl.ArePackedTrees(g, k, make([][]int, n)) != (n == k) {
				t.Errorf("ArePackedTrees of %d lists with %d = %v", n, k, n != k)
			}
		}
		if impl.ArePackedTrees(g, k, slices.Repeat([][]int{{0}}, k)) {
			t.Errorf("ArePackedTrees accepts bars that do not exist with %d", k)
		}
	}
	if n := impl.CountTrees(g); n != 1 {
		t.Error("CountTrees =", n)
	}
}

// checkPacking compares with the definition, and expects success exactly for tight graphs.
func checkPacking(t *testing.T, g impl.Graph, k int) bool {
	want, tight := packByDefinition(g, k)
	if impl.IsTight(g, k, k) != tight {
		t.Fatalf("%v is tight for %d and %d: %v", g, k, k, !tight)
	}
	l, ok := impl.PackTrees(g, k)
	if ok != tight || !sameSets(l, want) || impl.ArePackedTrees(g, k, l) != tight {
		t.Fatalf("PackTrees(%v, %d) = %v, %v, want %v, %v", g, k, l, ok, want, tight)
	}
	return ok
}

func TestPackTreesByDefinition(t *testing.T) {
	// The numbers of graphs of one tree are those of Cayley.
	for _, c := range []struct{ points, k, most, packed int }{
		{2, 1, 2, 1}, {3, 1, 2, 3}, {4, 1, 2, 16}, {5, 1, 2, 125},
		{2, 2, 3, 1}, {3, 2, 3, 6}, {4, 2, 3, 101}, {5, 2, 2, 3425},
		{2, 3, 4, 1}, {3, 3, 4, 10}, {4, 3, 3, 396},
	} {
		packed := 0
		for _, g := range graphsWithBars(c.points, c.k*(c.points-1), c.most) {
			if checkPacking(t, g, c.k) {
				packed++
			}
		}
		if packed != c.packed {
			t.Errorf("%d graphs of %d points are packed by %d trees, want %d", packed, c.points, c.k, c.packed)
		}
	}
	for _, g := range []impl.Graph{
		graphOf(5, 0, 1, 0, 1, 0, 1, 0, 2, 0, 3, 1, 2, 1, 4, 2, 3, 2, 4, 3, 4, 3, 4, 3, 4),
		graphOf(5, 0, 2, 0, 3, 0, 3, 0, 4, 0, 4, 1, 2, 1, 2, 1, 4, 1, 4, 2, 3, 2, 3, 2, 3),
		graphOf(5, 0, 1, 0, 1, 0, 1, 1, 2, 1, 2, 1, 2, 2, 3, 2, 3, 2, 3, 3, 4, 3, 4, 3, 4),
	} {
		if !checkPacking(t, g, 3) {
			t.Errorf("%v is not packed by three trees", g)
		}
	}
}

func TestPackTreesInvalid(t *testing.T) {
	check := func(g impl.Graph, k int) {
		if l, ok := impl.PackTrees(g, k); ok || len(l) != 0 {
			t.Errorf("PackTrees(%v, %d) = %v, %v", g, k, l, ok)
		}
	}
	noK := []int{0, -1, -2, impl.MaxK + 1, 5, 100, 1 << 62, math.MinInt, math.MaxInt}
	for _, k := range noK {
		for _, g := range append(validGraphs(), graphOf(3, 0, 1, 1, 2), manyBars(2, 4), manyBars(2, 5)) {
			check(g, k)
		}
	}
	for _, g := range append(invalidGraphs(), graphOf(3, 1, 2, 0, 1), graphOf(3, 0, 1, 2, 1), graphOf(3, 0, 1, 0, 3), graphOf(3, 0, 2, 0, 1, 0, 1, 1, 2)) {
		for _, k := range append([]int{1, 2, 3}, noK...) {
			check(g, k)
		}
	}
	// Tight graphs of more points than are packed.
	for points := 6; points <= impl.MaxPoints; points++ {
		for k := 1; k <= impl.MaxK; k++ {
			g := equalPath(points, k)
			if !impl.IsTight(g, k, k) {
				t.Fatal("a graph of this test is not tight:", g)
			}
			check(g, k)
		}
	}
	for _, g := range []impl.Graph{
		// No bars, one too few, one too many, and just as many but too many between some points.
		graphOf(2), graphOf(5), graphOf(4, 0, 1, 0, 2, 0, 3, 1, 2, 1, 3), graphOf(4, 0, 1, 0, 1, 0, 2, 0, 3, 1, 2, 1, 3, 2, 3),
		graphOf(3, 0, 1, 0, 1, 0, 1, 0, 2), graphOf(4, 0, 1, 0, 1, 0, 1, 0, 2, 0, 3, 1, 3), graphOf(5, 0, 1, 0, 1, 0, 2, 0, 2, 1, 2, 1, 3, 2, 4, 3, 4),
	} {
		check(g, 2)
	}
	check(impl.CompleteGraph(3), 1)
	check(graphOf(4, 0, 1, 0, 2, 1, 2), 1)
	check(impl.CompleteGraph(4), 3)
	check(manyBars(2, 2), 3)
	check(manyBars(2, 4), 3)
	check(graphOf(3, 0, 1, 0, 1, 0, 1, 0, 1, 0, 2, 1, 2), 3)
}

// equalPath has as many bars between each point and the next one.
func equalPath(points, bars int) impl.Graph {
	g := impl.Graph{Points: points}
	for v := range points - 1 {
		g.Bars = append(g.Bars, slices.Repeat([]impl.Bar{{A: v, B: v + 1}}, bars)...)
	}
	return g
}

func TestArePackedTrees(t *testing.T) {
	for _, c := range []struct {
		text string
		k    int
		l    [][]int
		want bool
	}{
		{"2: 0-1", 1, [][]int{{0}}, true},
		{"4: 0-1 0-2 0-3 1-2 1-3 2-3", 2, [][]int{{0, 1, 4}, {2, 3, 5}}, true},
		// The trees may come in any order, and need not be the first ones.
		{"4: 0-1 0-2 0-3 1-2 1-3 2-3", 2, [][]int{{2, 3, 5}, {0, 1, 4}}, true},
		{"4: 0-1 0-2 0-3 1-2 1-3 2-3", 2, [][]int{{0, 3, 5}, {1, 2, 4}}, true},
		{"2: 0-1 0-1 0-1", 3, [][]int{{2}, {0}, {1}}, true},
		// Too few lists and too many.
		{"4: 0-1 0-2 0-3 1-2 1-3 2-3", 2, nil, false},
		{"4: 0-1 0-2 0-3 1-2 1-3 2-3", 2, [][]int{{0, 1, 4}}, false},
		{"4: 0-1 0-2 0-3 1-2 1-3 2-3", 1, [][]int{{0, 1, 4}, {2, 3, 5}}, false},
		{"4: 0-1 0-2 0-3 1-2 1-3 2-3", 3, [][]int{{0, 1, 4}, {2, 3, 5}}, false},
		{"4: 0-1 0-2 0-3 1-2 1-3 2-3", 2, [][]int{{0, 1, 4}, {2, 3, 5}, {}}, false},
		{"4: 0-1 0-2 0-3 1-2 1-3 2-3", 3, [][]int{{0, 1, 4}, {2, 3, 5}, {}}, false},
		{"4: 0-1 0-2 0-3 1-2 1-3 2-3", 2, [][]int{{0, 1, 4}, {2, 3, 5}, {0, 1, 2}}, false},
		{"2: 0-1 0-1", 3, [][]int{{0}, {1}, {1}}, false},
		// Bars that occur in no tree.
		{"4: 0-1 0-2 0-3 1-2 1-3 2-3", 1, [][]int{{0, 1, 2}}, false},
		{"2: 0-1 0-1 0-1", 2, [][]int{{0}, {1}}, false},
		// A bar in two trees.
		{"4: 0-1 0-2 0-3 1-2 1-3 2-3", 2, [][]int{{0, 1, 2}, {0, 3, 4}}, false},
		{"4: 0-1 0-2 0-3 1-2 1-3 2-3", 2, [][]int{{0, 1, 2}, {0, 1, 2}}, false},
		{"2: 0-1", 2, [][]int{{0}, {0}}, false},
		{"3: 0-1 0-2 1-2", 2, [][]int{{0, 1}, {1, 2}}, false},
		// Lists that are no spanning trees.
		{"4: 0-1 0-2 0-3 1-2 1-3 2-3", 2, [][]int{{0, 1, 2}, {3, 4, 5}}, false},
		{"4: 0-1 0-2 0-3 1-2 1-3 2-3", 2, [][]int{{3, 4, 5}, {0, 1, 2}}, false},
		{"4: 0-1 0-2 0-3 1-2 1-3 2-3", 2, [][]int{{0, 1, 4, 5}, {2, 3}}, false},
		{"4: 0-1 0-2 0-3 1-2 1-3 2-3", 2, [][]int{{}, {}}, false},
		{"4: 0-1 0-2 0-3 1-2 1-3 2-3", 2, [][]int{{0, 1, 2, 3, 4, 5}, {}}, false},
		{"3: 0-1", 1, [][]int{{0}}, false},
		// Lists that are no sets of bars.
		{"4: 0-1 0-2 0-3 1-2 1-3 2-3", 2, [][]int{{1, 0, 4}, {2, 3, 5}}, false},
		{"4: 0-1 0-2 0-3 1-2 1-3 2-3", 2, [][]int{{0, 1, 4}, {2, 5, 3}}, false},
		{"4: 0-1 0-2 0-3 1-2 1-3 2-3", 2, [][]int{{0, 1, 1, 4}, {2, 3, 5}}, false},
		{"4: 0-1 0-2 0-3 1-2 1-3 2-3", 2, [][]int{{0, 1, 4}, {2, 3, 5, 6}}, false},
		{"4: 0-1 0-2 0-3 1-2 1-3 2-3", 2, [][]int{{-1, 0, 1, 4}, {2, 3, 5}}, false},
		{"4: 0-1 0-2 0-3 1-2 1-3 2-3", 2, [][]int{{0, 1, 4}, {2, 3, math.MaxInt}}, false},
		{"4: 0-1 0-2 0-3 1-2 1-3 2-3", 2, [][]int{{math.MinInt, 1, 4}, {2, 3, 5}}, false},
	} {
		g, ok := impl.ParseGraph(c.text)
		if !ok || impl.ArePackedTrees(g, c.k, c.l) != c.want {
			t.Errorf("ArePackedTrees of %q, %d and %v = %v", c.text, c.k, c.l, !c.want)
		}
	}
}

// More points may be packed than PackTrees packs.
func TestArePackedTreesOfManyPoints(t *testing.T) {
	for points := 2; points <= impl.MaxPoints; points++ {
		for k := 1; k <= impl.MaxK; k++ {
			g := equalPath(points, k)
			l := make([][]int, k)
			for bar := range g.Bars {
				l[bar%k] = append(l[bar%k], bar)
			}
			if !impl.ArePackedTrees(g, k, l) {
				t.Errorf("ArePackedTrees(%v, %d, %v) = false", g, k, l)
			}
			// Two trees exchange bars at two places.
			if k > 1 && points > 3 {
				l[0][0], l[1][0], l[0][2], l[1][2] = l[1][0], l[0][0], l[1][2], l[0][2]
				if !impl.ArePackedTrees(g, k, l) {
					t.Errorf("ArePackedTrees(%v, %d, %v) = false", g, k, l)
				}
				l[0][0] = l[1][0]
				if impl.ArePackedTrees(g, k, l) {
					t.Errorf("ArePackedTrees(%v, %d, %v) = true", g, k, l)
				}
			}
		}
	}
}

func TestArePackedTreesByDefinition(t *testing.T) {
	for _, c := range []struct {
		g impl.Graph
		k int
	}{
		{graphOf(1), 1}, {graphOf(2), 2}, {graphOf(3, 0, 1, 1, 2), 1}, {impl.CompleteGraph(3), 1}, {impl.CompleteGraph(3), 2}, {impl.CompleteGraph(4), 1},
		{impl.CompleteGraph(4), 2}, {graphOf(4, 0, 1, 0, 2, 0, 3, 1, 2, 1, 2, 2, 3), 2}, {graphOf(4, 0, 1, 0, 1, 0, 2, 0, 2, 1, 2, 2, 3), 2},
		{graphOf(3, 0, 1, 0, 1, 0, 2, 1, 2), 2}, {graphOf(3, 0, 1, 0, 1, 0, 2, 1, 2, 1, 2), 2}, {manyBars(2, 3), 3}, {manyBars(2, 4), 3},
		{graphOf(3, 0, 1, 0, 1, 0, 2, 1, 2, 1, 2), 3}, {graphOf(3, 0, 1, 0, 1, 0, 1, 0, 2, 1, 2, 1, 2), 3},
	} {
		// Each list is any set of bars, whether or not they are in other lists too.
		codes := make([]int, c.k)
		for more := true; more; more = increase(codes, 1<<len(c.g.Bars)) {
			l := make([][]int, c.k)
			for i, code := range codes {
				l[i] = barsOfCode(code, len(c.g.Bars))
			}
			if want := arePackedByDefinition(c.g, l); impl.ArePackedTrees(c.g, c.k, l) != want {
				t.Fatalf("ArePackedTrees(%v, %d, %v) = %v", c.g, c.k, l, !want)
			}
		}
	}
}

func TestArePackedTreesInvalid(t *testing.T) {
	for _, k := range []int{0, -1, impl.MaxK + 1, 5, math.MinInt, math.MaxInt} {
		for n := range 7 {
			// One tree for each bar, and so many lists without bars.
			var l [][]int
			for bar := range n {
				l = append(l, []int{bar})
			}
			for _, g := range []impl.Graph{graphOf(1), graphOf(2), manyBars(2, n), {}} {
				if impl.ArePackedTrees(g, k, l) || impl.ArePackedTrees(g, k, make([][]int, n)) {
					t.Errorf("%d lists of %v are %d packed trees", n, g, k)
				}
			}
		}
	}
	for _, g := range append(invalidGraphs(), graphOf(3, 1, 2, 0, 1), graphOf(3, 0, 1, 2, 1), graphOf(9, 0, 1, 1, 2, 2, 3, 3, 4, 4, 5, 5, 6, 6, 7, 7, 8)) {
		for _, l := range [][][]int{nil, {{}}, {{}, {}}, {{}, {}, {}}, {{0}}, {{0}, {1}}, {{0}, {1}, {2}}, {{0, 1}}, {firstBars(8)}, {firstBars(min(len(g.Bars), 30))}} {
			for k := -1; k <= impl.MaxK+1; k++ {
				if impl.ArePackedTrees(g, k, l) {
					t.Errorf("ArePackedTrees(%v, %d, %v) = true", g, k, l)
				}
			}
		}
	}
}

func TestCountTrees(t *testing.T) {
	for _, c := range []struct {
		text string
		want int
	}{
		{"1:", 1},
		{"2:", 0},
		{"6:", 0},
		{"2: 0-1", 1},
		{"2: 0-1 0-1 0-1", 3},
		{"3: 0-1", 0},
		{"3: 1-2", 0},
		{"3: 0-2", 0},
		{"3: 0-1 1-2", 1},
		{"3: 0-1 0-2 1-2", 3},
		{"3: 0-1 0-1 0-2 0-2 0-2 1-2", 11},
		{"4: 0-1 0-2 1-2", 0},
		{"4: 1-2 1-3 2-3", 0},
		{"4: 0-1 2-3", 0},
		{"4: 0-2 1-3", 0},
		{"4: 0-1 0-2 0-3 1-2 1-3 2-3", 16},
		{"4: 0-1 0-2 1-2 1-3 2-3", 8},
		{"4: 0-1 0-3 1-2 2-3", 4},
		{"5: 0-1 0-2 0-3 0-4 1-2 1-4 2-3 3-4", 45},
		{"6: 0-1 0-5 1-2 2-3 3-4 4-5", 6},
		{"6: 0-1 0-2 0-3 1-2 1-4 2-5 3-4 3-5 4-5", 75},
		{"6: 0-3 0-4 0-5 1-3 1-4 1-5 2-3 2-4 2-5", 81},
		{"6: 0-1 0-2 1-2 3-4 3-5 4-5", 0},
		{"6: 0-1 0-2 1-2 2-3 3-4 3-5 4-5", 9},
		{"6: 0-1 0-1 0-2 0-2 0-3 0-3 0-4 0-4 0-5 0-5", 32},
	} {
		g, ok := impl.ParseGraph(c.text)
		if n := impl.CountTrees(g); !ok || n != c.want {
			t.Errorf("CountTrees of %q = %d, want %d", c.text, n, c.want)
		}
	}
	for i, want := range []int{1, 1, 3, 16, 125, 1296} {
		if n := impl.CountTrees(impl.CompleteGraph(i + 1)); n != want {
			t.Errorf("CountTrees of all bars of %d points = %d, want %d", i+1, n, want)
		}
	}
	if n := impl.CountTrees(manyBars(2, impl.MaxBars)); n != impl.MaxBars {
		t.Error("CountTrees of MaxBars equal bars =", n)
	}
}

func TestCountTreesByDefinition(t *testing.T) {
	graphs := append(append(fivePointGraphs(), smallGraphs()...), treeGraphs()...)
	// MaxBars bars of six points: a ring with each bar four times, and all bars with some of them twice.
	ring := equalPath(6, 4)
	ring.Bars = slices.Insert(ring.Bars, 4, slices.Repeat([]impl.Bar{{A: 0, B: 5}}, 4)...)
	whole := impl.CompleteGraph(6)
	for _, bar := range []int{13, 12, 9, 8, 6, 4, 3, 2, 0} {
		whole.Bars = slices.Insert(whole.Bars, bar, whole.Bars[bar])
	}
	graphs = append(graphs, ring, whole, equalPath(6, 4), equalPath(5, 6), equalPath(6, 3), graphOf(6, 0, 5, 1, 4, 1, 5, 2, 3, 2, 4), graphOf(6, 0, 5, 1, 4, 2, 3, 2, 4, 3, 4))
	for _, g := range graphs {
		if g.Points > 6 {
			continue
		}
		if n, want := impl.CountTrees(g), countByDefinition(g, nil); n != want {
			t.Fatalf("CountTrees(%v) = %d, want %d", g, n, want)
		}
	}
	if n := impl.CountTrees(ring); n != 6*4*4*4*4*4 || len(ring.Bars) != impl.MaxBars || len(whole.Bars) != impl.MaxBars {
		t.Error("CountTrees of a ring of four bars each =", n)
	}
}

func TestCountTreesInvalid(t *testing.T) {
	graphs := append(invalidGraphs(), graphOf(3, 1, 2, 0, 1), graphOf(3, 0, 1, 2, 1), graphOf(3, 0, 1, 0, 3), graphOf(1, 0, 0), graphOf(6, 0, 1, 1, 6))
	// Valid graphs of more points than are counted, with spanning trees and without.
	for points := 7; points <= impl.MaxPoints; points++ {
		graphs = append(graphs, graphOf(points), equalPath(points, 1), equalPath(points, 3), graphOf(points, 0, 1))
	}
	for _, g := range append(graphs, impl.CompleteGraph(7), fullGraph()) {
		if n := impl.CountTrees(g); n != -1 {
			t.Errorf("CountTrees(%v) = %d", g, n)
		}
	}
}

func TestTreesAreNotShared(t *testing.T) {
	want := [][]int{{0, 1, 4}, {2, 3, 5}}
	for range 2 {
		l, ok := impl.PackTrees(impl.CompleteGraph(4), 2)
		if !ok || !sameSets(l, want) {
			t.Fatal("a call is different:", l)
		}
		for i, tree := range l {
			other := slices.Clone(l[1-i])
			for j := range tree[:cap(tree)] {
				tree[:cap(tree)][j] = -9
			}
			if !slices.Equal(other, l[1-i]) {
				t.Error("two trees share memory")
			}
		}
	}
	for _, g := range []impl.Graph{impl.CompleteGraph(4), graphOf(1), graphOf(5, 0, 4, 1, 4, 2, 4, 3, 4), graphOf(3, 1, 2, 0, 1), manyBars(2, impl.MaxBars+1)} {
		for k := range impl.MaxK + 2 {
			if changeSharedBars(g, func(g impl.Graph) impl.Graph {
				l, _ := impl.PackTrees(g, k)
				impl.ArePackedTrees(g, k, l)
				impl.CountTrees(g)
				impl.IsForest(g, []int{0, 1, 2})
				impl.IsSpanningTree(g, []int{0, 1, 2})
				return impl.Graph{}
			}) {
				t.Errorf("the bars of %v are changed", g)
			}
		}
	}
	room := []int{0, 1, 4, 77, 2, 3, 5, 78}
	lists := [][]int{room[:3], room[4:7], {79}}
	for range 2 {
		if !impl.ArePackedTrees(impl.CompleteGraph(4), 2, lists[:2]) || !impl.IsForest(impl.CompleteGraph(4), room[:3]) || !impl.IsSpanningTree(impl.CompleteGraph(4), room[4:7]) {
			t.Error("a call is different")
		}
	}
	if !slices.Equal(room, []int{0, 1, 4, 77, 2, 3, 5, 78}) || !sameSets(lists, [][]int{{0, 1, 4}, {2, 3, 5}, {79}}) {
		t.Error("an argument was changed:", room, lists)
	}
}
