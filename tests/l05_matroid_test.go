package tests

import (
	"math"
	"slices"
	"testing"

	"loop.example/g02078/impl"
)

// Promise 2, the part on matroids: ranks, independent sets, circuits, closures and bridges are those of a matroid.

// noBarSets are lists that are no sets of bars of the complete graph of four points, which is a circuit for 2 and 3.
func noBarSets() [][]int {
	return [][]int{
		{1, 0}, {0, 0}, {0, 2, 1}, {0, 1, 1}, {5, 4, 3, 2, 1, 0}, {0, 1, 2, 3, 5, 4}, {0, 1, 2, 3, 4, 5, 5}, {0, 0, 1, 2, 3, 4, 5}, {3, 3, 3},
		{-1}, {6}, {-1, 0}, {0, 6}, {-1, 0, 1, 2, 3, 4, 5}, {0, 1, 2, 3, 4, 5, 6}, {-2, -1}, {6, 7},
		{math.MinInt}, {math.MaxInt}, {math.MinInt, math.MaxInt}, {0, 1, 2, 3, 4, 5, math.MaxInt}, make([]int, 30),
	}
}

// rankByCount takes bars in the order of the list as long as no set of points spans too many of them.
func rankByCount(g impl.Graph, k, l int, list []int) int {
	var spanned [1 << impl.MaxPoints]int
	rank := 0
	for _, bar := range list {
		var with []int
		fits := true
		for code := range 1 << g.Points {
			if (code>>g.Bars[bar].A)&(code>>g.Bars[bar].B)&1 == 0 {
				continue
			}
			with = append(with, code)
			fits = fits && spanned[code]+1 <= k*len(barsOfCode(code, g.Points))-l
		}
		if fits {
			rank++
			for _, code := range with {
				spanned[code]++
			}
		}
	}
	return rank
}

func allBars(g impl.Graph) []int {
	return barsOfCode(1<<len(g.Bars)-1, len(g.Bars))
}

func withoutBar(set []int, bar int) []int {
	return slices.DeleteFunc(slices.Clone(set), func(b int) bool { return b == bar })
}

// withBar returns a strictly ascending list again.
func withBar(set []int, bar int) []int {
	out := append(withoutBar(set, bar), bar)
	slices.Sort(out)
	return out
}

// matroidGraphs have at most 8 bars, so that all their sets of bars can be tried.
func matroidGraphs() []impl.Graph {
	return []impl.Graph{
		graphOf(1), graphOf(8), graphOf(2, 0, 1), graphOf(2, 0, 1, 0, 1, 0, 1, 0, 1, 0, 1, 0, 1, 0, 1),
		graphOf(4, 0, 1, 0, 1, 0, 1, 0, 2, 1, 2, 1, 3, 2, 3, 2, 3), impl.CompleteGraph(4),
		graphOf(5, 0, 1, 0, 2, 0, 3, 1, 2, 1, 3, 2, 3, 2, 4, 3, 4), graphOf(5, 0, 1, 0, 2, 0, 3, 0, 4, 1, 2, 1, 3, 2, 4, 3, 4),
		graphOf(5, 0, 1, 0, 2, 1, 2, 2, 3, 2, 4, 3, 4, 3, 4), graphOf(8, 0, 7, 1, 6, 2, 5, 3, 4, 4, 7, 5, 7, 6, 7, 6, 7),
	}
}

func TestRankOf(t *testing.T) {
	for _, c := range []struct {
		text       string
		k, l, want int
	}{
		{"4: 0-1 0-2 0-3 1-2 1-3 2-3", 2, 3, 5},
		{"4: 0-1 0-2 0-3 1-2 1-3 2-3", 1, 1, 3},
		{"4: 0-1 0-2 0-3 1-2 1-3 2-3", 1, 0, 4},
		{"4: 0-1 0-2 0-3 1-2 1-3 2-3", 2, 2, 6},
		{"4: 0-1 0-2 0-3 1-2 1-3 2-3", 3, 5, 6},
		{"5: 0-1 0-2 0-3 1-2 1-3 2-3 3-4", 2, 3, 6},
		{"5: 0-1 0-2 0-3 1-2 1-3 2-3 3-4", 1, 1, 4},
		{"6: 0-3 0-4 0-5 1-3 1-4 1-5 2-3 2-4 2-5", 2, 3, 9},
		{"8: 0-1 0-2 0-3 1-2 1-3 2-3 4-5 4-6 4-7 5-6 5-7 6-7", 2, 3, 10},
		{"2: 0-1 0-1 0-1 0-1 0-1 0-1 0-1", 3, 0, 6},
		{"2: 0-1 0-1 0-1 0-1 0-1 0-1 0-1", 3, 5, 1},
		{"2: 0-1 0-1 0-1 0-1 0-1 0-1 0-1", 1, 0, 2},
		{"1:", 2, 3, 0},
		{"8:", 3, 0, 0},
	} {
		g, ok := impl.ParseGraph(c.text)
		if n := impl.RankOf(g, c.k, c.l); !ok || n != c.want {
			t.Errorf("RankOf of %q with %d and %d = %d, want %d", c.text, c.k, c.l, n, c.want)
		}
		if n := impl.RankOfSet(g, c.k, c.l, allBars(g)); n != c.want {
			t.Errorf("RankOfSet of %q with %d and %d = %d, want %d", c.text, c.k, c.l, n, c.want)
		}
	}
}

func TestRankOfSet(t *testing.T) {
	g := impl.CompleteGraph(4)
	for _, c := range []struct {
		k, l int
		set  []int
		want int
	}{
		{2, 3, nil, 0}, {2, 3, []int{}, 0}, {2, 3, []int{4}, 1}, {2, 3, []int{0, 1, 3}, 3}, {1, 1, []int{0, 1, 3}, 2}, {1, 0, []int{0, 1, 3}, 3},
		{2, 3, []int{0, 1, 2, 3, 4}, 5}, {2, 3, []int{1, 2, 3, 4, 5}, 5}, {2, 3, []int{0, 1, 2, 3, 4, 5}, 5},
		// Any list is accepted: only the bars whose indices are in it count.
		{2, 3, []int{1, 0}, 2}, {2, 3, []int{3, 3, 3}, 1}, {2, 3, []int{5, 4, 3, 2, 1, 0}, 5}, {1, 1, []int{3, 0, 1, 0, 3}, 2},
		{2, 3, []int{-1, 0, 6, 1, math.MinInt, math.MaxInt}, 2}, {2, 3, []int{-1, 6}, 0}, {2, 3, make([]int, 30), 1},
	} {
		if n := impl.RankOfSet(g, c.k, c.l, c.set); n != c.want {
			t.Errorf("RankOfSet(%v, %d, %d, %v) = %d, want %d", g, c.k, c.l, c.set, n, c.want)
		}
	}
}

func TestIndependentSetsAndCircuits(t *testing.T) {
	for _, c := range []struct {
		text                 string
		k, l                 int
		set                  []int
		independent, circuit bool
	}{
		{"4: 0-1 0-2 0-3 1-2 1-3 2-3", 2, 3, nil, true, false},
		{"4: 0-1 0-2 0-3 1-2 1-3 2-3", 2, 3, []int{5}, true, false},
		{"4: 0-1 0-2 0-3 1-2 1-3 2-3", 2, 3, []int{0, 1, 2, 3, 4}, true, false},
		{"4: 0-1 0-2 0-3 1-2 1-3 2-3", 2, 3, []int{0, 1, 2, 3, 4, 5}, false, true},
		{"4: 0-1 0-2 0-3 1-2 1-3 2-3", 2, 2, []int{0, 1, 2, 3, 4, 5}, true, false},
		{"4: 0-1 0-2 0-3 1-2 1-3 2-3", 1, 1, []int{0, 1, 3}, false, true},
		{"4: 0-1 0-2 0-3 1-2 1-3 2-3", 1, 1, []int{0, 1, 2}, true, false},
		{"4: 0-1 0-2 0-3 1-2 1-3 2-3", 1, 1, []int{0, 1, 2, 3}, false, false},
		{"4: 0-1 0-2 0-3 1-2 1-3 2-3", 1, 1, []int{0, 2, 3, 5}, false, true},
		{"5: 0-1 0-2 0-3 1-2 1-3 2-3 3-4", 2, 3, []int{0, 1, 2, 3, 4, 5, 6}, false, false},
		{"5: 0-1 0-2 0-3 0-4 1-2 1-3 2-4 3-4", 2, 3, []int{0, 1, 2, 3, 4, 5, 6, 7}, false, true},
		{"2: 0-1 0-1 0-1", 2, 3, []int{0, 2}, false, true},
		{"2: 0-1 0-1 0-1", 2, 3, []int{0, 1, 2}, false, false},
		{"2: 0-1 0-1 0-1", 2, 2, []int{0, 1, 2}, false, true},
		{"1:", 2, 3, nil, true, false},
	} {
		g, ok := impl.ParseGraph(c.text)
		if !ok || impl.IsIndependent(g, c.k, c.l, c.set) != c.independent || impl.IsCircuit(g, c.k, c.l, c.set) != c.circuit {
			t.Errorf("%v of %q with %d and %d: %v, %v", c.set, c.text, c.k, c.l, impl.IsIndependent(g, c.k, c.l, c.set), impl.IsCircuit(g, c.k, c.l, c.set))
		}
	}
}

func TestCircuitOf(t *testing.T) {
	for _, c := range []struct {
		text      string
		k, l, bar int
		want      []int
	}{
		{"4: 0-1 0-2 0-3 1-2 1-3 2-3", 2, 3, 5, []int{0, 1, 2, 3, 4, 5}},
		{"4: 0-1 0-2 0-3 1-2 1-3 2-3", 1, 1, 3, []int{0, 1, 3}},
		{"4: 0-1 0-2 0-3 1-2 1-3 2-3", 1, 1, 4, []int{0, 2, 4}},
		{"4: 0-1 0-2 0-3 1-2 1-3 2-3", 1, 1, 5, []int{1, 2, 5}},
		{"4: 0-1 0-2 1-2 1-3 2-3", 1, 1, 4, []int{0, 1, 3, 4}},
		{"2: 0-1 0-1 0-1", 2, 3, 1, []int{0, 1}},
		// The bar 1 was rejected, so that it is in no other circuit.
		{"2: 0-1 0-1 0-1", 2, 3, 2, []int{0, 2}},
		{"5: 0-1 0-2 0-3 0-4 1-2 1-3 2-3 2-4 3-4", 2, 3, 6, []int{0, 1, 2, 4, 5, 6}},
		{"5: 0-1 0-2 0-3 0-4 1-2 1-3 2-3 2-4 3-4", 2, 3, 8, []int{0, 1, 2, 3, 4, 5, 7, 8}},
		// An accepted bar behind the rejected one, and one before it that does not matter.
		{"5: 0-4 1-2 1-2 2-3", 2, 3, 2, []int{1, 2}},
		{"5: 0-1 0-2 0-3 1-2 1-3 2-3 3-4", 2, 3, 5, []int{0, 1, 2, 3, 4, 5}},
		// Bars that were accepted.
		{"4: 0-1 0-2 0-3 1-2 1-3 2-3", 2, 3, 0, nil},
		{"4: 0-1 0-2 0-3 1-2 1-3 2-3", 2, 3, 4, nil},
		{"4: 0-1 0-2 0-3 1-2 1-3 2-3", 2, 2, 5, nil},
		{"5: 0-1 0-2 0-3 1-2 1-3 2-3 3-4", 2, 3, 6, nil},
		{"2: 0-1 0-1 0-1", 2, 3, 0, nil},
	} {
		g, ok := impl.ParseGraph(c.text)
		if got, is := impl.CircuitOf(g, c.k, c.l, c.bar); !ok || is != (c.want != nil) || !slices.Equal(got, c.want) {
			t.Errorf("CircuitOf of %q with %d and %d and the bar %d = %v, %v, want %v", c.text, c.k, c.l, c.bar, got, is, c.want)
		}
	}
}

func TestClosureOf(t *testing.T) {
	for _, c := range []struct {
		text string
		k, l int
		set  []int
		want []int
	}{
		{"4: 0-1 0-2 0-3 1-2 1-3 2-3", 2, 3, nil, nil},
		{"4: 0-1 0-2 0-3 1-2 1-3 2-3", 2, 3, []int{2}, []int{2}},
		{"4: 0-1 0-2 0-3 1-2 1-3 2-3", 2, 3, []int{0, 1, 3}, []int{0, 1, 3}},
		{"4: 0-1 0-2 0-3 1-2 1-3 2-3", 2, 3, []int{0, 1, 2, 3, 4}, []int{0, 1, 2, 3, 4, 5}},
		{"4: 0-1 0-2 0-3 1-2 1-3 2-3", 2, 3, []int{0, 1, 2, 4, 5}, []int{0, 1, 2, 3, 4, 5}},
		{"4: 0-1 0-2 0-3 1-2 1-3 2-3", 2, 3, []int{0, 1, 2, 3, 4, 5}, []int{0, 1, 2, 3, 4, 5}},
		{"4: 0-1 0-2 0-3 1-2 1-3 2-3", 1, 1, []int{0, 1}, []int{0, 1, 3}},
		{"4: 0-1 0-2 0-3 1-2 1-3 2-3", 1, 1, []int{0, 5}, []int{0, 5}},
		{"4: 0-1 0-2 0-3 1-2 1-3 2-3", 1, 0, []int{0, 1, 3}, []int{0, 1, 3}},
		{"4: 0-1 0-1 0-1 2-3", 2, 3, []int{1}, []int{0, 1, 2}},
		{"4: 0-1 0-1 0-1 2-3", 2, 3, []int{2, 3}, []int{0, 1, 2, 3}},
		{"4: 0-1 0-1 0-1 2-3", 2, 2, []int{1}, []int{1}},
		// A dependent set without a bar that is in its closure.
		{"5: 0-1 0-2 0-3 0-4 1-2 1-3 2-3 2-4 3-4", 2, 3, []int{0, 1, 2, 3, 4, 5, 7, 8}, []int{0, 1, 2, 3, 4, 5, 6, 7, 8}},
		{"3:", 2, 3, nil, nil},
	} {
		g, ok := impl.ParseGraph(c.text)
		if got := impl.ClosureOf(g, c.k, c.l, c.set); !ok || !slices.Equal(got, c.want) {
			t.Errorf("ClosureOf of %q with %d and %d and %v = %v, want %v", c.text, c.k, c.l, c.set, got, c.want)
		}
	}
}

func TestBridgesOf(t *testing.T) {
	for _, c := range []struct {
		text string
		k, l int
		want []int
	}{
		{"4: 0-1 0-2 0-3 1-2 1-3 2-3", 2, 3, nil},
		{"4: 0-1 0-2 0-3 1-2 1-3 2-3", 2, 2, []int{0, 1, 2, 3, 4, 5}},
		{"4: 0-1 0-2 1-2 1-3 2-3", 2, 3, []int{0, 1, 2, 3, 4}},
		{"5: 0-1 0-2 0-3 1-2 1-3 2-3 3-4", 2, 3, []int{6}},
		{"5: 0-4 1-2 1-3 1-4 2-3 2-4 3-4", 2, 3, []int{0}},
		{"4: 0-1 0-2 1-2 2-3", 1, 1, []int{3}},
		{"4: 0-1 0-2 1-2 2-3", 1, 0, []int{0, 1, 2, 3}},
		{"4: 0-1 0-1 1-2 2-3 2-3", 2, 3, []int{2}},
		{"4: 0-1 0-2 1-2 1-2 2-3 2-3", 2, 3, []int{0, 1}},
		{"1:", 2, 3, nil},
	} {
		g, ok := impl.ParseGraph(c.text)
		if got := impl.BridgesOf(g, c.k, c.l); !ok || !slices.Equal(got, c.want) {
			t.Errorf("BridgesOf of %q with %d and %d = %v, want %v", c.text, c.k, c.l, got, c.want)
		}
	}
}

// checkMatroidOfGraph compares what is asked about all bars with the counts by their definition.
func checkMatroidOfGraph(t *testing.T, g impl.Graph, k, l int) {
	all := allBars(g)
	rank := rankByCount(g, k, l, all)
	if n := impl.RankOf(g, k, l); n != rank {
		t.Fatalf("RankOf(%v, %d, %d) = %d, want %d", g, k, l, n, rank)
	}
	var bridges, accepted []int
	for _, bar := range all {
		if rankByCount(g, k, l, withoutBar(all, bar)) < rank {
			bridges = append(bridges, bar)
		}
		if rankByCount(g, k, l, append(slices.Clone(accepted), bar)) > len(accepted) {
			accepted = append(accepted, bar)
			if c, ok := impl.CircuitOf(g, k, l, bar); ok || len(c) != 0 {
				t.Fatalf("CircuitOf(%v, %d, %d, %d) = %v, %v, but it is accepted", g, k, l, bar, c, ok)
			}
			continue
		}
		var want []int
		for _, other := range accepted {
			if others := withoutBar(accepted, other); rankByCount(g, k, l, append(others, bar)) > len(others) {
				want = append(want, other)
			}
		}
		want = append(want, bar)
		c, ok := impl.CircuitOf(g, k, l, bar)
		if !ok || !slices.Equal(c, want) || !impl.IsCircuit(g, k, l, c) {
			t.Fatalf("CircuitOf(%v, %d, %d, %d) = %v, %v, want %v", g, k, l, bar, c, ok, want)
		}
	}
	if got := impl.BridgesOf(g, k, l); !slices.Equal(got, bridges) {
		t.Fatalf("BridgesOf(%v, %d, %d) = %v, want %v", g, k, l, got, bridges)
	}
	if closure := impl.ClosureOf(g, k, l, accepted); !slices.Equal(closure, all) || !impl.IsIndependent(g, k, l, accepted) {
		t.Fatalf("ClosureOf(%v, %d, %d, %v) = %v", g, k, l, accepted, closure)
	}
}

func TestMatroidOfGraphs(t *testing.T) {
	for _, r := range ranges() {
		for _, g := range append(countGraphs(), smallGraphs()...) {
			checkMatroidOfGraph(t, g, r[0], r[1])
		}
	}
}

// checkMatroidOfSets compares what is asked about every set of bars with the sparse sets, and returns the ranks.
func checkMatroidOfSets(t *testing.T, g impl.Graph, k, l int) []int {
	sparse := sparseSets(g, k, l)
	ranks := make([]int, len(sparse))
	circuits := make([]bool, len(sparse))
	for code := range sparse {
		set := barsOfCode(code, len(g.Bars))
		circuits[code] = !sparse[code]
		for _, bar := range set {
			ranks[code] = max(ranks[code], ranks[code&^(1<<bar)])
			circuits[code] = circuits[code] && sparse[code&^(1<<bar)]
		}
		if sparse[code] {
			ranks[code] = len(set)
		}
	}
	for code := range sparse {
		set := barsOfCode(code, len(g.Bars))
		if n := impl.RankOfSet(g, k, l, set); n != ranks[code] {
			t.Fatalf("RankOfSet(%v, %d, %d, %v) = %d, want %d", g, k, l, set, n, ranks[code])
		}
		if impl.IsIndependent(g, k, l, set) != sparse[code] || impl.IsCircuit(g, k, l, set) != circuits[code] {
			t.Fatalf("%v of %v with %d and %d: independent %v, circuit %v", set, g, k, l, !sparse[code], !circuits[code])
		}
		var closure []int
		for bar := range g.Bars {
			if ranks[code|1<<bar] == ranks[code] {
				closure = append(closure, bar)
			}
		}
		if got := impl.ClosureOf(g, k, l, set); !slices.Equal(got, closure) {
			t.Fatalf("ClosureOf(%v, %d, %d, %v) = %v, want %v", g, k, l, set, got, closure)
		}
	}
	return ranks
}

// The ranks grow by at most one with each bar, and two sets have at least the ranks of what they share and of both together.
func TestRanksAreOfAMatroid(t *testing.T) {
	for _, g := range matroidGraphs() {
		for _, r := range ranges() {
			ranks := checkMatroidOfSets(t, g, r[0], r[1])
			for a := range ranks {
				for b := range ranks {
					if ranks[a]+ranks[b] < ranks[a|b]+ranks[a&b] {
						t.Fatalf("%v with %d and %d: ranks of %b and %b", g, r[0], r[1], a, b)
					}
				}
				for bar := range g.Bars {
					if more := ranks[a|1<<bar] - ranks[a]; more < 0 || more > 1 {
						t.Fatalf("%v with %d and %d: the bar %d adds %d to the rank of %b", g, r[0], r[1], bar, more, a)
					}
				}
			}
		}
	}
}

// The bars between the same points but with other numbers are tried in another order, with the same rank.
func TestRanksDoNotDependOnTheOrder(t *testing.T) {
	for _, g := range countGraphs() {
		turned := impl.Graph{Points: g.Points}
		for _, b := range g.Bars {
			turned, _ = impl.AddBar(turned, g.Points-1-b.A, g.Points-1-b.B)
		}
		for _, r := range ranges() {
			if a, b := impl.RankOf(g, r[0], r[1]), impl.RankOf(turned, r[0], r[1]); a != b {
				t.Errorf("RankOf(%v, %d, %d) = %d, but %d of %v", g, r[0], r[1], a, b, turned)
			}
			if a, b := impl.BridgesOf(g, r[0], r[1]), impl.BridgesOf(turned, r[0], r[1]); len(a) != len(b) {
				t.Errorf("BridgesOf(%v, %d, %d) = %v, but %v of %v", g, r[0], r[1], a, b, turned)
			}
		}
	}
}

// A closure has the rank of its set and is its own closure; a bar that lies in it closes a circuit.
func TestClosuresAndCircuits(t *testing.T) {
	for _, g := range matroidGraphs() {
		for _, r := range ranges() {
			k, l := r[0], r[1]
			for code := range 1 << len(g.Bars) {
				set := barsOfCode(code, len(g.Bars))
				closure := impl.ClosureOf(g, k, l, set)
				if impl.RankOfSet(g, k, l, closure) != impl.RankOfSet(g, k, l, set) || !slices.Equal(impl.ClosureOf(g, k, l, closure), closure) {
					t.Fatalf("ClosureOf(%v, %d, %d, %v) = %v", g, k, l, set, closure)
				}
				if !impl.IsIndependent(g, k, l, set) {
					continue
				}
				for bar := range g.Bars {
					independent := slices.Contains(set, bar) || !slices.Contains(closure, bar)
					if impl.IsIndependent(g, k, l, withBar(set, bar)) != independent {
						t.Fatalf("%v of %v with %d and %d, and the bar %d: %v", set, g, k, l, bar, !independent)
					}
				}
			}
		}
	}
}

// checkNoBarSet expects the fixed results of every function that takes a set of bars.
func checkNoBarSet(t *testing.T, g impl.Graph, k, l int, set []int) {
	if impl.IsIndependent(g, k, l, set) || impl.IsCircuit(g, k, l, set) {
		t.Errorf("%v of %v with %d and %d: independent %v, circuit %v", set, g, k, l, impl.IsIndependent(g, k, l, set), impl.IsCircuit(g, k, l, set))
	}
	if got := impl.ClosureOf(g, k, l, set); len(got) != 0 {
		t.Errorf("ClosureOf(%v, %d, %d, %v) = %v", g, k, l, set, got)
	}
}

func TestNoSetsOfBars(t *testing.T) {
	g := impl.CompleteGraph(4)
	for _, set := range noBarSets() {
		for _, r := range ranges() {
			checkNoBarSet(t, g, r[0], r[1], set)
			var kept []int
			for bar := range g.Bars {
				if slices.Contains(set, bar) {
					kept = append(kept, bar)
				}
			}
			if n := impl.RankOfSet(g, r[0], r[1], set); n != rankByCount(g, r[0], r[1], kept) {
				t.Errorf("RankOfSet(%v, %d, %d, %v) = %d", g, r[0], r[1], set, n)
			}
		}
	}
	for _, r := range ranges() {
		checkNoBarSet(t, graphOf(8), r[0], r[1], []int{0})
		checkNoBarSet(t, manyBars(2, impl.MaxBars), r[0], r[1], []int{impl.MaxBars})
		checkNoBarSet(t, manyBars(2, impl.MaxBars), r[0], r[1], []int{impl.MaxBars - 1, impl.MaxBars})
		if !impl.IsIndependent(manyBars(2, impl.MaxBars), r[0], r[1], []int{impl.MaxBars - 1}) {
			t.Errorf("the bar with the index MaxBars - 1 is not independent with %d and %d", r[0], r[1])
		}
	}
}

// checkInvalidMatroid expects the fixed results for a graph that is not valid or numbers that are no range.
func checkInvalidMatroid(t *testing.T, g impl.Graph, k, l int) {
	if a, b := impl.RankOf(g, k, l), impl.RankOfSet(g, k, l, nil); a != -1 || b != -1 {
		t.Errorf("RankOf(%v, %d, %d) = %d, RankOfSet = %d", g, k, l, a, b)
	}
	for _, set := range [][]int{nil, {0}, {1}, {0, 1}, {0, 1, 3}, {0, 1, 2, 3, 4, 5}, {1, 0}, {-1}} {
		checkNoBarSet(t, g, k, l, set)
		if n := impl.RankOfSet(g, k, l, set); n != -1 {
			t.Errorf("RankOfSet(%v, %d, %d, %v) = %d", g, k, l, set, n)
		}
	}
	if got := impl.BridgesOf(g, k, l); len(got) != 0 {
		t.Errorf("BridgesOf(%v, %d, %d) = %v", g, k, l, got)
	}
	for bar := -1; bar <= 6; bar++ {
		if c, ok := impl.CircuitOf(g, k, l, bar); ok || len(c) != 0 {
			t.Errorf("CircuitOf(%v, %d, %d, %d) = %v, %v", g, k, l, bar, c, ok)
		}
	}
}

func TestMatroidInvalid(t *testing.T) {
	for _, g := range invalidGraphs() {
		for _, r := range append(ranges(), noRanges()...) {
			checkInvalidMatroid(t, g, r[0], r[1])
		}
	}
	for _, g := range countGraphs() {
		for _, r := range noRanges() {
			checkInvalidMatroid(t, g, r[0], r[1])
		}
		for _, r := range ranges() {
			for _, bar := range []int{-1, len(g.Bars), len(g.Bars) + 1, math.MinInt, math.MaxInt} {
				if c, ok := impl.CircuitOf(g, r[0], r[1], bar); ok || len(c) != 0 {
					t.Errorf("CircuitOf(%v, %d, %d, %d) = %v, %v", g, r[0], r[1], bar, c, ok)
				}
			}
		}
	}
}

func TestSetsOfBarsAreNotShared(t *testing.T) {
	g := impl.CompleteGraph(4)
	room := []int{0, 1, 2, 3, 4, 77, 78}
	set := room[:5]
	for range 2 {
		circuit, _ := impl.CircuitOf(g, 2, 3, 5)
		closure := impl.ClosureOf(g, 2, 3, set)
		bridges := impl.BridgesOf(g, 2, 2)
		if len(circuit) != 6 || len(closure) != 6 || len(bridges) != 6 || !impl.IsIndependent(g, 2, 3, set) || impl.IsCircuit(g, 2, 3, set) || impl.RankOfSet(g, 2, 3, set) != 5 {
			t.Error("a call is different:", circuit, closure, bridges)
		}
		for i := range 6 {
			circuit[i], closure[i], bridges[i] = -9, -9, -9
		}
	}
	if !slices.Equal(room, []int{0, 1, 2, 3, 4, 77, 78}) || !sameGraph(g, impl.CompleteGraph(4)) {
		t.Error("an argument was changed:", room, g)
	}
}
