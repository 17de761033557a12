package tests

import (
	"math"
	"slices"
	"testing"

	"loop.example/g02078/impl"
)

// Promise 2, the part on counts: which graphs are sparse, and so which bars the pebble game accepts.

// ranges returns all ranges, written out.
func ranges() [][2]int {
	return [][2]int{
		{1, 0}, {1, 1},
		{2, 0}, {2, 1}, {2, 2}, {2, 3},
		{3, 0}, {3, 1}, {3, 2}, {3, 3}, {3, 4}, {3, 5},
	}
}

// noRanges returns numbers that are no range, among them some whose double or product does not fit into an int.
func noRanges() [][2]int {
	return [][2]int{
		{0, 0}, {0, -1}, {-1, 0}, {-1, -3}, {-2, -5}, {1, -1}, {1, 2}, {1, 3}, {2, -1}, {2, 4}, {2, 5}, {3, -1}, {3, 6}, {3, 7},
		{4, 0}, {4, 3}, {4, 7}, {9, 3}, {3, math.MaxInt}, {3, math.MinInt}, {math.MaxInt, 0}, {math.MinInt, 0},
		{math.MaxInt, math.MaxInt}, {math.MinInt, math.MinInt}, {math.MinInt, -1}, {1 << 62, 3}, {1<<62 + 2, 3}, {1<<63 - 2, 1},
	}
}

// countGraphs are graphs of more points than smallGraphs has, sparse ones and others.
func countGraphs() []impl.Graph {
	return append(validGraphs(),
		graphOf(6, 0, 1, 0, 2, 0, 3, 1, 2, 1, 4, 2, 5, 3, 4, 3, 5, 4, 5),
		graphOf(6, 0, 3, 0, 4, 0, 5, 1, 3, 1, 4, 1, 5, 2, 3, 2, 4, 2, 5),
		graphOf(7, 0, 1, 0, 2, 0, 3, 0, 4, 0, 5, 0, 6, 1, 2, 3, 4, 5, 6),
		graphOf(7, 2, 3, 2, 4, 2, 5, 3, 4, 3, 5, 4, 5, 5, 6),
		graphOf(8, 0, 4, 0, 5, 0, 6, 0, 7, 1, 4, 1, 5, 1, 6, 1, 7, 2, 4, 2, 5, 2, 6, 2, 7, 3, 4, 3, 5, 3, 6, 3, 7),
		graphOf(8, 0, 1, 0, 2, 0, 3, 1, 2, 1, 3, 2, 3, 4, 5, 4, 6, 4, 7, 5, 6, 5, 7, 6, 7),
		graphOf(8, 4, 5, 4, 6, 4, 7, 5, 6, 5, 7, 6, 7),
	)
}

// firstOvercounted goes through the sets by their definition: bit i of the number stands for the point i.
func firstOvercounted(g impl.Graph, k, l int) ([]int, bool) {
	number := 1
	for range g.Points {
		number *= 2
	}
	for code := range number {
		var set []int
		rest := code
		for v := range g.Points {
			if rest%2 == 1 {
				set = append(set, v)
			}
			rest /= 2
		}
		spanned := 0
		for _, b := range g.Bars {
			if slices.Contains(set, b.A) && slices.Contains(set, b.B) {
				spanned++
			}
		}
		if spanned >= 1 && spanned > k*len(set)-l {
			return set, true
		}
	}
	return nil, false
}

// checkCounts compares all functions of the chapter with the definition for one graph and one range.
func checkCounts(t *testing.T, g impl.Graph, k, l int) {
	want, bad := firstOvercounted(g, k, l)
	if set, found := impl.OvercountedSet(g, k, l); found != bad || !slices.Equal(set, want) {
		t.Fatalf("OvercountedSet(%v, %d, %d) = %v, %v, want %v, %v", g, k, l, set, found, want, bad)
	}
	if impl.IsSparse(g, k, l) == bad {
		t.Fatalf("IsSparse(%v, %d, %d) = %v", g, k, l, !bad)
	}
	most := k*g.Points - l
	if most < 0 {
		most = 0
	}
	if tight := !bad && len(g.Bars) == most; impl.IsTight(g, k, l) != tight {
		t.Fatalf("IsTight(%v, %d, %d) = %v", g, k, l, !tight)
	}
	free := most - len(g.Bars)
	if free < 0 {
		free = 0
	}
	if n := impl.CountFreedom(g, k, l); n != free {
		t.Fatalf("CountFreedom(%v, %d, %d) = %d, want %d", g, k, l, n, free)
	}
}

func TestCountsByDefinition(t *testing.T) {
	if slices.ContainsFunc(countGraphs(), func(g impl.Graph) bool { return !impl.IsGraph(g) }) {
		t.Fatal("a graph of this test is not valid")
	}
	for _, r := range ranges() {
		for _, g := range append(countGraphs(), smallGraphs()...) {
			checkCounts(t, g, r[0], r[1])
		}
	}
}

func TestIsRange(t *testing.T) {
	if impl.MaxK != 3 {
		t.Error("MaxK is", impl.MaxK)
	}
	for k := -2; k <= 5; k++ {
		for l := -2; l <= 12; l++ {
			if impl.IsRange(k, l) != slices.Contains(ranges(), [2]int{k, l}) {
				t.Errorf("IsRange(%d, %d) = %v", k, l, impl.IsRange(k, l))
			}
		}
	}
	for _, r := range noRanges() {
		if impl.IsRange(r[0], r[1]) {
			t.Errorf("IsRange(%d, %d) is true", r[0], r[1])
		}
	}
}

func TestSpannedBars(t *testing.T) {
	g := graphOf(4, 0, 1, 0, 1, 1, 2, 2, 3)
	for _, c := range []struct {
		g    impl.Graph
		set  []int
		want []int
	}{
		{g, nil, nil},
		{g, []int{}, nil},
		{g, []int{1}, nil},
		{g, []int{0, 1}, []int{0, 1}},
		{g, []int{1, 0}, []int{0, 1}},
		{g, []int{0, 2}, nil},
		{g, []int{1, 2, 3}, []int{2, 3}},
		{g, []int{3, 1, 2}, []int{2, 3}},
		{g, []int{2, 1, 2, 1}, []int{2}},
		{g, []int{0, 1, 2, 3}, []int{0, 1, 2, 3}},
		{g, []int{-1, 0, 4, 1, math.MinInt, math.MaxInt}, []int{0, 1}},
		{impl.CompleteGraph(4), []int{0, 1, 3}, []int{0, 2, 4}},
		{impl.CompleteGraph(7), []int{5, 6}, []int{20}},
		{graphOf(3), []int{0, 1, 2}, nil},
		{impl.Graph{}, []int{0, 1}, nil},
		// The section states no result of its own for graphs that are not valid.
		{graphOf(-1, 7, 3, 1, 2, 3, 7), []int{3, 7}, []int{0, 2}},
		{graphOf(2, 5, 5, 1, 0), []int{5}, []int{0}},
	} {
		if got := impl.SpannedBars(c.g, c.set); !slices.Equal(got, c.want) {
			t.Errorf("SpannedBars(%v, %v) = %v, want %v", c.g, c.set, got, c.want)
		}
	}
	if got := impl.SpannedBars(manyBars(2, 1000), []int{0, 1}); len(got) != 1000 || !slices.IsSorted(got) || got[0] != 0 || got[999] != 999 {
		t.Error("many bars", got)
	}
}

// The bars that a set spans are those of OnlyBars that have no other ends.
func TestSpannedBarsOfAllSets(t *testing.T) {
	for _, g := range smallGraphs() {
		for code := range 1 << g.Points {
			var set []int
			for v := range g.Points {
				if code>>v&1 == 1 {
					set = append(set, v)
				}
			}
			var want []int
			for i, b := range g.Bars {
				if slices.Contains(set, b.A) && slices.Contains(set, b.B) {
					want = append(want, i)
				}
			}
			if got := impl.SpannedBars(g, set); !slices.Equal(got, want) {
				t.Fatalf("SpannedBars(%v, %v) = %v, want %v", g, set, got, want)
			}
		}
	}
}

func TestSparseAndTight(t *testing.T) {
	for _, c := range []struct {
		text          string
		k, l          int
		sparse, tight bool
	}{
		{"4: 0-1 0-2 0-3 1-2 1-3 2-3", 2, 3, false, false},
		{"4: 0-1 0-2 0-3 1-2 1-3 2-3", 2, 2, true, true},
		{"4: 0-1 0-2 0-3 1-2 1-3 2-3", 2, 0, true, false},
		{"4: 0-1 0-2 1-2 1-3 2-3", 2, 3, true, true},
		{"4: 0-1 0-2 1-2 1-3", 2, 3, true, false},
		// As many bars as a tight graph has, but too many between the same points.
		{"4: 0-1 0-1 0-2 1-2 2-3", 2, 3, false, false},
		{"5: 0-1 0-2 0-3 1-2 1-3 2-3 3-4", 2, 3, false, false},
		{"2: 0-1", 2, 3, true, true},
		{"2: 0-1 0-1", 2, 3, false, false},
		{"2: 0-1 0-1", 2, 2, true, true},
		{"2: 0-1 0-1", 1, 0, true, true},
		{"3: 0-1 1-2", 1, 1, true, true},
		{"3: 0-1 0-2 1-2", 1, 1, false, false},
		{"3: 0-1 0-2 1-2", 1, 0, true, true},
		{"3: 0-1 0-2 1-2", 3, 5, true, false},
		{"3: 0-1 0-1 0-2 1-2", 3, 5, false, false},
		{"3: 0-1 0-1 0-1 1-2 1-2 1-2", 3, 3, true, true},
		{"6: 0-1 0-2 0-3 1-2 1-4 2-5 3-4 3-5 4-5", 2, 3, true, true},
		{"6: 0-3 0-4 0-5 1-3 1-4 1-5 2-3 2-4 2-5", 2, 3, true, true},
		// Two triangles with a point in common, each tight and together loose.
		{"5: 0-1 0-2 1-2 2-3 2-4 3-4", 2, 3, true, false},
	} {
		g, ok := impl.ParseGraph(c.text)
		if !ok || impl.IsSparse(g, c.k, c.l) != c.sparse || impl.IsTight(g, c.k, c.l) != c.tight {
			t.Errorf("%q with %d and %d: sparse %v, tight %v", c.text, c.k, c.l, impl.IsSparse(g, c.k, c.l), impl.IsTight(g, c.k, c.l))
		}
	}
}

func TestOvercountedSet(t *testing.T) {
	for _, c := range []struct {
		text string
		k, l int
		want []int
	}{
		{"4: 0-1 0-2 0-3 1-2 1-3 2-3", 2, 3, []int{0, 1, 2, 3}},
		{"4: 0-1 0-2 0-3 1-2 1-3 2-3", 2, 2, nil},
		{"4: 0-1 0-2 0-3 1-2 1-3 2-3", 1, 1, []int{0, 1, 2}},
		{"4: 0-1 0-2 0-3 1-2 1-3 2-3", 1, 0, []int{0, 1, 2, 3}},
		{"4: 0-1 1-2 1-2 2-3", 2, 3, []int{1, 2}},
		// The number of {0, 1, 2} is 7, that of {0, 3} is 9: the smaller set is not the first one.
		{"4: 0-1 0-2 0-3 0-3 1-2", 1, 1, []int{0, 1, 2}},
		{"4: 0-3 0-3 1-2 1-2", 2, 3, []int{1, 2}},
		{"4: 0-1 0-1 2-3 2-3", 2, 3, []int{0, 1}},
		{"8: 4-5 4-6 4-7 5-6 5-7 6-7", 2, 3, []int{4, 5, 6, 7}},
		{"8: 6-7 6-7 6-7 6-7", 3, 3, []int{6, 7}},
		{"8: 6-7 6-7 6-7", 3, 3, nil},
		{"1:", 2, 3, nil},
		{"8:", 3, 5, nil},
	} {
		g, ok := impl.ParseGraph(c.text)
		if set, bad := impl.OvercountedSet(g, c.k, c.l); !ok || bad != (c.want != nil) || !slices.Equal(set, c.want) {
			t.Errorf("OvercountedSet of %q with %d and %d = %v, %v, want %v", c.text, c.k, c.l, set, bad, c.want)
		}
	}
}

func TestCountFreedom(t *testing.T) {
	for _, c := range []struct {
		text       string
		k, l, want int
	}{
		{"3: 0-1", 2, 3, 2},
		{"3: 0-1 0-2 1-2", 2, 3, 0},
		{"4: 0-1 0-2 0-3 1-2 1-3 2-3", 2, 3, 0},
		{"4: 0-1 0-2 0-3 1-2 1-3 2-3", 2, 0, 2},
		{"4: 0-1 0-2 0-3 1-2 1-3 2-3", 3, 0, 6},
		// Bars count even where they are too many for their points.
		{"3: 0-1 0-1 0-1", 2, 3, 0},
		{"3: 0-1 0-1", 2, 3, 1},
		{"1:", 2, 3, 0},
		{"1:", 2, 2, 0},
		{"1:", 2, 1, 1},
		{"1:", 3, 5, 0},
		{"8:", 3, 0, 24},
		{"8:", 2, 3, 13},
	} {
		g, ok := impl.ParseGraph(c.text)
		if n := impl.CountFreedom(g, c.k, c.l); !ok || n != c.want {
			t.Errorf("CountFreedom of %q with %d and %d = %d, want %d", c.text, c.k, c.l, n, c.want)
		}
	}
}

// A graph without bars is sparse for every range, also where k times the size of a set minus l is negative.
func TestCountsWithoutBars(t *testing.T) {
	for _, r := range ranges() {
		for points := 1; points <= impl.MaxPoints; points++ {
			g, k, l := graphOf(points), r[0], r[1]
			if set, bad := impl.OvercountedSet(g, k, l); bad || len(set) != 0 || !impl.IsSparse(g, k, l) {
				t.Errorf("%v with %d and %d: overcounted %v, %v", g, k, l, set, bad)
			}
			if impl.IsTight(g, k, l) != (k*points <= l) {
				t.Errorf("IsTight(%v, %d, %d) = %v", g, k, l, impl.IsTight(g, k, l))
			}
			if n := impl.CountFreedom(g, k, l); n != max(0, k*points-l) {
				t.Errorf("CountFreedom(%v, %d, %d) = %d", g, k, l, n)
			}
			if len(impl.SpannedBars(g, []int{0, 1, 2, 3, 4, 5, 6, 7})) != 0 {
				t.Errorf("%v spans bars", g)
			}
		}
	}
}

func checkInvalidCounts(t *testing.T, g impl.Graph, k, l int) {
	if impl.IsSparse(g, k, l) || impl.IsTight(g, k, l) {
		t.Errorf("%v with %d and %d: sparse %v, tight %v", g, k, l, impl.IsSparse(g, k, l), impl.IsTight(g, k, l))
	}
	if set, bad := impl.OvercountedSet(g, k, l); bad || len(set) != 0 {
		t.Errorf("OvercountedSet(%v, %d, %d) = %v, %v", g, k, l, set, bad)
	}
	if n := impl.CountFreedom(g, k, l); n != -1 {
		t.Errorf("CountFreedom(%v, %d, %d) = %d, want -1", g, k, l, n)
	}
}

func TestCountsInvalid(t *testing.T) {
	for _, g := range invalidGraphs() {
		for _, r := range append(ranges(), noRanges()...) {
			checkInvalidCounts(t, g, r[0], r[1])
		}
	}
	for _, g := range append(countGraphs(), graphOf(1), graphOf(8)) {
		for _, r := range noRanges() {
			checkInvalidCounts(t, g, r[0], r[1])
		}
	}
}

// For each range the sparse sets of bars are the independent ones of a matroid: all that cannot be enlarged have the same size.
func TestSparseSetsAreOfAMatroid(t *testing.T) {
	for _, g := range []impl.Graph{
		graphOf(4, 0, 1, 0, 1, 0, 1, 0, 2, 1, 2, 1, 3, 2, 3, 2, 3), impl.CompleteGraph(4),
		graphOf(5, 0, 1, 0, 2, 0, 3, 1, 2, 1, 3, 2, 3, 2, 4, 3, 4),
	} {
		for _, r := range ranges() {
			sparse := sparseSets(g, r[0], r[1])
			rank := -1
			for code := range sparse {
				if !sparse[code] || canEnlarge(sparse, code, len(g.Bars)) {
					continue
				}
				size := len(barsOfCode(code, len(g.Bars)))
				if rank >= 0 && size != rank {
					t.Fatalf("%v with %d and %d has largest sparse sets of %d and %d bars", g, r[0], r[1], rank, size)
				}
				rank = size
			}
		}
	}
}

func barsOfCode(code, bars int) []int {
	var out []int
	for i := range bars {
		if code>>i&1 == 1 {
			out = append(out, i)
		}
	}
	return out
}

func sparseSets(g impl.Graph, k, l int) []bool {
	sparse := make([]bool, 1<<len(g.Bars))
	for code := range sparse {
		sparse[code] = impl.IsSparse(impl.OnlyBars(g, barsOfCode(code, len(g.Bars))), k, l)
	}
	return sparse
}

func canEnlarge(sparse []bool, code, bars int) bool {
	for i := range bars {
		if code>>i&1 == 0 && sparse[code|1<<i] {
			return true
		}
	}
	return false
}

func TestCountsAreNotShared(t *testing.T) {
	room := []int{3, 1, 1, 0, 55, 56}
	g := graphOf(4, 0, 1, 0, 1, 1, 2, 2, 3)
	before := slices.Clone(g.Bars)
	got := impl.SpannedBars(g, room[:4])
	for i := range got {
		got[i] = -9
	}
	set, _ := impl.OvercountedSet(g, 2, 3)
	for i := range set {
		set[i] = -9
	}
	if !slices.Equal(room, []int{3, 1, 1, 0, 55, 56}) || !slices.Equal(g.Bars, before) {
		t.Error("an argument was changed:", room, g)
	}
	if again, _ := impl.OvercountedSet(g, 2, 3); !slices.Equal(again, []int{0, 1}) {
		t.Error("a second call is different:", again)
	}
}
