package tests

import (
	"math"
	"slices"
	"testing"

	"loop.example/g02078/impl"
)

// Promise 2, the part on the pebble game: it accepts all bars exactly if the graph is sparse.

func pebblesOf(free, tails, placed []int) impl.Pebbles {
	return impl.Pebbles{Free: free, Tails: tails, Placed: placed}
}

func samePebbles(a, b impl.Pebbles) bool {
	return slices.Equal(a.Free, b.Free) && slices.Equal(a.Tails, b.Tails) && slices.Equal(a.Placed, b.Placed)
}

func clonePebbles(p impl.Pebbles) impl.Pebbles {
	return pebblesOf(slices.Clone(p.Free), slices.Clone(p.Tails), slices.Clone(p.Placed))
}

// pebbleStates returns all valid states of the game: all sets of bars with all ends as tails, as far as the pebbles last.
func pebbleStates(g impl.Graph, k int) []impl.Pebbles {
	start := impl.Pebbles{}
	for range g.Points {
		start.Free = append(start.Free, k)
	}
	out := []impl.Pebbles{start}
	for i, b := range g.Bars {
		for _, p := range slices.Clone(out) {
			for _, v := range []int{b.A, b.B} {
				if p.Free[v] == 0 {
					continue
				}
				q := clonePebbles(p)
				q.Free[v]--
				q.Tails = append(q.Tails, v)
				q.Placed = append(q.Placed, i)
				out = append(out, q)
			}
		}
	}
	return out
}

// pebbleGraphs have at most 7 bars, so that all their states can be tried.
func pebbleGraphs() []impl.Graph {
	return []impl.Graph{
		graphOf(1), graphOf(2), graphOf(2, 0, 1), graphOf(2, 0, 1, 0, 1, 0, 1), graphOf(3, 0, 1, 0, 2, 1, 2), graphOf(3, 0, 1, 0, 1, 0, 2, 1, 2, 1, 2),
		graphOf(4, 0, 1, 1, 2, 2, 3), graphOf(4, 0, 2, 0, 3, 1, 2, 1, 3), impl.CompleteGraph(4),
		graphOf(5, 0, 1, 0, 2, 1, 2, 2, 3, 2, 4, 3, 4), graphOf(6, 0, 3, 0, 4, 1, 3, 1, 5, 2, 4, 2, 5),
		graphOf(8, 0, 7, 1, 6, 2, 5, 3, 4, 4, 7, 5, 7, 6, 7),
	}
}

// pathToPebble lists all paths from a point over bars that lead away from their tails, shortest ones first
// and then by the positions of their bars in Placed, and returns the first one that ends at a free pebble.
func pathToPebble(g impl.Graph, p impl.Pebbles, from, kept int) (path []int, end int, ok bool) {
	type walk struct {
		bars []int
		end  int
	}
	walks := []walk{{nil, from}}
	for range g.Points {
		var longer []walk
		for _, w := range walks {
			if w.end != from && w.end != kept && p.Free[w.end] > 0 {
				return w.bars, w.end, true
			}
			for j, bar := range p.Placed {
				b := g.Bars[bar]
				if p.Tails[j] == w.end {
					longer = append(longer, walk{append(slices.Clone(w.bars), j), b.A + b.B - w.end})
				}
			}
		}
		walks = longer
		// Of two paths of the same length to the same point a search by breadth keeps the first one.
		seen := map[int]bool{}
		walks = slices.DeleteFunc(walks, func(w walk) bool {
			again := seen[w.end]
			seen[w.end] = true
			return again
		})
	}
	return nil, 0, false
}

// gatherByDefinition moves one pebble at a time, first to a and then to b.
func gatherByDefinition(g impl.Graph, p impl.Pebbles, a, b, want int) (impl.Pebbles, bool) {
	out := clonePebbles(p)
	for out.Free[a]+out.Free[b] < want {
		to := a
		path, end, ok := pathToPebble(g, out, a, b)
		if !ok {
			to = b
			path, end, ok = pathToPebble(g, out, b, a)
		}
		if !ok {
			return p, false
		}
		for _, j := range path {
			bar := g.Bars[out.Placed[j]]
			out.Tails[j] = bar.A + bar.B - out.Tails[j]
		}
		out.Free[to]++
		out.Free[end]--
	}
	return out, true
}

// canGather says by counting whether so many pebbles can be gathered: no set with both points may lack them.
func canGather(g impl.Graph, k int, p impl.Pebbles, a, b, want int) bool {
	for code := range 1 << g.Points {
		if code>>a&1 == 0 || code>>b&1 == 0 {
			continue
		}
		room := 0
		for v := range g.Points {
			room += k * (code >> v & 1)
		}
		for _, bar := range p.Placed {
			room -= code >> g.Bars[bar].A & 1 * (code >> g.Bars[bar].B & 1)
		}
		if room < want {
			return false
		}
	}
	return true
}

func TestNewPebbles(t *testing.T) {
	for _, g := range countGraphs() {
		for k := 1; k <= impl.MaxK; k++ {
			p, ok := impl.NewPebbles(g, k)
			if !ok || len(p.Free) != g.Points || len(p.Tails) != 0 || len(p.Placed) != 0 || !impl.IsPebbles(g, k, p) || impl.FreePebbles(p) != k*g.Points {
				t.Errorf("NewPebbles(%v, %d) = %v, %v", g, k, p, ok)
			}
			if slices.ContainsFunc(p.Free, func(n int) bool { return n != k }) {
				t.Errorf("NewPebbles(%v, %d) = %v", g, k, p)
			}
		}
		for _, k := range []int{0, -1, impl.MaxK + 1, math.MinInt, math.MaxInt} {
			if p, ok := impl.NewPebbles(g, k); ok || !samePebbles(p, impl.Pebbles{}) {
				t.Errorf("NewPebbles(%v, %d) = %v, %v", g, k, p, ok)
			}
		}
	}
	for _, g := range invalidGraphs() {
		for k := -1; k <= impl.MaxK+1; k++ {
			if p, ok := impl.NewPebbles(g, k); ok || !samePebbles(p, impl.Pebbles{}) {
				t.Errorf("NewPebbles(%v, %d) = %v, %v", g, k, p, ok)
			}
		}
	}
}

// wrongPebbles are states that are not valid for the graph 4: 0-1 0-1 1-2 2-3 with two pebbles at each point.
func wrongPebbles() []impl.Pebbles {
	return []impl.Pebbles{
		{},
		pebblesOf([]int{2, 2, 2}, nil, nil),
		pebblesOf([]int{2, 2, 2, 2, 2}, nil, nil),
		pebblesOf([]int{2, 2, 2, 2, 0}, nil, nil),
		pebblesOf([]int{1, 2, 2, 2}, nil, nil),
		pebblesOf([]int{2, 2, 2, 3}, nil, nil),
		pebblesOf([]int{-2, 2, 2, 2}, nil, nil),
		pebblesOf([]int{2, 2, 2, 2}, []int{0}, []int{0}),
		pebblesOf([]int{1, 2, 2, 2}, []int{0}, nil),
		pebblesOf([]int{2, 2, 2, 2}, nil, []int{0}),
		pebblesOf([]int{2, 2, 2, 2}, []int{0}, nil),
		pebblesOf([]int{1, 2, 2, 2}, []int{0}, []int{0, 1}),
		pebblesOf([]int{1, 2, 2, 2}, []int{0, 0}, []int{0}),
		// A tail that is no end of its bar.
		pebblesOf([]int{2, 2, 1, 2}, []int{2}, []int{0}),
		pebblesOf([]int{2, 2, 2, 2}, []int{4}, []int{0}),
		pebblesOf([]int{2, 2, 2, 2}, []int{-1}, []int{0}),
		pebblesOf([]int{2, 2, 2, 2}, []int{math.MaxInt}, []int{0}),
		// No bars, or not in strictly ascending order.
		pebblesOf([]int{1, 2, 2, 2}, []int{0}, []int{-1}),
		pebblesOf([]int{2, 2, 2, 1}, []int{3}, []int{4}),
		pebblesOf([]int{2, 2, 2, 1}, []int{3}, []int{math.MaxInt}),
		pebblesOf([]int{2, 2, 1, 2}, []int{2}, []int{math.MinInt}),
		pebblesOf([]int{0, 2, 2, 2}, []int{0, 0}, []int{0, 0}),
		pebblesOf([]int{0, 2, 2, 2}, []int{0, 0}, []int{1, 0}),
		pebblesOf([]int{1, 2, 1, 2}, []int{2, 0}, []int{2, 1}),
		// More tails than pebbles.
		pebblesOf([]int{2, -1, 2, 2}, []int{1, 1, 1}, []int{0, 1, 2}),
		pebblesOf([]int{2, 0, 2, 2}, []int{1, 1, 1}, []int{0, 1, 2}),
		pebblesOf([]int{math.MinInt, 2, 2, math.MaxInt}, nil, nil),
		pebblesOf(make([]int, 1000), make([]int, 1000), make([]int, 1000)),
	}
}

func TestIsPebbles(t *testing.T) {
	g := graphOf(4, 0, 1, 0, 1, 1, 2, 2, 3)
	for _, p := range []impl.Pebbles{
		pebblesOf([]int{2, 2, 2, 2}, nil, nil),
		pebblesOf([]int{2, 2, 2, 2}, []int{}, []int{}),
		pebblesOf([]int{1, 2, 2, 2}, []int{0}, []int{0}),
		pebblesOf([]int{2, 1, 2, 2}, []int{1}, []int{0}),
		pebblesOf([]int{0, 2, 2, 2}, []int{0, 0}, []int{0, 1}),
		pebblesOf([]int{1, 1, 1, 1}, []int{0, 1, 2, 3}, []int{0, 1, 2, 3}),
		pebblesOf([]int{2, 1, 1, 2}, []int{1, 2}, []int{0, 3}),
	} {
		if !impl.IsPebbles(g, 2, p) {
			t.Errorf("IsPebbles(%v, 2, %v) is false", g, p)
		}
		for _, k := range []int{1, 3, 0, -1, 4, math.MaxInt, math.MinInt} {
			if impl.IsPebbles(g, k, p) {
				t.Errorf("IsPebbles(%v, %d, %v) is true", g, k, p)
			}
		}
		for _, wrong := range invalidGraphs() {
			if impl.IsPebbles(wrong, 2, p) {
				t.Errorf("IsPebbles(%v, 2, %v) is true", wrong, p)
			}
		}
	}
	for _, p := range wrongPebbles() {
		if impl.IsPebbles(g, 2, p) {
			t.Errorf("IsPebbles(%v, 2, %v) is true", g, p)
		}
	}
	if impl.IsPebbles(graphOf(2, 0, 1), 4, pebblesOf([]int{4, 4}, nil, nil)) || impl.IsPebbles(graphOf(2, 0, 1), 0, pebblesOf([]int{0, 0}, nil, nil)) {
		t.Error("numbers of pebbles that are no k")
	}
	for _, wrong := range invalidGraphs() {
		free := make([]int, max(0, min(wrong.Points, 20)))
		for i := range free {
			free[i] = 2
		}
		if impl.IsPebbles(wrong, 2, pebblesOf(free, nil, nil)) {
			t.Errorf("IsPebbles(%v, 2, %v) is true", wrong, free)
		}
	}
}

func TestGatherPebbles(t *testing.T) {
	k4 := impl.CompleteGraph(4)
	path := graphOf(4, 0, 1, 1, 2, 2, 3)
	for _, c := range []struct {
		name       string
		g          impl.Graph
		k          int
		p          impl.Pebbles
		a, b, want int
		after      impl.Pebbles
		ok         bool
	}{
		{"one bar is turned", k4, 2, pebblesOf([]int{1, 2, 2, 2}, []int{0}, []int{0}), 0, 2, 4, pebblesOf([]int{2, 1, 2, 2}, []int{1}, []int{0}), true},
		{"enough already", k4, 2, pebblesOf([]int{1, 2, 2, 2}, []int{0}, []int{0}), 0, 2, 3, pebblesOf([]int{1, 2, 2, 2}, []int{0}, []int{0}), true},
		{"the other end of the only bar is kept", k4, 2, pebblesOf([]int{1, 2, 2, 2}, []int{0}, []int{0}), 0, 1, 4, pebblesOf([]int{1, 2, 2, 2}, []int{0}, []int{0}), false},
		{"none is asked for", k4, 2, pebblesOf([]int{2, 2, 2, 2}, nil, nil), 3, 1, 0, pebblesOf([]int{2, 2, 2, 2}, nil, nil), true},
		{"a whole path is turned", path, 1, pebblesOf([]int{0, 0, 0, 1}, []int{0, 1, 2}, []int{0, 1, 2}), 0, 1, 1, pebblesOf([]int{1, 0, 0, 0}, []int{1, 2, 3}, []int{0, 1, 2}), true},
		{"nothing is left for a second pebble", path, 1, pebblesOf([]int{0, 0, 0, 1}, []int{0, 1, 2}, []int{0, 1, 2}), 0, 1, 2, pebblesOf([]int{0, 0, 0, 1}, []int{0, 1, 2}, []int{0, 1, 2}), false},
		{"the search from a passes b", path, 1, pebblesOf([]int{0, 0, 1, 1}, []int{0, 1}, []int{0, 1}), 0, 1, 1, pebblesOf([]int{1, 0, 0, 1}, []int{1, 2}, []int{0, 1}), true},
		{"and not where a is nearer to a pebble", path, 1, pebblesOf([]int{0, 0, 1, 1}, []int{0, 1}, []int{0, 1}), 1, 0, 1, pebblesOf([]int{0, 1, 0, 1}, []int{0, 2}, []int{0, 1}), true},
		{"b alone has enough", path, 1, pebblesOf([]int{1, 0, 0, 1}, []int{1, 2}, []int{0, 2}), 2, 3, 1, pebblesOf([]int{1, 0, 0, 1}, []int{1, 2}, []int{0, 2}), true},
		{"one to a and one to b", path, 1, pebblesOf([]int{1, 0, 1, 0}, []int{1, 3}, []int{0, 2}), 1, 3, 2, pebblesOf([]int{0, 1, 0, 1}, []int{0, 2}, []int{0, 2}), true},
		{"to b only", path, 1, pebblesOf([]int{1, 1, 1, 0}, []int{3}, []int{2}), 0, 3, 2, pebblesOf([]int{1, 1, 0, 1}, []int{2}, []int{2}), true},
		{"the first bar of those placed", graphOf(3, 0, 1, 0, 2), 2, pebblesOf([]int{0, 2, 2}, []int{0, 0}, []int{0, 1}), 0, 2, 3, pebblesOf([]int{1, 1, 2}, []int{1, 0}, []int{0, 1}), true},
		{"a near pebble before a far one", graphOf(4, 0, 1, 0, 3, 1, 2), 1, pebblesOf([]int{0, 0, 1, 1}, []int{0, 1}, []int{1, 2}), 0, 1, 1, pebblesOf([]int{1, 0, 1, 0}, []int{3, 1}, []int{1, 2}), true},
		{"the pebble of b stays where it is", graphOf(3, 0, 1, 0, 2), 1, pebblesOf([]int{0, 1, 1}, []int{0}, []int{1}), 0, 1, 2, pebblesOf([]int{1, 1, 0}, []int{2}, []int{1}), true},
		{"a failure takes back what was moved", graphOf(3, 0, 1, 0, 1, 0, 2), 2, pebblesOf([]int{0, 1, 2}, []int{0, 1, 0}, []int{0, 1, 2}), 0, 1, 4, pebblesOf([]int{0, 1, 2}, []int{0, 1, 0}, []int{0, 1, 2}), false},
	} {
		if !impl.IsPebbles(c.g, c.k, c.p) {
			t.Fatal(c.name, "is no state")
		}
		got, ok := impl.GatherPebbles(c.g, c.k, c.p, c.a, c.b, c.want)
		if ok != c.ok || !samePebbles(got, c.after) {
			t.Errorf("%s: GatherPebbles(%v, %d, %v, %d, %d, %d) = %v, %v, want %v, %v", c.name, c.g, c.k, c.p, c.a, c.b, c.want, got, ok, c.after, c.ok)
		}
	}
}

// All states of small graphs, against the moves by their definition and against the count of the bars around a and b.
func TestGatherPebblesOfAllStates(t *testing.T) {
	for _, g := range pebbleGraphs() {
		for k := 1; k <= impl.MaxK; k++ {
			for _, p := range pebbleStates(g, k) {
				if !impl.IsPebbles(g, k, p) {
					t.Fatalf("IsPebbles(%v, %d, %v) is false", g, k, p)
				}
				for a := range g.Points {
					for b := range g.Points {
						if a != b {
							checkGather(t, g, k, p, a, b)
						}
					}
				}
			}
		}
	}
}

func checkGather(t *testing.T, g impl.Graph, k int, p impl.Pebbles, a, b int) {
	for want := range 2*k + 1 {
		got, ok := impl.GatherPebbles(g, k, p, a, b, want)
		after, can := gatherByDefinition(g, p, a, b, want)
		if ok != can || !samePebbles(got, after) {
			t.Fatalf("GatherPebbles(%v, %d, %v, %d, %d, %d) = %v, %v, want %v, %v", g, k, p, a, b, want, got, ok, after, can)
		}
		if ok != canGather(g, k, p, a, b, want) {
			t.Fatalf("GatherPebbles(%v, %d, %v, %d, %d, %d): %v", g, k, p, a, b, want, ok)
		}
		if !impl.IsPebbles(g, k, got) || !slices.Equal(got.Placed, p.Placed) || ok && got.Free[a]+got.Free[b] != max(want, p.Free[a]+p.Free[b]) {
			t.Fatalf("GatherPebbles(%v, %d, %v, %d, %d, %d) = %v", g, k, p, a, b, want, got)
		}
	}
}

// checkUnchanged expects the state as it was and false, in memory of its own.
func checkUnchanged(t *testing.T, name string, p, got impl.Pebbles, ok bool) {
	if ok || !samePebbles(got, p) {
		t.Errorf("%s of %v = %v, %v", name, p, got, ok)
	}
	before := clonePebbles(p)
	for _, l := range [][]int{got.Free, got.Tails, got.Placed} {
		for i := range l {
			l[i]++
		}
	}
	if !samePebbles(p, before) {
		t.Errorf("%s of %v shares memory with it", name, before)
	}
}

func TestGatherPebblesInvalid(t *testing.T) {
	g := graphOf(4, 0, 1, 0, 1, 1, 2, 2, 3)
	p := pebblesOf([]int{1, 1, 2, 2}, []int{0, 1}, []int{0, 2})
	for _, c := range []struct{ k, a, b, want int }{
		{2, 0, 0, 1}, {2, 3, 3, 0}, {2, -1, 0, 1}, {2, 0, -1, 1}, {2, 4, 0, 1}, {2, 0, 4, 1}, {2, 4, 5, 0}, {2, -1, -1, 0}, {2, math.MinInt, math.MaxInt, 0},
		{2, 0, 1, -1}, {2, 0, 1, 5}, {2, 0, 1, math.MaxInt}, {2, 0, 1, math.MinInt},
		{1, 0, 1, 0}, {3, 0, 1, 0}, {0, 0, 1, 0}, {-1, 0, 1, 0}, {4, 0, 1, 0}, {math.MaxInt, 0, 1, 0}, {math.MinInt, 0, 1, 0},
	} {
		got, ok := impl.GatherPebbles(g, c.k, p, c.a, c.b, c.want)
		checkUnchanged(t, "GatherPebbles", p, got, ok)
	}
	for _, wrong := range wrongPebbles() {
		for want := range 5 {
			got, ok := impl.GatherPebbles(g, 2, wrong, 0, 1, want)
			checkUnchanged(t, "GatherPebbles", wrong, got, ok)
		}
	}
	for _, wrong := range invalidGraphs() {
		got, ok := impl.GatherPebbles(wrong, 2, p, 0, 1, 0)
		checkUnchanged(t, "GatherPebbles", p, got, ok)
		got, ok = impl.GatherPebbles(wrong, 2, pebblesOf([]int{2, 2}, nil, nil), 0, 1, 0)
		checkUnchanged(t, "GatherPebbles", pebblesOf([]int{2, 2}, nil, nil), got, ok)
	}
}

func TestPlaceBar(t *testing.T) {
	k4 := impl.CompleteGraph(4)
	pair := graphOf(2, 0, 1, 0, 1, 0, 1)
	for _, c := range []struct {
		name   string
		g      impl.Graph
		k, l   int
		p      impl.Pebbles
		bar    int
		after  impl.Pebbles
		placed bool
	}{
		{"the first bar", k4, 2, 3, pebblesOf([]int{2, 2, 2, 2}, nil, nil), 0, pebblesOf([]int{1, 2, 2, 2}, []int{0}, []int{0}), true},
		{"behind one that is left out", k4, 2, 3, pebblesOf([]int{1, 2, 2, 2}, []int{0}, []int{0}), 3, pebblesOf([]int{1, 1, 2, 2}, []int{0, 1}, []int{0, 3}), true},
		{"the same again", k4, 2, 3, pebblesOf([]int{1, 2, 2, 2}, []int{0}, []int{0}), 0, pebblesOf([]int{1, 2, 2, 2}, []int{0}, []int{0}), false},
		{"before the last one", k4, 2, 3, pebblesOf([]int{1, 2, 2, 2}, []int{0}, []int{2}), 1, pebblesOf([]int{1, 2, 2, 2}, []int{0}, []int{2}), false},
		{"B if A has no free pebble", pair, 1, 0, pebblesOf([]int{0, 1}, []int{0}, []int{0}), 1, pebblesOf([]int{0, 0}, []int{0, 1}, []int{0, 1}), true},
		{"no pebble is left", pair, 1, 0, pebblesOf([]int{0, 0}, []int{0, 1}, []int{0, 1}), 2, pebblesOf([]int{0, 0}, []int{0, 1}, []int{0, 1}), false},
		{"a second bar in the plane", pair, 2, 3, pebblesOf([]int{1, 2}, []int{0}, []int{0}), 1, pebblesOf([]int{1, 2}, []int{0}, []int{0}), false},
		{"a second bar where it counts less", pair, 2, 2, pebblesOf([]int{1, 2}, []int{0}, []int{0}), 1, pebblesOf([]int{0, 2}, []int{0, 0}, []int{0, 1}), true},
		{"gathering turns a bar first", k4, 2, 3, pebblesOf([]int{1, 2, 2, 2}, []int{0}, []int{0}), 1, pebblesOf([]int{1, 1, 2, 2}, []int{1, 0}, []int{0, 1}), true},
	} {
		got, ok := impl.PlaceBar(c.g, c.k, c.l, c.p, c.bar)
		if ok != c.placed || !samePebbles(got, c.after) {
			t.Errorf("%s: PlaceBar(%v, %d, %d, %v, %d) = %v, %v, want %v, %v", c.name, c.g, c.k, c.l, c.p, c.bar, got, ok, c.after, c.placed)
		}
	}
}

// Where both ends have all their pebbles, every range lets the bar be placed and nothing is moved.
func TestBarWhoseEndsHaveAllPebbles(t *testing.T) {
	g := graphOf(5, 0, 1, 0, 2, 1, 2, 3, 4)
	for _, r := range ranges() {
		k, l := r[0], r[1]
		p, _ := impl.NewPebbles(g, k)
		if p0, ok := impl.PlaceBar(g, k, l, p, 0); !ok || p0.Free[0] != k-1 || p0.Free[1] != k || !slices.Equal(p0.Tails, []int{0}) || !slices.Equal(p0.Placed, []int{0}) {
			t.Errorf("first bar with %d and %d: %v, %v", k, l, p0, ok)
		}
		for bar := range 3 {
			p, _ = impl.PlaceBar(g, k, l, p, bar)
		}
		for want := range 2*k + 1 {
			if got, ok := impl.GatherPebbles(g, k, p, 4, 3, want); !ok || !samePebbles(got, p) {
				t.Errorf("gathering %d with %d and %d: %v became %v, %v", want, k, l, p, got, ok)
			}
		}
		after, ok := impl.PlaceBar(g, k, l, p, 3)
		want := clonePebbles(p)
		want.Free[3]--
		want.Tails = append(want.Tails, 3)
		want.Placed = append(want.Placed, 3)
		if !ok || !samePebbles(after, want) {
			t.Errorf("last bar with %d and %d: %v became %v, %v", k, l, p, after, ok)
		}
	}
}

// All states of small graphs: a bar is placed after gathering l + 1 pebbles at its ends, or not at all.
func TestPlaceBarOfAllStates(t *testing.T) {
	for _, g := range pebbleGraphs() {
		for _, r := range ranges() {
			k, l := r[0], r[1]
			for _, p := range pebbleStates(g, k) {
				for bar, b := range g.Bars {
					want, can := gatherByDefinition(g, p, b.A, b.B, l+1)
					can = can && (len(p.Placed) == 0 || p.Placed[len(p.Placed)-1] < bar)
					if can {
						tail := b.B
						if want.Free[b.A] > 0 {
							tail = b.A
						}
						want.Free[tail]--
						want.Tails, want.Placed = append(want.Tails, tail), append(want.Placed, bar)
					} else {
						want = p
					}
					got, ok := impl.PlaceBar(g, k, l, p, bar)
					if ok != can || !samePebbles(got, want) || !impl.IsPebbles(g, k, got) {
						t.Fatalf("PlaceBar(%v, %d, %d, %v, %d) = %v, %v, want %v, %v", g, k, l, p, bar, got, ok, want, can)
					}
				}
			}
		}
	}
}

func TestPlaceBarInvalid(t *testing.T) {
	g := graphOf(4, 0, 1, 0, 1, 1, 2, 2, 3)
	p := pebblesOf([]int{1, 2, 2, 2}, []int{0}, []int{0})
	for _, bar := range []int{-1, 4, 5, math.MinInt, math.MaxInt} {
		for _, state := range []impl.Pebbles{p, pebblesOf([]int{2, 2, 2, 2}, nil, nil)} {
			got, ok := impl.PlaceBar(g, 2, 0, state, bar)
			checkUnchanged(t, "PlaceBar", state, got, ok)
		}
	}
	for _, r := range append(noRanges(), [2]int{1, 0}, [2]int{3, 3}) {
		got, ok := impl.PlaceBar(g, r[0], r[1], p, 3)
		checkUnchanged(t, "PlaceBar", p, got, ok)
	}
	for _, wrong := range wrongPebbles() {
		for bar := range 4 {
			got, ok := impl.PlaceBar(g, 2, 0, wrong, bar)
			checkUnchanged(t, "PlaceBar", wrong, got, ok)
		}
	}
	for _, wrong := range invalidGraphs() {
		got, ok := impl.PlaceBar(wrong, 2, 0, pebblesOf([]int{2, 2}, nil, nil), 0)
		checkUnchanged(t, "PlaceBar", pebblesOf([]int{2, 2}, nil, nil), got, ok)
		got, ok = impl.PlaceBar(wrong, 2, 0, p, 3)
		checkUnchanged(t, "PlaceBar", p, got, ok)
	}
}

// checkRun compares RunPebbles with bars that are placed one by one, and with the counts by their definition.
func checkRun(t *testing.T, g impl.Graph, k, l int) {
	p, ok := impl.RunPebbles(g, k, l)
	step, _ := impl.NewPebbles(g, k)
	var accepted, rejected []int
	for bar := range g.Bars {
		_, bad := firstOvercounted(impl.OnlyBars(g, append(slices.Clone(accepted), bar)), k, l)
		next, placed := impl.PlaceBar(g, k, l, step, bar)
		if placed == bad {
			t.Fatalf("PlaceBar(%v, %d, %d, %v, %d): %v, but the count says %v", g, k, l, step, bar, placed, !bad)
		}
		step = next
		if bad {
			rejected = append(rejected, bar)
		} else {
			accepted = append(accepted, bar)
		}
	}
	if !ok || !samePebbles(p, step) || !impl.IsPebbles(g, k, p) || !slices.Equal(p.Placed, accepted) {
		t.Fatalf("RunPebbles(%v, %d, %d) = %v, %v, want %v", g, k, l, p, ok, step)
	}
	if got := impl.AcceptedBars(g, k, l); !slices.Equal(got, accepted) {
		t.Fatalf("AcceptedBars(%v, %d, %d) = %v, want %v", g, k, l, got, accepted)
	}
	if got := impl.RejectedBars(g, k, l); !slices.Equal(got, rejected) {
		t.Fatalf("RejectedBars(%v, %d, %d) = %v, want %v", g, k, l, got, rejected)
	}
	if sparse := impl.IsSparse(g, k, l); sparse != (len(accepted) == len(g.Bars)) {
		t.Fatalf("%v with %d and %d: sparse %v, accepted %v", g, k, l, sparse, accepted)
	}
	if n := impl.FreePebbles(p); n != k*g.Points-len(accepted) {
		t.Fatalf("FreePebbles(%v) = %d", p, n)
	}
}

func TestRunPebbles(t *testing.T) {
	for _, r := range ranges() {
		for _, g := range append(countGraphs(), smallGraphs()...) {
			checkRun(t, g, r[0], r[1])
		}
	}
}

func TestAcceptedAndRejectedBars(t *testing.T) {
	for _, c := range []struct {
		text     string
		k, l     int
		rejected []int
	}{
		{"4: 0-1 0-2 0-3 1-2 1-3 2-3", 2, 3, []int{5}},
		{"4: 0-1 0-2 0-3 1-2 1-3 2-3", 2, 2, nil},
		{"4: 0-1 0-2 0-3 1-2 1-3 2-3", 1, 1, []int{3, 4, 5}},
		{"4: 0-1 0-2 0-3 1-2 1-3 2-3", 1, 0, []int{4, 5}},
		{"4: 0-1 0-1 0-2 1-2 2-3", 2, 3, []int{1}},
		{"2: 0-1 0-1 0-1", 2, 3, []int{1, 2}},
		{"2: 0-1 0-1 0-1", 2, 2, []int{2}},
		{"2: 0-1 0-1 0-1", 3, 3, nil},
		{"6: 0-1 0-2 0-3 1-2 1-4 2-5 3-4 3-5 4-5", 2, 3, nil},
		{"5: 0-1 0-2 0-3 1-2 1-3 2-3 3-4", 2, 3, []int{5}},
		{"1:", 3, 5, nil},
		{"8:", 1, 0, nil},
	} {
		g, ok := impl.ParseGraph(c.text)
		if got := impl.RejectedBars(g, c.k, c.l); !ok || !slices.Equal(got, c.rejected) {
			t.Errorf("RejectedBars of %q with %d and %d = %v, want %v", c.text, c.k, c.l, got, c.rejected)
		}
		got := append(impl.AcceptedBars(g, c.k, c.l), c.rejected...)
		slices.Sort(got)
		if len(got) != len(g.Bars) || len(slices.Compact(got)) != len(g.Bars) {
			t.Errorf("AcceptedBars of %q with %d and %d = %v", c.text, c.k, c.l, impl.AcceptedBars(g, c.k, c.l))
		}
	}
	// The first bar is turned for the second one and turned back for the third one.
	p, ok := impl.RunPebbles(impl.CompleteGraph(3), 2, 3)
	if !ok || !samePebbles(p, pebblesOf([]int{0, 1, 2}, []int{0, 0, 1}, []int{0, 1, 2})) {
		t.Error("RunPebbles of a triangle", p, ok)
	}
}

func checkInvalidRun(t *testing.T, g impl.Graph, k, l int) {
	if p, ok := impl.RunPebbles(g, k, l); ok || !samePebbles(p, impl.Pebbles{}) {
		t.Errorf("RunPebbles(%v, %d, %d) = %v, %v", g, k, l, p, ok)
	}
	if got := impl.AcceptedBars(g, k, l); len(got) != 0 {
		t.Errorf("AcceptedBars(%v, %d, %d) = %v", g, k, l, got)
	}
	if got := impl.RejectedBars(g, k, l); len(got) != 0 {
		t.Errorf("RejectedBars(%v, %d, %d) = %v", g, k, l, got)
	}
}

func TestRunPebblesInvalid(t *testing.T) {
	for _, g := range invalidGraphs() {
		for _, r := range append(ranges(), noRanges()...) {
			checkInvalidRun(t, g, r[0], r[1])
		}
	}
	for _, g := range append(countGraphs(), graphOf(1), graphOf(8)) {
		for _, r := range noRanges() {
			checkInvalidRun(t, g, r[0], r[1])
		}
	}
}

func TestFreePebbles(t *testing.T) {
	for _, c := range []struct {
		free []int
		want int
	}{
		{nil, 0}, {[]int{}, 0}, {[]int{0, 0}, 0}, {[]int{2, 1, 0, 2}, 5}, {[]int{3}, 3}, {[]int{4}, 3}, {[]int{-1}, 0},
		{[]int{-1, 2, 100, -50}, 5}, {[]int{math.MaxInt, math.MaxInt, math.MinInt, 1}, 7},
		{[]int{3, 3, 3, 3, 3, 3, 3, 3}, 24}, {[]int{3, 3, 3, 3, 3, 3, 3, 3, 0}, 0}, {[]int{1, 1, 1, 1, 1, 1, 1, 1, 1}, 0}, {make([]int, 1000), 0},
	} {
		// The other fields do not count, whatever is in them.
		for _, p := range []impl.Pebbles{pebblesOf(c.free, nil, nil), pebblesOf(c.free, []int{7, 7}, []int{-3})} {
			if n := impl.FreePebbles(p); n != c.want {
				t.Errorf("FreePebbles(%v) = %d, want %d", p, n, c.want)
			}
		}
	}
}

// Lists with room behind their ends, so that a list that grows in place would be seen.
func TestPebblesAreNotShared(t *testing.T) {
	g := impl.CompleteGraph(4)
	free, tails, placed := []int{1, 2, 2, 2, 77}, []int{0, 77, 77}, []int{0, 77, 77}
	p := pebblesOf(free[:4], tails[:1], placed[:1])
	bars := slices.Clone(g.Bars)
	for _, f := range []func() (impl.Pebbles, bool){
		func() (impl.Pebbles, bool) { return impl.PlaceBar(g, 2, 3, p, 1) },
		func() (impl.Pebbles, bool) { return impl.PlaceBar(g, 2, 3, p, 0) },
		func() (impl.Pebbles, bool) { return impl.GatherPebbles(g, 2, p, 0, 2, 4) },
		func() (impl.Pebbles, bool) { return impl.GatherPebbles(g, 2, p, 0, 1, 3) },
		func() (impl.Pebbles, bool) { return impl.GatherPebbles(g, 2, p, 0, 1, 4) },
		func() (impl.Pebbles, bool) { return impl.NewPebbles(g, 2) },
		func() (impl.Pebbles, bool) { return impl.RunPebbles(g, 2, 3) },
	} {
		first, _ := f()
		kept := clonePebbles(first)
		for _, l := range []*[]int{&first.Free, &first.Tails, &first.Placed} {
			for i := range *l {
				(*l)[i] = -9
			}
			*l = append(*l, -9, -9)
		}
		if again, _ := f(); !samePebbles(again, kept) {
			t.Error("a second call is different:", again, kept)
		}
		if !slices.Equal(free, []int{1, 2, 2, 2, 77}) || !slices.Equal(tails, []int{0, 77, 77}) || !slices.Equal(placed, []int{0, 77, 77}) || !slices.Equal(g.Bars, bars) {
			t.Fatal("an argument was changed:", free, tails, placed, g)
		}
	}
}
