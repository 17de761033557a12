package tests

import (
	"slices"
	"testing"

	"loop.example/g02078/impl"
)

// Promise 8, the part on rigidity matrices: no framework has a greater rank than the count allows.

// rigidityByDefinition goes through joints and directions instead of the ends of bars.
func rigidityByDefinition(f impl.Framework) [][]int {
	var m [][]int
	for _, b := range f.Graph.Bars {
		var row []int
		for v := range f.Graph.Points {
			for _, numbers := range [][2]int{{f.Places[b.A].X, f.Places[b.B].X}, {f.Places[b.A].Y, f.Places[b.B].Y}} {
				n := 0
				switch v {
				case b.A:
					n = numbers[0] - numbers[1]
				case b.B:
					n = numbers[1] - numbers[0]
				}
				row = append(row, n)
			}
		}
		m = append(m, row)
	}
	return m
}

// planeByDefinition has the velocities of all joints in the two directions and around the corner of the grid.
func planeByDefinition(f impl.Framework) [][]int {
	m := make([][]int, 3)
	for _, p := range f.Places {
		m[0] = append(m[0], 1, 0)
		m[1] = append(m[1], 0, 1)
		m[2] = append(m[2], -p.Y, p.X)
	}
	return m
}

// freedomByDefinition is the dimension of the motions minus that of the motions of the plane.
func freedomByDefinition(f impl.Framework) int {
	columns := 2 * f.Graph.Points
	return columns - rankByFractions(rigidityByDefinition(f), columns) - rankByFractions(planeByDefinition(f), columns)
}

func flatByDefinition(f impl.Framework) [][]int {
	var out [][]int
	for code := range 1 << f.Graph.Points {
		set := barsOfCode(code, f.Graph.Points)
		if len(set) == 3 && onOneLine(f.Places[set[0]], f.Places[set[1]], f.Places[set[2]]) {
			out = append(out, set)
		}
	}
	slices.SortFunc(out, func(a, b []int) int { return slices.Compare(a, b) })
	return out
}

// numbersOfFramework are the results that its rank decides.
type numbersOfFramework struct {
	rank, freedom       int
	independent, normal bool
}

func checkNumbers(t *testing.T, f impl.Framework, want numbersOfFramework) {
	got := numbersOfFramework{impl.FrameworkRank(f), impl.FrameworkFreedom(f), impl.IsIndependentFramework(f), impl.IsGenericHere(f)}
	if got != want || impl.IsStiff(f) != (want.freedom == 0) {
		t.Fatalf("%v has rank, freedom, independent and generic %v, want %v; it is stiff: %v", f, got, want, impl.IsStiff(f))
	}
}

// checkRigidity compares all functions of the chapter with their definition.
func checkRigidity(t *testing.T, f impl.Framework) {
	if !impl.IsFramework(f) {
		t.Fatalf("%v is not valid", f)
	}
	m := rigidityByDefinition(f)
	if got := impl.RigidityMatrix(f); !sameSets(got, m) {
		t.Fatalf("RigidityMatrix(%v) = %v, want %v", f, got, m)
	}
	rank, count := rankByFractions(m, 2*f.Graph.Points), rankByCount(f.Graph, 2, 3, allBars(f.Graph))
	checkNumbers(t, f, numbersOfFramework{rank, freedomByDefinition(f), rank == len(f.Graph.Bars), rank == count})
	if got := impl.FlatSets(f); !sameSets(got, flatByDefinition(f)) {
		t.Fatalf("FlatSets(%v) = %v, want %v", f, got, flatByDefinition(f))
	}
	checkCountBoundsRank(t, f)
}

// checkCountBoundsRank is the promise, with what follows from it.
func checkCountBoundsRank(t *testing.T, f impl.Framework) {
	rank, count := impl.FrameworkRank(f), impl.RankOf(f.Graph, 2, 3)
	if rank < 0 || rank > count {
		t.Fatalf("%v has the rank %d, but the count allows %d", f, rank, count)
	}
	if impl.IsStiff(f) && !impl.IsRigid(f.Graph) {
		t.Fatalf("%v is stiff, but its graph is not rigid", f)
	}
	if impl.IsIndependentFramework(f) && !impl.IsSparse(f.Graph, 2, 3) {
		t.Fatalf("the bars of %v are independent, but its graph is not sparse", f)
	}
	if impl.FrameworkFreedom(f) < 0 {
		t.Fatalf("%v has the freedom %d", f, impl.FrameworkFreedom(f))
	}
}

// joinMixed adds bars between joints at different places, each with a chance of some out of ten.
func joinMixed(places []impl.Place, some int, next func(int) int) impl.Framework {
	f := impl.Framework{Graph: impl.Graph{Points: len(places)}, Places: places}
	for _, b := range impl.CompleteGraph(len(places)).Bars {
		if places[b.A] != places[b.B] && next(10) < some {
			f.Graph.Bars = append(f.Graph.Bars, b)
		}
	}
	return f
}

// mixedFrameworks has frameworks with their joints anywhere, on a part of the grid where special positions are frequent, and on lines.
func mixedFrameworks(rounds int) []impl.Framework {
	next := numbersFrom(11)
	sides := []struct{ x, y []int }{
		{[]int{0, 1, 2, 3, 4}, []int{0, 1, 2, 3, 4}},
		{[]int{0, 4}, []int{0, 1, 3, 4}},
		{[]int{0, 2, 4}, []int{1, 3}},
		{[]int{0, 1, 2, 3, 4}, []int{2}},
		{[]int{3}, []int{0, 1, 2, 3, 4}},
	}
	var out []impl.Framework
	for points := 1; points <= impl.MaxJoints; points++ {
		for _, side := range sides {
			for round := range rounds {
				var places []impl.Place
				for range points {
					places = append(places, impl.Place{X: side.x[next(len(side.x))], Y: side.y[next(len(side.y))]})
				}
				out = append(out, joinMixed(places, []int{10, 8, 5, 7}[round%4], next))
			}
		}
	}
	return out
}

// gridLines has the longest lines through places of the grid in several directions.
func gridLines() [][]impl.Place {
	return [][]impl.Place{
		placesOf(0, 0, 1, 0, 2, 0, 3, 0, 4, 0), placesOf(0, 3, 1, 3, 2, 3, 3, 3, 4, 3),
		placesOf(2, 0, 2, 1, 2, 2, 2, 3, 2, 4), placesOf(4, 4, 4, 3, 4, 2, 4, 1, 4, 0),
		placesOf(0, 0, 1, 1, 2, 2, 3, 3, 4, 4), placesOf(4, 0, 0, 4, 2, 2, 1, 3, 3, 1),
		placesOf(0, 0, 1, 2, 2, 4), placesOf(4, 1, 0, 3, 2, 2), placesOf(0, 1, 3, 2),
	}
}

func TestRigidityMatrix(t *testing.T) {
	for _, c := range []struct {
		f    impl.Framework
		want [][]int
	}{
		{frameworkOf(impl.CompleteGraph(3), 0, 0, 2, 0, 0, 1), [][]int{{-2, 0, 2, 0, 0, 0}, {0, -1, 0, 0, 0, 1}, {0, 0, 2, -1, -2, 1}}},
		{frameworkOf(graphOf(2, 0, 1), 4, 1, 1, 3), [][]int{{3, -2, -3, 2}}},
		{frameworkOf(graphOf(2, 0, 1), 0, 4, 4, 0), [][]int{{-4, 4, 4, -4}}},
		{frameworkOf(graphOf(4, 1, 3), 0, 0, 3, 1, 2, 2, 1, 4), [][]int{{0, 0, 2, -3, 0, 0, -2, 3}}},
		{frameworkOf(graphOf(3, 0, 2, 1, 2), 1, 1, 1, 1, 2, 4), [][]int{{-1, -3, 0, 0, 1, 3}, {0, 0, -1, -3, 1, 3}}},
		{frameworkOf(graphOf(6, 0, 5), 0, 0, 1, 1, 1, 1, 1, 1, 1, 1, 4, 3), [][]int{{-4, -3, 0, 0, 0, 0, 0, 0, 0, 0, 4, 3}}},
	} {
		if got := impl.RigidityMatrix(c.f); !sameSets(got, c.want) {
			t.Errorf("RigidityMatrix(%v) = %v, want %v", c.f, got, c.want)
		}
	}
	m := impl.RigidityMatrix(sixJoints())
	if len(m) != 15 || !slices.Equal(m[14], []int{0, 0, 0, 0, 0, 0, 0, 0, -2, -1, 2, 1}) {
		t.Error("the matrix of six joints:", m)
	}
}

func TestRankAndFreedom(t *testing.T) {
	square := placesOf(0, 0, 2, 0, 2, 2, 0, 2)
	threeAndThree := graphOf(6, 0, 3, 0, 4, 0, 5, 1, 3, 1, 4, 1, 5, 2, 3, 2, 4, 2, 5)
	prism := graphOf(6, 0, 1, 0, 2, 0, 3, 1, 2, 1, 4, 2, 5, 3, 4, 3, 5, 4, 5)
	for _, c := range []struct {
		f    impl.Framework
		want numbersOfFramework
	}{
		{frameworkOf(graphOf(2, 0, 1), 0, 0, 4, 3), numbersOfFramework{1, 0, true, true}},
		{frameworkOf(impl.CompleteGraph(3), 0, 0, 2, 0, 0, 1), numbersOfFramework{3, 0, true, true}},
		{frameworkOf(graphOf(3, 0, 1, 1, 2), 0, 0, 2, 0, 0, 1), numbersOfFramework{2, 1, true, true}},
		{impl.Framework{Graph: graphOf(4, 0, 1, 0, 3, 1, 2, 2, 3), Places: square}, numbersOfFramework{4, 1, true, true}},
		{impl.Framework{Graph: graphOf(4, 0, 1, 0, 2, 0, 3, 1, 2, 2, 3), Places: square}, numbersOfFramework{5, 0, true, true}},
		{impl.Framework{Graph: impl.CompleteGraph(4), Places: square}, numbersOfFramework{5, 0, false, true}},
		{sixJoints(), numbersOfFramework{9, 0, false, true}},
		{frameworkOf(impl.CompleteGraph(5), 0, 0, 4, 0, 0, 4, 4, 4, 1, 2), numbersOfFramework{7, 0, false, true}},
		// All joints of three and three on a conic, which two lines are, and not on one.
		{frameworkOf(threeAndThree, 0, 0, 1, 0, 3, 0, 0, 2, 2, 2, 4, 2), numbersOfFramework{8, 1, false, false}},
		{frameworkOf(threeAndThree, 0, 0, 1, 0, 3, 0, 0, 2, 2, 3, 4, 2), numbersOfFramework{9, 0, true, true}},
		// Two triangles, with bars that are parallel or meet at one place between them, and with others.
		{frameworkOf(prism, 0, 0, 2, 0, 1, 1, 0, 3, 2, 3, 1, 4), numbersOfFramework{8, 1, false, false}},
		{frameworkOf(prism, 0, 0, 4, 0, 0, 4, 1, 1, 2, 1, 1, 2), numbersOfFramework{8, 1, false, false}},
		{frameworkOf(prism, 0, 0, 4, 0, 0, 4, 1, 1, 3, 2, 1, 2), numbersOfFramework{9, 0, true, true}},
		// A joint between the ends of two bars of one line, and a triangle with a third joint there.
		{frameworkOf(graphOf(3, 0, 2, 1, 2), 0, 0, 4, 4, 1, 1), numbersOfFramework{2, 1, true, true}},
		{frameworkOf(impl.CompleteGraph(3), 0, 0, 4, 4, 1, 1), numbersOfFramework{2, 1, false, false}},
		// Two joints at one place.
		{frameworkOf(graphOf(3, 0, 2, 1, 2), 1, 1, 1, 1, 2, 4), numbersOfFramework{2, 1, true, true}},
		{frameworkOf(graphOf(4, 0, 1, 0, 3, 1, 2, 2, 3), 0, 2, 3, 2, 0, 2, 3, 2), numbersOfFramework{3, 2, false, false}},
		{frameworkOf(graphOf(4, 0, 2, 0, 3, 1, 2, 1, 3, 2, 3), 1, 1, 1, 1, 4, 0, 0, 4), numbersOfFramework{5, 0, true, true}},
	} {
		checkNumbers(t, c.f, c.want)
		checkRigidity(t, c.f)
	}
}

// On one line, bars count only as far as they join parts, and turning the line is one more motion for each joint that is not held.
func TestAllJointsOnALine(t *testing.T) {
	for _, line := range gridLines() {
		for points := 2; points <= len(line); points++ {
			full := impl.Framework{Graph: impl.CompleteGraph(points), Places: line[:points]}
			checkNumbers(t, full, numbersOfFramework{points - 1, points - 2, points == 2, points == 2})
			path := impl.Framework{Graph: pathGraph(points), Places: line[:points]}
			checkNumbers(t, path, numbersOfFramework{points - 1, points - 2, true, true})
			none := impl.Framework{Graph: impl.Graph{Points: points}, Places: line[:points]}
			checkNumbers(t, none, numbersOfFramework{0, 2*points - 3, true, true})
			for _, f := range []impl.Framework{full, path, none} {
				checkRigidity(t, f)
				if triples := points * (points - 1) * (points - 2) / 6; len(impl.FlatSets(f)) != triples {
					t.Errorf("FlatSets(%v) = %v, want %d", f, impl.FlatSets(f), triples)
				}
			}
		}
	}
	// The triangle with its third joint on the line and beside it.
	if flat := frameworkOf(impl.CompleteGraph(3), 0, 0, 1, 0, 2, 0); impl.IsStiff(flat) || impl.IsGenericHere(flat) || impl.IsIndependentFramework(flat) {
		t.Error("the flat triangle is stiff, generic or independent")
	}
	if other := frameworkOf(impl.CompleteGraph(3), 0, 0, 1, 0, 2, 1); !impl.IsStiff(other) || !impl.IsGenericHere(other) || !impl.IsIndependentFramework(other) {
		t.Error("the triangle is not stiff, generic or independent")
	}
	// Six joints on one line, two of them at one place.
	checkNumbers(t, frameworkOf(pathGraph(6), 0, 0, 1, 0, 0, 0, 1, 0, 0, 0, 1, 0), numbersOfFramework{5, 4, true, true})
	full, _ := impl.RemoveBar(impl.CompleteGraph(6), 14)
	six := impl.Framework{Graph: full, Places: placesOf(0, 0, 1, 1, 2, 2, 3, 3, 4, 4, 4, 4)}
	checkNumbers(t, six, numbersOfFramework{5, 4, false, false})
	if l := impl.FlatSets(six); len(l) != 20 || !slices.Equal(l[0], []int{0, 1, 2}) || !slices.Equal(l[19], []int{3, 4, 5}) {
		t.Error("triples of six joints on a line:", l)
	}
}

// At one place, no bar has a length, and turning around it moves no joint.
func TestAllJointsAtOnePlace(t *testing.T) {
	for _, p := range gridPlaces() {
		for points := 1; points <= impl.MaxJoints; points++ {
			f := impl.Framework{Graph: impl.Graph{Points: points}, Places: slices.Repeat([]impl.Place{p}, points)}
			checkNumbers(t, f, numbersOfFramework{0, 2*points - 2, true, true})
			checkRigidity(t, f)
			for v := range points {
				// With one joint elsewhere, all three motions of the plane differ.
				other := withPlace(f, v, impl.Place{X: (p.X + 1) % 5, Y: p.Y})
				if points > 1 {
					checkNumbers(t, other, numbersOfFramework{0, 2*points - 3, true, true})
				}
				checkRigidity(t, other)
			}
		}
	}
}

func TestFrameworksOfOneJoint(t *testing.T) {
	for _, p := range gridPlaces() {
		f := frameworkOf(graphOf(1), p.X, p.Y)
		checkNumbers(t, f, numbersOfFramework{0, 0, true, true})
		if len(impl.RigidityMatrix(f)) != 0 || len(impl.FlatSets(f)) != 0 {
			t.Errorf("%v has the matrix %v and flat sets %v", f, impl.RigidityMatrix(f), impl.FlatSets(f))
		}
	}
}

func TestFrameworksWithoutBars(t *testing.T) {
	for _, f := range mixedFrameworks(12) {
		f.Graph.Bars = nil
		if len(impl.RigidityMatrix(f)) != 0 || impl.FrameworkRank(f) != 0 || !impl.IsIndependentFramework(f) || !impl.IsGenericHere(f) {
			t.Errorf("%v has the matrix %v and the rank %d", f, impl.RigidityMatrix(f), impl.FrameworkRank(f))
		}
		checkRigidity(t, f)
	}
}

func TestRigidityByDefinition(t *testing.T) {
	for _, f := range validFrameworks() {
		checkRigidity(t, f)
	}
}

func TestMixedFrameworks(t *testing.T) {
	special, generic, stiff, long := 0, 0, 0, 0
	for _, f := range mixedFrameworks(120) {
		checkRigidity(t, f)
		if impl.IsGenericHere(f) {
			generic++
		} else {
			special++
		}
		if impl.IsStiff(f) {
			stiff++
		}
		if len(f.Graph.Bars) > impl.MaxRows && impl.FrameworkRank(f) == impl.MaxRows {
			long++
		}
	}
	if special < 300 || generic < 300 || stiff < 300 || long < 50 {
		t.Error("the frameworks of this test are not mixed:", special, generic, stiff, long)
	}
}

// For every graph of up to four points, no choice of places on a part of the grid gives more than the count allows, and some give as much.
func TestCountIsTheGreatestRank(t *testing.T) {
	places := placesOf(0, 0, 4, 0, 1, 2, 2, 4, 3, 3)
	for _, g := range smallGraphs() {
		if !impl.IsFramework(impl.Framework{Graph: g, Places: places[:min(g.Points, len(places))]}) {
			continue
		}
		greatest := 0
		numbers := make([]int, g.Points)
		for more := true; more; more = increase(numbers, len(places)) {
			f := impl.Framework{Graph: g}
			for _, n := range numbers {
				f.Places = append(f.Places, places[n])
			}
			if impl.IsFramework(f) {
				checkCountBoundsRank(t, f)
				greatest = max(greatest, impl.FrameworkRank(f))
			}
		}
		if greatest != rankByCount(g, 2, 3, allBars(g)) {
			t.Errorf("the greatest rank of a framework of %v is %d", g, greatest)
		}
	}
}

// Without one bar, the rank is the same or one less, and turned or mirrored it is the same.
func TestRankOfChangedFrameworks(t *testing.T) {
	for _, f := range append(someFrameworks(), mixedFrameworks(8)...) {
		rank := impl.FrameworkRank(f)
		for _, other := range []impl.Framework{impl.MirrorFramework(f), impl.TurnFramework(f)} {
			if impl.FrameworkRank(other) != rank || impl.FrameworkFreedom(other) != impl.FrameworkFreedom(f) || !sameSets(impl.FlatSets(other), impl.FlatSets(f)) {
				t.Fatalf("%v and %v differ in rank, freedom or flat sets", f, other)
			}
		}
		for bar := range f.Graph.Bars {
			without := f
			without.Graph, _ = impl.RemoveBar(f.Graph, bar)
			if less := rank - impl.FrameworkRank(without); less < 0 || less > 1 || less == 0 && impl.IsIndependentFramework(f) {
				t.Fatalf("without bar %d, the rank of %v falls by %d", bar, f, less)
			}
		}
	}
}

func TestFlatSets(t *testing.T) {
	for _, c := range []struct {
		f    impl.Framework
		want [][]int
	}{
		{sixJoints(), [][]int{{0, 3, 5}}},
		{frameworkOf(impl.CompleteGraph(3), 0, 0, 2, 0, 0, 1), nil},
		{frameworkOf(graphOf(3), 0, 0, 1, 0, 2, 0), [][]int{{0, 1, 2}}},
		{frameworkOf(graphOf(4), 2, 2, 0, 1, 4, 3, 2, 2), [][]int{{0, 1, 2}, {0, 1, 3}, {0, 2, 3}, {1, 2, 3}}},
		// Two joints at one place are on a line with each other one.
		{frameworkOf(graphOf(4, 0, 2, 1, 2), 1, 1, 3, 1, 0, 4, 1, 1), [][]int{{0, 1, 3}, {0, 2, 3}}},
		{frameworkOf(graphOf(5), 0, 0, 4, 0, 2, 2, 0, 4, 4, 4), [][]int{{0, 2, 4}, {1, 2, 3}}},
		{frameworkOf(graphOf(6), 0, 0, 0, 4, 1, 2, 2, 2, 3, 2, 4, 0), [][]int{{1, 3, 5}, {2, 3, 4}}},
		{frameworkOf(graphOf(2, 0, 1), 0, 0, 4, 4), nil},
		{frameworkOf(graphOf(2), 3, 3, 3, 3), nil},
	} {
		if got := impl.FlatSets(c.f); !sameSets(got, c.want) {
			t.Errorf("FlatSets(%v) = %v, want %v", c.f, got, c.want)
		}
	}
}

// checkInvalidRigidity expects the fixed result of each function.
func checkInvalidRigidity(t *testing.T, f impl.Framework) {
	if m, l := impl.RigidityMatrix(f), impl.FlatSets(f); len(m) != 0 || len(l) != 0 {
		t.Errorf("%v, which is not valid, has the matrix %v and the flat sets %v", f, m, l)
	}
	if rank, freedom := impl.FrameworkRank(f), impl.FrameworkFreedom(f); rank != -1 || freedom != -1 {
		t.Errorf("%v, which is not valid, has the rank %d and the freedom %d", f, rank, freedom)
	}
	if impl.IsStiff(f) || impl.IsIndependentFramework(f) || impl.IsGenericHere(f) {
		t.Errorf("%v, which is not valid, is stiff, independent or generic: %v, %v, %v", f, impl.IsStiff(f), impl.IsIndependentFramework(f), impl.IsGenericHere(f))
	}
}

func TestRigidityInvalid(t *testing.T) {
	for _, f := range invalidFrameworks() {
		checkInvalidRigidity(t, f)
	}
	triangle := frameworkOf(impl.CompleteGraph(3), 0, 0, 4, 0, 1, 3)
	if !impl.IsStiff(triangle) {
		t.Error("the triangle is not stiff")
	}
	for _, p := range append(offGridPlaces(), placesOf(5, 5, -1, -1, 0, 5)...) {
		for v := range 3 {
			checkInvalidRigidity(t, withPlace(triangle, v, p))
		}
		checkInvalidRigidity(t, frameworkOf(graphOf(3), p.X, p.Y, p.X, p.Y, p.X, p.Y))
	}
	for _, f := range []impl.Framework{
		// Too few and too many places, bars without length, equal bars, bars in the wrong order, and too many joints.
		{Graph: triangle.Graph, Places: triangle.Places[:2]}, {Graph: triangle.Graph, Places: append(slices.Clone(triangle.Places), impl.Place{X: 2, Y: 2})}, {Graph: triangle.Graph},
		withPlace(triangle, 2, impl.Place{X: 4, Y: 0}), frameworkOf(impl.CompleteGraph(3), 1, 1, 1, 1, 1, 1),
		{Graph: graphOf(3, 0, 1, 0, 2, 1, 2, 1, 2), Places: triangle.Places}, {Graph: graphOf(3, 0, 2, 0, 1, 1, 2), Places: triangle.Places}, {Graph: graphOf(3, 1, 0, 0, 2, 1, 2), Places: triangle.Places},
		{Graph: impl.CompleteGraph(7), Places: placesOf(0, 0, 1, 0, 3, 1, 4, 4, 2, 3, 0, 4, 1, 2)}, {Graph: graphOf(7), Places: gridPlaces()[:7]},
		frameworkOf(graphOf(0)), frameworkOf(graphOf(0), 1, 1), frameworkOf(graphOf(-1)),
	} {
		checkInvalidRigidity(t, f)
	}
}

func TestRigidityIsNotShared(t *testing.T) {
	for _, f := range append(append(someFrameworks(), invalidFrameworks()...), mixedFrameworks(3)...) {
		call := func(f impl.Framework) impl.Framework {
			m, l := impl.RigidityMatrix(f), impl.FlatSets(f)
			if overwrite(m) || overwrite(l) {
				t.Errorf("two rows of %v share memory", f)
			}
			impl.FrameworkRank(f)
			impl.FrameworkFreedom(f)
			impl.IsStiff(f)
			impl.IsIndependentFramework(f)
			impl.IsGenericHere(f)
			return impl.Framework{}
		}
		if changeSharedPlaces(f, call) {
			t.Errorf("the arguments of %v were changed", f)
		}
	}
	// What is appended to a row does not get into the next one, and what is written to it not into a later result.
	f := frameworkOf(impl.CompleteGraph(3), 0, 0, 2, 0, 4, 0)
	m, l := impl.RigidityMatrix(f), impl.FlatSets(f)
	m[0], l[0] = append(m[0], 9), append(l[0], 9)
	if !slices.Equal(m[1], []int{-4, 0, 0, 0, 4, 0}) || len(m[0]) != 7 || !slices.Equal(l[0], []int{0, 1, 2, 9}) {
		t.Error("two rows share memory:", m, l)
	}
	if again := impl.RigidityMatrix(f); !sameSets(again, rigidityByDefinition(f)) || !sameSets(impl.FlatSets(f), [][]int{{0, 1, 2}}) {
		t.Error("a later result is different:", again, impl.FlatSets(f))
	}
}
