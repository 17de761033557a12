package tests

import (
	"math"
	"math/big"
	"slices"
	"testing"

	"loop.example/g02078/impl"
)

// Promise 7, the part on motions: which velocities are motions and which are trivial, the motions of a framework and of the plane, the first motion that is not trivial, the change of a distance, and a motion with a joint fixed.

// maxSpeed is the greatest magnitude in a velocity.
const maxSpeed = 10000000000

// isVelocity expects a valid framework.
func isVelocity(f impl.Framework, v []int) bool {
	return len(v) == 2*len(f.Places) && slices.Max(v) <= maxSpeed && slices.Min(v) >= -maxSpeed
}

func isZero(v []int) bool {
	return !slices.ContainsFunc(v, func(n int) bool { return n != 0 })
}

// changeByDefinition uses numbers of any size.
func changeByDefinition(f impl.Framework, v []int, a, b int) int {
	sum := new(big.Int)
	for i, numbers := range [][2]int{{f.Places[a].X, f.Places[b].X}, {f.Places[a].Y, f.Places[b].Y}} {
		x := new(big.Int).Sub(big.NewInt(int64(v[2*a+i])), big.NewInt(int64(v[2*b+i])))
		sum.Add(sum, x.Mul(x, big.NewInt(int64(numbers[0]-numbers[1]))))
	}
	return int(sum.Int64())
}

// isMotionByDefinition asks the matrix instead of the bars.
func isMotionByDefinition(f impl.Framework, v []int) bool {
	return isVelocity(f, v) && isZero(productByDefinition(rigidityByDefinition(f), v))
}

// isTrivialByDefinition reports whether v does not raise the rank of the motions of the plane.
func isTrivialByDefinition(f impl.Framework, v []int) bool {
	if !isVelocity(f, v) {
		return false
	}
	plane := planeByDefinition(f)
	return rankByFractions(append(plane, v), len(v)) == rankByFractions(plane, len(v))
}

func fixedByDefinition(v []int, a int) []int {
	var out []int
	for i := 0; i < len(v); i += 2 {
		out = append(out, v[i]-v[2*a], v[i+1]-v[2*a+1])
	}
	return out
}

// withOne is 0 for all joints but one.
func withOne(f impl.Framework, joint, x, y int) []int {
	v := make([]int, 2*f.Graph.Points)
	v[2*joint], v[2*joint+1] = x, y
	return v
}

// combined adds up vectors of the same length, each so many times.
func combined(factors []int, vectors [][]int) []int {
	out := make([]int, len(vectors[0]))
	for i, v := range vectors {
		for j, n := range v {
			out[j] += factors[i] * n
		}
	}
	return out
}

// barless has the same joints and no bars.
func barless(f impl.Framework) impl.Framework {
	return impl.Framework{Graph: impl.Graph{Points: f.Graph.Points}, Places: f.Places}
}

// checkVelocity compares what the functions say of a velocity with their definition.
func checkVelocity(t *testing.T, f impl.Framework, v []int) {
	motion, trivial := isMotionByDefinition(f, v), isTrivialByDefinition(f, v)
	if impl.IsMotion(f, v) != motion || impl.IsTrivialMotion(f, v) != trivial {
		t.Fatalf("%v of %v is a motion: %v, trivial: %v, want %v, %v", v, f, impl.IsMotion(f, v), impl.IsTrivialMotion(f, v), motion, trivial)
	}
	if trivial && !motion {
		t.Fatalf("%v of %v is trivial, but no motion", v, f)
	}
	for a := range f.Places {
		for b := range f.Places {
			want := 0
			if isVelocity(f, v) {
				want = changeByDefinition(f, v, a, b)
			}
			if got := impl.ChangeOf(f, v, a, b); got != want {
				t.Fatalf("ChangeOf(%v, %v, %d, %d) = %d, want %d", f, v, a, b, got, want)
			}
		}
		checkFixed(t, f, v, a)
	}
}

// checkFixed compares FixMotion with its definition; a motion with a joint fixed is the same motion, seen from that joint.
func checkFixed(t *testing.T, f impl.Framework, v []int, a int) {
	var want []int
	if isMotionByDefinition(f, v) {
		want = fixedByDefinition(v, a)
	}
	got, ok := impl.FixMotion(f, v, a)
	if ok != (want != nil) || !slices.Equal(got, want) {
		t.Fatalf("FixMotion(%v, %v, %d) = %v, %v, want %v", f, v, a, got, ok, want)
	}
	if !ok || !isVelocity(f, got) {
		return
	}
	if !impl.IsMotion(f, got) || impl.IsTrivialMotion(f, got) != impl.IsTrivialMotion(f, v) || got[2*a] != 0 || got[2*a+1] != 0 {
		t.Fatalf("FixMotion(%v, %v, %d) = %v, which is not the same motion with the joint fixed", f, v, a, got)
	}
	if again, ok := impl.FixMotion(f, got, a); !ok || !slices.Equal(again, got) {
		t.Fatalf("FixMotion(%v, %v, %d) = %v, %v, but the joint was fixed", f, got, a, again, ok)
	}
}

// checkMotionsOf compares with the columns of the matrix that are free; there are as many motions as columns less the rank.
func checkMotionsOf(t *testing.T, f impl.Framework) {
	basis := impl.MotionsOf(f)
	checkNullspace(t, rigidityByDefinition(f), 2*f.Graph.Points, basis, rankByFractions)
	if len(basis) != 2*f.Graph.Points-impl.FrameworkRank(f) {
		t.Fatalf("%v has the rank %d and the motions %v", f, impl.FrameworkRank(f), basis)
	}
	for _, v := range basis {
		checkVelocity(t, f, v)
		if !impl.IsMotion(f, v) {
			t.Fatalf("MotionsOf(%v) has %v, which is no motion", f, v)
		}
	}
	first := slices.IndexFunc(basis, func(v []int) bool { return !isTrivialByDefinition(f, v) })
	var want []int
	if first >= 0 {
		want = basis[first]
	}
	if got, ok := impl.FindMotion(f); ok != (first >= 0) || !slices.Equal(got, want) {
		t.Fatalf("FindMotion(%v) = %v, %v, want %v", f, got, ok, want)
	}
	if impl.IsStiff(f) == (first >= 0) {
		t.Fatalf("%v is stiff: %v, but its first motion that is not trivial is %v", f, impl.IsStiff(f), want)
	}
}

func checkPlaneMotions(t *testing.T, f impl.Framework) {
	plane := impl.PlaneMotions(f)
	if !sameSets(plane, planeByDefinition(f)) {
		t.Fatalf("PlaneMotions(%v) = %v, want %v", f, plane, planeByDefinition(f))
	}
	for _, v := range plane {
		if !impl.IsMotion(f, v) || !impl.IsTrivialMotion(f, v) {
			t.Fatalf("PlaneMotions(%v) has %v, which is a motion: %v, trivial: %v", f, v, impl.IsMotion(f, v), impl.IsTrivialMotion(f, v))
		}
	}
}

// checkRowsAreChanges moves one joint in one direction at a time: that changes the length of each bar by a number of its row.
func checkRowsAreChanges(t *testing.T, f impl.Framework) {
	m := impl.RigidityMatrix(f)
	for i, b := range f.Graph.Bars {
		for column, n := range m[i] {
			v := make([]int, 2*f.Graph.Points)
			v[column] = 1
			if got := impl.ChangeOf(f, v, b.A, b.B); got != n || impl.ChangeOf(f, v, b.B, b.A) != n {
				t.Fatalf("ChangeOf(%v, %v, %d, %d) = %d, but the row of the bar is %v", f, v, b.A, b.B, got, m[i])
			}
		}
	}
}

// mixedVelocities has sums of motions of the framework and of the plane, parts of turns, velocities near to these, and others.
func mixedVelocities(f impl.Framework, next func(int) int) [][]int {
	width := 2 * f.Graph.Points
	plane, motions := planeByDefinition(f), impl.MotionsOf(f)
	out := [][]int{make([]int, width), slices.Repeat([]int{maxSpeed}, width), slices.Repeat([]int{-maxSpeed}, width), withOne(f, next(f.Graph.Points), -maxSpeed, maxSpeed)}
	for range 3 {
		x, y, turn := next(9)-4, next(9)-4, next(9)-4
		out = append(out, combined([]int{x, y, turn}, plane), combined([]int{x * 1000000000, y * 1000000000, turn * 1000000000}, plane))
		// A turn around a joint, in lowest terms.
		out = append(out, impl.PrimitiveVector(fixedByDefinition(plane[2], next(f.Graph.Points))))
		near := combined([]int{x, y, turn}, plane)
		near[next(width)]++
		out = append(out, near)
		var factors, small []int
		for range motions {
			factors = append(factors, next(7)-3)
		}
		for range width {
			small = append(small, next(3)-1)
		}
		out = append(out, small)
		if len(motions) > 0 {
			out = append(out, combined(factors, motions))
		}
	}
	return out
}

// checkMotionsByDefinition compares all functions of the chapter with their definition.
func checkMotionsByDefinition(t *testing.T, f impl.Framework, next func(int) int) {
	if !impl.IsFramework(f) {
		t.Fatalf("%v is not valid", f)
	}
	checkPlaneMotions(t, f)
	checkMotionsOf(t, f)
	checkRowsAreChanges(t, f)
	for _, v := range mixedVelocities(f, next) {
		checkVelocity(t, f, v)
	}
}

func TestMotionsByDefinition(t *testing.T) {
	next := numbersFrom(12)
	for i, f := range validFrameworks() {
		if i < len(someFrameworks()) || i%5 == 0 {
			checkMotionsByDefinition(t, f, next)
		}
	}
}

func TestMotionsOfMixedFrameworks(t *testing.T) {
	next := numbersFrom(13)
	found, none := 0, 0
	for _, f := range mixedFrameworks(24) {
		checkMotionsByDefinition(t, f, next)
		if _, ok := impl.FindMotion(f); ok {
			found++
		} else {
			none++
		}
	}
	if found < 100 || none < 100 {
		t.Error("the frameworks of this test are not mixed:", found, none)
	}
}

// All velocities with small numbers of some frameworks of two and three joints.
func TestSmallVelocities(t *testing.T) {
	for _, f := range []impl.Framework{
		frameworkOf(graphOf(1), 2, 3), frameworkOf(graphOf(2), 1, 1, 1, 1), frameworkOf(graphOf(2, 0, 1), 1, 2, 1, 4), frameworkOf(graphOf(2, 0, 1), 2, 1, 3, 3),
		frameworkOf(impl.CompleteGraph(3), 0, 0, 1, 0, 2, 0), frameworkOf(impl.CompleteGraph(3), 3, 0, 2, 1, 3, 2), frameworkOf(graphOf(3, 0, 1, 0, 2), 0, 0, 1, 0, 0, 1), frameworkOf(graphOf(3, 0, 2), 1, 1, 1, 1, 2, 0), frameworkOf(graphOf(3), 4, 4, 4, 4, 4, 4),
	} {
		numbers := make([]int, 2*f.Graph.Points)
		for more := true; more; more = increase(numbers, 3) {
			var v []int
			for _, n := range numbers {
				v = append(v, n-1)
			}
			checkVelocity(t, f, v)
		}
	}
}

func square() impl.Framework {
	return frameworkOf(graphOf(4, 0, 1, 0, 3, 1, 2, 2, 3), 0, 0, 2, 0, 2, 2, 0, 2)
}

func TestIsMotion(t *testing.T) {
	flat := frameworkOf(impl.CompleteGraph(3), 0, 0, 1, 0, 2, 0)
	for _, c := range []struct {
		f               impl.Framework
		v               []int
		motion, trivial bool
	}{
		{square(), []int{0, 0, 0, 0, 1, 0, 1, 0}, true, false},
		{square(), []int{0, 0, 1, 0, 0, 0, 0, 0}, false, false},
		{square(), []int{0, 0, 0, 0, 0, 0, 0, 0}, true, true},
		{square(), []int{3, -2, 3, -2, 3, -2, 3, -2}, true, true},
		{square(), []int{1, -1, 1, 1, -1, 1, -1, -1}, true, true},
		{square(), []int{1, 1, 1, -1, -1, -1, -1, 1}, true, false},
		// The joints move away from the middle.
		{square(), []int{-1, -1, 1, -1, 1, 1, -1, 1}, false, false},
		// The joint in the middle of a line can leave it, but a turn moves the ones farther away by more.
		{flat, []int{0, 0, 0, 1, 0, 0}, true, false},
		{flat, []int{0, 0, 0, 1, 0, 2}, true, true},
		{flat, []int{0, 0, 0, 2, 0, 1}, true, false},
		{flat, []int{5, -1, 5, 0, 5, 1}, true, true},
		{flat, []int{0, 0, 1, 1, 0, 2}, false, false},
		// Half a turn and less.
		{frameworkOf(graphOf(3), 0, 0, 2, 0, 4, 0), []int{0, 0, 0, 1, 0, 2}, true, true},
		{frameworkOf(graphOf(3), 0, 0, 2, 0, 4, 0), []int{0, 0, 0, 1, 0, 1}, true, false},
		{frameworkOf(graphOf(3), 0, 0, 0, 3, 0, 3), []int{7, 7, 8, 7, 8, 7}, true, true},
		{frameworkOf(graphOf(3, 0, 1), 4, 4, 0, 1, 4, 4), []int{0, 0, 3, -4, 0, 0}, true, true},
		{frameworkOf(graphOf(3, 0, 1), 4, 4, 0, 1, 4, 4), []int{0, 0, 3, -4, 1, 0}, true, false},
		{frameworkOf(graphOf(2, 0, 1), 1, 1, 4, 2), []int{-1, 3, 0, 0}, true, true},
		{frameworkOf(graphOf(2, 0, 1), 1, 1, 4, 2), []int{1, 3, 0, 0}, false, false},
		{frameworkOf(graphOf(2), 1, 1, 4, 2), []int{1, 3, 0, 0}, true, false},
	} {
		if impl.IsMotion(c.f, c.v) != c.motion || impl.IsTrivialMotion(c.f, c.v) != c.trivial {
			t.Errorf("%v of %v is a motion: %v, trivial: %v", c.v, c.f, impl.IsMotion(c.f, c.v), impl.IsTrivialMotion(c.f, c.v))
		}
		checkVelocity(t, c.f, c.v)
	}
}

func TestMotionsOf(t *testing.T) {
	for _, c := range []struct {
		f    impl.Framework
		want [][]int
		// first is the index of the result of FindMotion.
		first int
	}{
		{square(), [][]int{{1, 0, 1, 0, 0, 0, 0, 0}, {0, 0, 0, 1, 0, 1, 0, 0}, {0, 0, 0, 0, 1, 0, 1, 0}, {0, 1, 0, 0, 0, 0, 0, 1}}, 0},
		{frameworkOf(impl.CompleteGraph(3), 0, 0, 2, 0, 0, 1), [][]int{{1, 0, 1, 2, 0, 0}, {1, 0, 1, 0, 1, 0}, {1, -2, 1, 0, 0, -2}}, -1},
		{frameworkOf(impl.CompleteGraph(3), 0, 0, 1, 0, 2, 0), [][]int{{0, 1, 0, 0, 0, 0}, {0, 0, 0, 1, 0, 0}, {1, 0, 1, 0, 1, 0}, {0, 0, 0, 0, 0, 1}}, 0},
		{frameworkOf(graphOf(2, 0, 1), 1, 1, 4, 2), [][]int{{1, -3, 0, 0}, {1, 0, 1, 0}, {1, 0, 0, 3}}, -1},
		{frameworkOf(graphOf(2, 0, 1), 2, 0, 2, 3), [][]int{{1, 0, 0, 0}, {0, 0, 1, 0}, {0, 1, 0, 1}}, -1},
		// The first two motions turn the bar, and the third joint moves alone in the other ones.
		{frameworkOf(graphOf(3, 0, 1), 1, 1, 4, 2, 0, 0), [][]int{{1, -3, 0, 0, 0, 0}, {1, 0, 1, 0, 0, 0}, {1, 0, 0, 3, 0, 0}, {0, 0, 0, 0, 1, 0}, {0, 0, 0, 0, 0, 1}}, 0},
		// The third joint is where the bar turns, so that the first motion is one of the plane.
		{frameworkOf(graphOf(3, 0, 1), 1, 1, 4, 2, 4, 2), [][]int{{1, -3, 0, 0, 0, 0}, {1, 0, 1, 0, 0, 0}, {1, 0, 0, 3, 0, 0}, {0, 0, 0, 0, 1, 0}, {0, 0, 0, 0, 0, 1}}, 1},
	} {
		if got := impl.MotionsOf(c.f); !sameSets(got, c.want) {
			t.Errorf("MotionsOf(%v) = %v, want %v", c.f, got, c.want)
		}
		v, ok := impl.FindMotion(c.f)
		if ok != (c.first >= 0) || ok && !slices.Equal(v, c.want[c.first]) || !ok && len(v) != 0 {
			t.Errorf("FindMotion(%v) = %v, %v, want the one with index %d", c.f, v, ok, c.first)
		}
	}
}

func TestPlaneMotions(t *testing.T) {
	for _, c := range []struct {
		f    impl.Framework
		want [][]int
	}{
		{square(), [][]int{{1, 0, 1, 0, 1, 0, 1, 0}, {0, 1, 0, 1, 0, 1, 0, 1}, {0, 0, 0, 2, -2, 2, -2, 0}}},
		{frameworkOf(graphOf(2, 0, 1), 4, 1, 0, 3), [][]int{{1, 0, 1, 0}, {0, 1, 0, 1}, {-1, 4, -3, 0}}},
		// There are three even where turning is like staying or shifting.
		{frameworkOf(graphOf(1), 0, 0), [][]int{{1, 0}, {0, 1}, {0, 0}}},
		{frameworkOf(graphOf(1), 3, 1), [][]int{{1, 0}, {0, 1}, {-1, 3}}},
		{frameworkOf(graphOf(2), 2, 4, 2, 4), [][]int{{1, 0, 1, 0}, {0, 1, 0, 1}, {-4, 2, -4, 2}}},
	} {
		if got := impl.PlaneMotions(c.f); !sameSets(got, c.want) {
			t.Errorf("PlaneMotions(%v) = %v, want %v", c.f, got, c.want)
		}
	}
	for _, f := range append(validFrameworks(), mixedFrameworks(24)...) {
		checkPlaneMotions(t, f)
	}
}

// A joint with one bar to a triangle turns around the other end of that bar, and no other joint moves.
func TestJointThatOnlyTurns(t *testing.T) {
	for _, p := range gridPlaces() {
		f := frameworkOf(graphOf(4, 0, 1, 1, 2, 1, 3, 2, 3), p.X, p.Y, 2, 1, 4, 1, 2, 3)
		if p == f.Places[1] {
			continue
		}
		turn := impl.PrimitiveVector(withOne(f, 0, p.Y-1, 2-p.X))
		if v, ok := impl.FindMotion(f); !ok || !slices.Equal(v, turn) || !impl.IsMotion(f, turn) || impl.IsTrivialMotion(f, turn) {
			t.Errorf("FindMotion(%v) = %v, %v, want %v", f, v, ok, turn)
		}
		if l := impl.MotionsOf(f); len(l) != 4 || !slices.Equal(l[0], turn) {
			t.Errorf("MotionsOf(%v) = %v, want 4 with %v", f, l, turn)
		}
		// The distance to the other joints changes, unless they lie on the bar's line.
		for b := 1; b < 4; b++ {
			flat := onOneLine(p, f.Places[1], f.Places[b])
			if n := impl.ChangeOf(f, turn, 0, b); (n == 0) != flat || n != changeByDefinition(f, turn, 0, b) {
				t.Errorf("ChangeOf(%v, %v, 0, %d) = %d", f, turn, b, n)
			}
		}
		// Seen from the joint, all others go around it the other way, which turns none of them.
		if v, ok := impl.FixMotion(f, turn, 0); !ok || !slices.Equal(v[:2], []int{0, 0}) || !slices.Equal(v[2:4], []int{-turn[0], -turn[1]}) || !slices.Equal(v[4:6], v[2:4]) || !slices.Equal(v[6:], v[2:4]) {
			t.Errorf("FixMotion(%v, %v, 0) = %v, %v", f, turn, v, ok)
		}
		// Away from the end of the bar, or towards it, it does not move.
		if along := withOne(f, 0, p.X-2, p.Y-1); impl.IsMotion(f, along) || impl.IsTrivialMotion(f, along) {
			t.Errorf("%v is a motion of %v", along, f)
		}
		checkVelocity(t, f, turn)
		checkMotionsOf(t, f)
	}
}

// With two joints and a bar, one that turns turns the plane, and no motion is left; without the bar, it can also go away.
func TestTwoJoints(t *testing.T) {
	places := gridPlaces()
	for _, p := range places {
		for _, q := range places {
			pair := frameworkOf(graphOf(2), p.X, p.Y, q.X, q.Y)
			turn, away := []int{0, 0, p.Y - q.Y, q.X - p.X}, []int{0, 0, q.X - p.X, q.Y - p.Y}
			if !impl.IsTrivialMotion(pair, turn) || !impl.IsMotion(pair, away) || impl.IsTrivialMotion(pair, away) != (p == q) {
				t.Fatalf("%v and %v of %v", turn, away, pair)
			}
			v, ok := impl.FindMotion(pair)
			if !ok || impl.IsTrivialMotion(pair, v) {
				t.Fatalf("FindMotion(%v) = %v, %v", pair, v, ok)
			}
			if p == q {
				continue
			}
			f := frameworkOf(graphOf(2, 0, 1), p.X, p.Y, q.X, q.Y)
			if !impl.IsMotion(f, turn) || !impl.IsTrivialMotion(f, turn) || impl.IsMotion(f, away) || impl.IsTrivialMotion(f, away) {
				t.Fatalf("%v and %v of %v", turn, away, f)
			}
			if v, ok := impl.FindMotion(f); ok || len(v) != 0 || len(impl.MotionsOf(f)) != 3 {
				t.Fatalf("FindMotion(%v) = %v, %v; the motions are %v", f, v, ok, impl.MotionsOf(f))
			}
		}
	}
}

// unitVectors has a vector for each of so many columns.
func unitVectors(width int) [][]int {
	var out [][]int
	for column := range width {
		v := make([]int, width)
		v[column] = 1
		out = append(out, v)
	}
	return out
}

// Without bars, all velocities are motions.
func TestMotionsWithoutBars(t *testing.T) {
	next := numbersFrom(14)
	for _, f := range mixedFrameworks(6) {
		f = barless(f)
		if got := impl.MotionsOf(f); !sameSets(got, unitVectors(2*f.Graph.Points)) {
			t.Fatalf("MotionsOf(%v) = %v", f, got)
		}
		for _, v := range mixedVelocities(f, next) {
			if impl.IsMotion(f, v) != isVelocity(f, v) {
				t.Fatalf("IsMotion(%v, %v) is %v", f, v, impl.IsMotion(f, v))
			}
		}
		checkMotionsByDefinition(t, f, next)
	}
}

// A single joint can only move as the plane does.
func TestMotionsOfOneJoint(t *testing.T) {
	for _, p := range gridPlaces() {
		f := frameworkOf(graphOf(1), p.X, p.Y)
		if l := impl.MotionsOf(f); !sameSets(l, [][]int{{1, 0}, {0, 1}}) {
			t.Errorf("MotionsOf(%v) = %v", f, l)
		}
		if v, ok := impl.FindMotion(f); ok || len(v) != 0 {
			t.Errorf("FindMotion(%v) = %v, %v", f, v, ok)
		}
		for _, v := range [][]int{{0, 0}, {1, 0}, {0, 1}, {-1, 7}, {-p.Y, p.X}, {maxSpeed, -maxSpeed}} {
			if !impl.IsMotion(f, v) || !impl.IsTrivialMotion(f, v) || impl.ChangeOf(f, v, 0, 0) != 0 {
				t.Errorf("%v is no trivial motion of %v", v, f)
			}
			if w, ok := impl.FixMotion(f, v, 0); !ok || !slices.Equal(w, []int{0, 0}) {
				t.Errorf("FixMotion(%v, %v, 0) = %v, %v", f, v, w, ok)
			}
		}
	}
}

// At one place, no distance changes at first, but only if all joints move alike it is a motion of the plane.
func TestMotionsAtOnePlace(t *testing.T) {
	next := numbersFrom(15)
	for _, p := range gridPlaces() {
		for points := 2; points <= impl.MaxJoints; points++ {
			f := impl.Framework{Graph: impl.Graph{Points: points}, Places: slices.Repeat([]impl.Place{p}, points)}
			if got := impl.MotionsOf(f); !sameSets(got, unitVectors(2*points)) {
				t.Errorf("MotionsOf(%v) = %v", f, got)
			}
			if v, ok := impl.FindMotion(f); !ok || !slices.Equal(v, unitVectors(2 * points)[0]) {
				t.Errorf("FindMotion(%v) = %v, %v", f, v, ok)
			}
			if v := slices.Repeat([]int{-maxSpeed, 3}, points); !impl.IsTrivialMotion(f, v) {
				t.Errorf("%v is not trivial for %v", v, f)
			}
			for joint := range points {
				v := withOne(f, joint, next(3)-1, 5)
				if !impl.IsMotion(f, v) || impl.IsTrivialMotion(f, v) || impl.ChangeOf(f, v, joint, (joint+1)%points) != 0 {
					t.Errorf("%v is trivial for %v, or changes a distance", v, f)
				}
			}
			checkMotionsOf(t, f)
		}
	}
}

// Six joints with all 15 bars, on a line with as many as fit, and with all bars but one.
func TestMotionsOfManyBars(t *testing.T) {
	next := numbersFrom(16)
	full := sixJoints()
	if l := impl.MotionsOf(full); len(full.Graph.Bars) != 15 || len(l) != 3 {
		t.Error("the motions of six joints with all bars:", l)
	}
	if v, ok := impl.FindMotion(full); ok || len(v) != 0 {
		t.Error("six joints with all bars have the motion", v)
	}
	all := []impl.Framework{
		full, frameworkOf(impl.CompleteGraph(6), 0, 0, 4, 0, 4, 4, 0, 4, 3, 1, 2, 3), frameworkOf(impl.CompleteGraph(6), 0, 0, 4, 3, 3, 4, 1, 0, 0, 1, 4, 4),
		frameworkOf(impl.CompleteGraph(6), 0, 0, 1, 0, 2, 0, 3, 0, 4, 0, 2, 4), frameworkOf(impl.CompleteGraph(6), 0, 0, 0, 4, 4, 0, 4, 4, 2, 0, 2, 4),
		frameworkOf(impl.OnlyBars(impl.CompleteGraph(6), firstBars(14)), 0, 0, 1, 1, 2, 2, 3, 3, 4, 4, 4, 4),
	}
	for bar := range full.Graph.Bars {
		less, _ := impl.RemoveBar(full.Graph, bar)
		all = append(all, impl.Framework{Graph: less, Places: full.Places})
	}
	for _, f := range all {
		checkMotionsByDefinition(t, f, next)
	}
	// On one line, turning each joint away from it changes no bar.
	line := all[5]
	if l := impl.MotionsOf(line); len(line.Graph.Bars) != 14 || len(l) != 7 {
		t.Error("the motions of six joints on a line:", l)
	}
	for joint := range 6 {
		if v := withOne(line, joint, 1, -1); !impl.IsMotion(line, v) || impl.IsTrivialMotion(line, v) {
			t.Errorf("%v is no motion of %v, or trivial", v, line)
		}
	}
}

// A motion is one of the framework with one more bar exactly if it does not change the distance of its ends.
func TestMotionsWithOneMoreBar(t *testing.T) {
	next := numbersFrom(17)
	kept, lost := 0, 0
	for _, f := range append(someFrameworks(), mixedFrameworks(8)...) {
		for a := range f.Places {
			for b := a + 1; b < len(f.Places); b++ {
				more := f
				more.Graph, _ = impl.AddBar(f.Graph, a, b)
				if !impl.IsFramework(more) {
					continue
				}
				for _, v := range append(mixedVelocities(f, next), impl.MotionsOf(f)...) {
					still := impl.IsMotion(f, v) && impl.ChangeOf(f, v, a, b) == 0
					if impl.IsMotion(more, v) != still {
						t.Fatalf("%v is a motion of %v: %v, and changes %d and %d by %d", v, f, impl.IsMotion(f, v), a, b, impl.ChangeOf(f, v, a, b))
					}
					if still {
						kept++
					} else {
						lost++
					}
				}
			}
		}
	}
	if kept < 1000 || lost < 1000 {
		t.Error("the velocities of this test are not mixed:", kept, lost)
	}
}

func TestChangeOf(t *testing.T) {
	f := frameworkOf(graphOf(3, 0, 1), 0, 0, 2, 0, 1, 3)
	v := []int{0, 0, 1, 0, 4, -2}
	for _, c := range []struct{ a, b, want int }{{0, 1, 2}, {1, 0, 2}, {0, 2, -2}, {2, 0, -2}, {1, 2, -9}, {2, 1, -9}, {0, 0, 0}, {1, 1, 0}, {2, 2, 0}} {
		if got := impl.ChangeOf(f, v, c.a, c.b); got != c.want {
			t.Errorf("ChangeOf(%v, %v, %d, %d) = %d, want %d", f, v, c.a, c.b, got, c.want)
		}
	}
	// It need not be a motion, and joints without a bar have a distance too; at one place it does not change at first.
	if impl.IsMotion(f, v) {
		t.Error("the bar becomes longer in a motion")
	}
	if n := impl.ChangeOf(frameworkOf(graphOf(2), 3, 3, 3, 3), []int{5, 6, -7, -8}, 0, 1); n != 0 {
		t.Error("the change at one place:", n)
	}
}

func TestFixMotion(t *testing.T) {
	for _, c := range []struct {
		f    impl.Framework
		v    []int
		a    int
		want []int
	}{
		{square(), []int{1, 1, 1, 1, 2, 1, 2, 1}, 0, []int{0, 0, 0, 0, 1, 0, 1, 0}},
		{square(), []int{1, 1, 1, 1, 2, 1, 2, 1}, 3, []int{-1, 0, -1, 0, 0, 0, 0, 0}},
		{square(), []int{1, -1, 1, 1, -1, 1, -1, -1}, 2, []int{2, -2, 2, 0, 0, 0, 0, -2}},
		{square(), []int{0, 0, 0, 0, 1, 0, 1, 0}, 1, []int{0, 0, 0, 0, 1, 0, 1, 0}},
		{square(), []int{3, -2, 3, -2, 3, -2, 3, -2}, 2, []int{0, 0, 0, 0, 0, 0, 0, 0}},
		// It is not made primitive.
		{frameworkOf(graphOf(2, 0, 1), 0, 0, 4, 0), []int{2, -4, 2, 4}, 0, []int{0, 0, 0, 8}},
		{frameworkOf(graphOf(2, 0, 1), 0, 0, 4, 0), []int{2, -4, 2, 4}, 1, []int{0, -8, 0, 0}},
	} {
		if got, ok := impl.FixMotion(c.f, c.v, c.a); !ok || !slices.Equal(got, c.want) {
			t.Errorf("FixMotion(%v, %v, %d) = %v, %v, want %v", c.f, c.v, c.a, got, ok, c.want)
		}
	}
	// What is no motion has no joint to fix, even if all bars of that joint keep their lengths.
	if got, ok := impl.FixMotion(square(), []int{0, 0, 0, 0, 1, 0, 0, 0}, 0); ok || len(got) != 0 {
		t.Error("no motion, with a joint fixed:", got)
	}
}

func TestGreatestVelocities(t *testing.T) {
	const m = maxSpeed
	line := frameworkOf(graphOf(3, 0, 1, 0, 2, 1, 2), 0, 0, 1, 0, 4, 0)
	corners := frameworkOf(graphOf(2), 0, 0, 4, 4)
	for _, c := range []struct {
		f               impl.Framework
		v               []int
		motion, trivial bool
	}{
		{line, []int{0, 0, 0, m / 4, 0, m}, true, true},
		{line, []int{0, 0, 0, m/4 - 1, 0, m}, true, false},
		{line, []int{0, 0, 0, m / 4, 0, m - 1}, true, false},
		{line, []int{m, -m, m, -m / 2, m, m}, true, true},
		{line, []int{m, -m, m, -m / 2, m - 1, m}, false, false},
		{line, []int{m, -m, m, 1 - m/2, m, m}, true, false},
		{corners, []int{m, -m, -m, m}, true, true},
		{corners, []int{-m, -m, m, m}, true, false},
		{corners, []int{m, -m, -m, m - 1}, true, false},
		{frameworkOf(graphOf(2, 0, 1), 0, 0, 4, 4), []int{m, -m, -m, m}, true, true},
		{frameworkOf(graphOf(2, 0, 1), 0, 0, 4, 4), []int{m, -m, -m, m - 1}, false, false},
		{frameworkOf(graphOf(2, 0, 1), 0, 4, 4, 0), []int{-m, -m, m, m}, true, true},
		{frameworkOf(graphOf(3), 0, 0, 4, 3, 4, 4), []int{0, 0, -3 * m / 4, m, -m, m}, true, true},
		{frameworkOf(graphOf(3), 0, 0, 4, 3, 4, 4), []int{0, 0, -3*m/4 + 1, m, -m, m}, true, false},
		{sixJoints(), slices.Repeat([]int{m}, 12), true, true},
		{sixJoints(), slices.Repeat([]int{-m, m}, 6), true, true},
	} {
		if impl.IsMotion(c.f, c.v) != c.motion || impl.IsTrivialMotion(c.f, c.v) != c.trivial {
			t.Errorf("%v of %v is a motion: %v, trivial: %v", c.v, c.f, impl.IsMotion(c.f, c.v), impl.IsTrivialMotion(c.f, c.v))
		}
		checkVelocity(t, c.f, c.v)
	}
	if n := impl.ChangeOf(corners, []int{-m, -m, m, m}, 0, 1); n != 16*m {
		t.Error("the greatest change is", n)
	}
	if n := impl.ChangeOf(corners, []int{m, m, -m, -m}, 1, 0); n != -16*m {
		t.Error("the least change is", n)
	}
	// The difference of two velocities may be too large for one.
	v, ok := impl.FixMotion(corners, []int{m, -m, -m, m}, 0)
	if !ok || !slices.Equal(v, []int{0, 0, -2 * m, 2 * m}) || impl.IsMotion(corners, v) || impl.IsTrivialMotion(corners, v) {
		t.Error("the difference of the greatest velocities:", v, ok)
	}
	if w, ok := impl.FixMotion(corners, v, 0); ok || len(w) != 0 {
		t.Error("too large for a velocity, and fixed:", w)
	}
}

// checkNoVelocity expects the fixed results for a list of numbers that is no velocity of f, or for any list if f is not valid.
func checkNoVelocity(t *testing.T, f impl.Framework, v []int) {
	if impl.IsMotion(f, v) || impl.IsTrivialMotion(f, v) {
		t.Errorf("%v of %v is a motion: %v, trivial: %v", v, f, impl.IsMotion(f, v), impl.IsTrivialMotion(f, v))
	}
	for a := -1; a <= 8; a++ {
		if w, ok := impl.FixMotion(f, v, a); ok || len(w) != 0 {
			t.Errorf("FixMotion(%v, %v, %d) = %v, %v", f, v, a, w, ok)
		}
		for b := -1; b <= 8; b++ {
			if n := impl.ChangeOf(f, v, a, b); n != 0 {
				t.Errorf("ChangeOf(%v, %v, %d, %d) = %d", f, v, a, b, n)
			}
		}
	}
}

func TestTooFewAndTooManyNumbers(t *testing.T) {
	for _, f := range append(someFrameworks(), square()) {
		for size := range 20 {
			if size == 2*f.Graph.Points {
				continue
			}
			checkNoVelocity(t, f, make([]int, size))
			checkNoVelocity(t, f, slices.Repeat([]int{1}, size))
			// The first numbers alone would be a velocity that changes distances.
			checkNoVelocity(t, f, []int{0, 0, 1, 3, 5, -1, 2, 0, 7, 4, -6, 0, 9, 9, 1, -8, 2, 2, 0, 3}[:size])
		}
		checkNoVelocity(t, f, nil)
	}
}

func TestTooLargeNumbers(t *testing.T) {
	// Some have a sum or product that wraps around to a small one, and some a magnitude that is no int.
	large := []int{maxSpeed + 1, -maxSpeed - 1, 2 * maxSpeed, maxSpeed * maxSpeed / 11, 1 << 34, 1 << 59, 1 << 60, 1 << 61, -1 << 61, 1 << 62, -1 << 62, 1<<62 + 1, math.MaxInt, math.MaxInt - 1, math.MinInt, math.MinInt + 1}
	for _, f := range append(someFrameworks(), square()) {
		width := 2 * f.Graph.Points
		for _, n := range large {
			for column := range width {
				v := make([]int, width)
				v[column] = n
				checkNoVelocity(t, f, v)
			}
			checkNoVelocity(t, f, slices.Repeat([]int{n}, width))
			checkNoVelocity(t, f, slices.Repeat([]int{n, -n}, width/2))
			checkNoVelocity(t, f, slices.Repeat([]int{0, n}, width/2))
		}
		for _, n := range []int{maxSpeed, -maxSpeed} {
			if v := slices.Repeat([]int{n}, width); !impl.IsMotion(f, v) || !impl.IsTrivialMotion(f, v) {
				t.Errorf("%v is no trivial motion of %v", v, f)
			}
		}
	}
}

func TestNoJoints(t *testing.T) {
	for _, f := range append(someFrameworks(), square()) {
		v := slices.Repeat([]int{2, -1}, f.Graph.Points)
		v[0] += 3
		shift := slices.Repeat([]int{2, -1}, f.Graph.Points)
		for _, a := range []int{math.MinInt, -7, -1, f.Graph.Points, f.Graph.Points + 1, 6, 12, 1 << 32, 1 << 62, math.MaxInt} {
			if w, ok := impl.FixMotion(f, shift, a); ok || len(w) != 0 {
				t.Errorf("FixMotion(%v, %v, %d) = %v, %v", f, shift, a, w, ok)
			}
			for _, b := range []int{0, f.Graph.Points - 1, a, -1, math.MaxInt} {
				if n, m := impl.ChangeOf(f, v, a, b), impl.ChangeOf(f, v, b, a); n != 0 || m != 0 {
					t.Errorf("ChangeOf(%v, %v, %d, %d) = %d, and %d the other way", f, v, a, b, n, m)
				}
			}
		}
	}
}

// checkInvalidMotions expects the fixed result of each function.
func checkInvalidMotions(t *testing.T, f impl.Framework) {
	if l, plane := impl.MotionsOf(f), impl.PlaneMotions(f); len(l) != 0 || len(plane) != 0 {
		t.Errorf("%v, which is not valid, has the motions %v and %v", f, l, plane)
	}
	if v, ok := impl.FindMotion(f); ok || len(v) != 0 {
		t.Errorf("%v, which is not valid, has the motion %v, %v", f, v, ok)
	}
	for _, size := range []int{0, 2, 2 * len(f.Places), 2 * max(0, min(f.Graph.Points, 9))} {
		checkNoVelocity(t, f, make([]int, size))
		checkNoVelocity(t, f, slices.Repeat([]int{1}, size))
		checkNoVelocity(t, f, slices.Repeat([]int{1, 0, 3, -2}, size)[:size])
	}
}

func TestMotionsInvalid(t *testing.T) {
	for _, f := range invalidFrameworks() {
		checkInvalidMotions(t, f)
	}
	triangle := frameworkOf(impl.CompleteGraph(3), 0, 0, 4, 0, 1, 3)
	if len(impl.MotionsOf(triangle)) != 3 || len(impl.PlaneMotions(triangle)) != 3 {
		t.Error("the motions of the triangle:", impl.MotionsOf(triangle), impl.PlaneMotions(triangle))
	}
	for _, f := range []impl.Framework{
		{Graph: triangle.Graph, Places: triangle.Places[:2]}, {Graph: triangle.Graph, Places: append(slices.Clone(triangle.Places), impl.Place{X: 2, Y: 2})}, {Graph: triangle.Graph},
		withPlace(triangle, 2, impl.Place{X: 4, Y: 0}), withPlace(triangle, 1, impl.Place{X: 5, Y: 0}), withPlace(triangle, 0, impl.Place{X: 0, Y: -1}),
		{Graph: graphOf(3, 0, 1, 0, 2, 1, 2, 1, 2), Places: triangle.Places}, {Graph: graphOf(3, 0, 2, 0, 1, 1, 2), Places: triangle.Places}, {Graph: graphOf(3, 1, 0, 0, 2, 1, 2), Places: triangle.Places},
		{Graph: graphOf(7), Places: gridPlaces()[:7]}, frameworkOf(graphOf(0)), frameworkOf(graphOf(-1)),
	} {
		checkInvalidMotions(t, f)
	}
}

func TestMotionsAreNotShared(t *testing.T) {
	for _, f := range append(append(someFrameworks(), invalidFrameworks()...), mixedFrameworks(3)...) {
		// The velocity shifts all joints, so that it is a motion, and has room behind it.
		room := inRoom(slices.Repeat([]int{3, -5}, max(0, min(f.Graph.Points, 9))), 77)
		want := slices.Clone(room)
		call := func(f impl.Framework) impl.Framework {
			v := room[:len(room)-4]
			basis, plane := impl.MotionsOf(f), impl.PlaneMotions(f)
			found, _ := impl.FindMotion(f)
			fixed, _ := impl.FixMotion(f, v, 0)
			impl.IsMotion(f, v)
			impl.IsTrivialMotion(f, v)
			impl.ChangeOf(f, v, 0, 1)
			if overwrite(basis) || overwrite(plane) {
				t.Errorf("two motions of %v share memory", f)
			}
			overwrite([][]int{append(found, 1), append(fixed, 1), fixed})
			return impl.Framework{}
		}
		if changeSharedPlaces(f, call) || !slices.Equal(room, want) {
			t.Errorf("the arguments of %v were changed: %v", f, room)
		}
	}
	// What is appended to a motion does not get into the next one, and what is written to it not into a later result.
	f := square()
	plane, basis := impl.PlaneMotions(f), impl.MotionsOf(f)
	plane[0], basis[0] = append(plane[0], 9), append(basis[0], 9)
	plane[0][0], basis[0][0] = 8, 8
	if plane[1][0] != 0 || basis[1][0] != 0 || !sameSets(impl.PlaneMotions(f), planeByDefinition(f)) {
		t.Error("two motions share memory:", plane, basis, impl.PlaneMotions(f))
	}
	if v, _ := impl.FindMotion(f); !slices.Equal(v, []int{1, 0, 1, 0, 0, 0, 0, 0}) {
		t.Error("a later result is different:", v)
	}
}
