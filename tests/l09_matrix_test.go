package tests

import (
	"math"
	"math/big"
	"slices"
	"testing"

	"loop.example/g02078/impl"
)

// Promise 6, the part on matrices: rank and null space are exact.

// maxMagnitude is the greatest magnitude of which a greatest common divisor is taken.
const maxMagnitude = 9000000000000000000

func zeroMatrix(height, width int) [][]int {
	m := make([][]int, height)
	for i := range m {
		m[i] = make([]int, width)
	}
	return m
}

// determinant expands by the first row.
func determinant(m [][]int) int {
	if len(m) == 0 {
		return 1
	}
	sum, sign := 0, 1
	for column, n := range m[0] {
		var rest [][]int
		for _, row := range m[1:] {
			rest = append(rest, slices.Delete(slices.Clone(row), column, column+1))
		}
		sum += sign * n * determinant(rest)
		sign = -sign
	}
	return sum
}

// rankByMinors returns the size of the largest minor of the first columns that is not 0.
func rankByMinors(m [][]int, columns int) int {
	rank := 0
	for a := range 1 << len(m) {
		for b := range 1 << columns {
			rows, places := barsOfCode(a, len(m)), barsOfCode(b, columns)
			if len(rows) != len(places) || len(rows) <= rank {
				continue
			}
			var minor [][]int
			for _, i := range rows {
				var row []int
				for _, j := range places {
					row = append(row, m[i][j])
				}
				minor = append(minor, row)
			}
			if determinant(minor) != 0 {
				rank = len(rows)
			}
		}
	}
	return rank
}

// rankByFractions eliminates the first columns with fractions of any size.
func rankByFractions(m [][]int, columns int) int {
	var rows [][]*big.Rat
	for _, row := range m {
		var fractions []*big.Rat
		for _, n := range row[:columns] {
			fractions = append(fractions, new(big.Rat).SetInt64(int64(n)))
		}
		rows = append(rows, fractions)
	}
	rank := 0
	for column := range columns {
		first := slices.IndexFunc(rows, func(row []*big.Rat) bool { return row[column].Sign() != 0 })
		if first < 0 {
			continue
		}
		pivot := rows[first]
		rows = slices.Delete(rows, first, first+1)
		for _, row := range rows {
			factor := new(big.Rat).Quo(row[column], pivot[column])
			for j := range row {
				row[j] = new(big.Rat).Sub(row[j], new(big.Rat).Mul(factor, pivot[j]))
			}
		}
		rank++
	}
	return rank
}

// productByDefinition wraps around like the numbers without a sign.
func productByDefinition(m [][]int, v []int) []int {
	var out []int
	for _, row := range m {
		sum := uint64(0)
		for j, n := range row {
			sum += uint64(n) * uint64(v[j])
		}
		out = append(out, int(sum))
	}
	return out
}

func transposedByDefinition(m [][]int) [][]int {
	var out [][]int
	for j := range m[0] {
		var row []int
		for i := range m {
			row = append(row, m[i][j])
		}
		out = append(out, row)
	}
	return out
}

func gcdByDefinition(a, b int) int {
	x, y := big.NewInt(int64(a)), big.NewInt(int64(b))
	return int(new(big.Int).GCD(nil, nil, x.Abs(x), y.Abs(y)).Int64())
}

// isPrimitive expects a vector that is not 0.
func isPrimitive(v []int) bool {
	divisor := 0
	for _, n := range v {
		divisor = gcdByDefinition(divisor, n)
	}
	first := slices.IndexFunc(v, func(n int) bool { return n != 0 })
	return divisor == 1 && v[first] > 0
}

// checkNullspace compares with the columns that do not raise the rank; up to a factor there is one vector for each. The matrix may have no rows.
func checkNullspace(t *testing.T, m [][]int, width int, basis [][]int, rankOf func([][]int, int) int) {
	var free []int
	for column := range width {
		if rankOf(m, column+1) == rankOf(m, column) {
			free = append(free, column)
		}
	}
	if len(basis) != len(free) {
		t.Fatalf("the null space of %v is %v, but the columns %v are free", m, basis, free)
	}
	for i, v := range basis {
		if len(v) != width || slices.ContainsFunc(productByDefinition(m, v), func(n int) bool { return n != 0 }) {
			t.Fatalf("the null space of %v has %v", m, v)
		}
		for _, column := range free {
			if (v[column] != 0) != (column == free[i]) {
				t.Fatalf("the null space of %v has %v for column %d", m, v, free[i])
			}
		}
		if !isPrimitive(v) {
			t.Fatalf("the null space of %v has %v, which is not primitive", m, v)
		}
	}
}

func checkMatrix(t *testing.T, m [][]int, rankOf func([][]int, int) int) {
	rank := rankOf(m, len(m[0]))
	if !impl.IsMatrix(m) || impl.RankOfMatrix(m) != rank {
		t.Fatalf("%v is valid: %v; its rank is %d, want %d", m, impl.IsMatrix(m), impl.RankOfMatrix(m), rank)
	}
	checkNullspace(t, m, len(m[0]), impl.NullspaceOf(m), rankOf)
	x := impl.TransposeMatrix(m)
	if !sameSets(x, transposedByDefinition(m)) {
		t.Fatalf("TransposeMatrix(%v) = %v", m, x)
	}
	if impl.IsMatrix(x) && impl.RankOfMatrix(x) != rank {
		t.Fatalf("%v has the rank %d, but %v has %d", m, rank, x, impl.RankOfMatrix(x))
	}
}

// checkNoMatrix expects the fixed result of each function.
func checkNoMatrix(t *testing.T, m [][]int) {
	if impl.IsMatrix(m) || impl.RankOfMatrix(m) != -1 || len(impl.NullspaceOf(m)) != 0 || len(impl.TransposeMatrix(m)) != 0 {
		t.Errorf("%v is no matrix: %v, rank %d, null space %v, transposed %v", m, !impl.IsMatrix(m), impl.RankOfMatrix(m), impl.NullspaceOf(m), impl.TransposeMatrix(m))
	}
	for width := range impl.MaxColumns + 3 {
		if v := impl.TimesVector(m, slices.Repeat([]int{1}, width)); len(v) != 0 {
			t.Errorf("TimesVector of %v, which is no matrix, and %d numbers = %v", m, width, v)
		}
	}
}

// numbersFrom returns a function that gives numbers below a limit, the same ones for the same start.
func numbersFrom(start uint64) func(limit int) int {
	state := start
	return func(limit int) int {
		state = state*6364136223846793005 + 1442695040888963407
		return int(state>>33) % limit
	}
}

// mixedRow adds numbers at mixed places as long as the squares allow.
func mixedRow(width int, next func(int) int) []int {
	row := make([]int, width)
	left := 64
	for range 2 * width {
		i, n := next(width), next(17)-8
		if left+row[i]*row[i]-n*n >= 0 {
			left += row[i]*row[i] - n*n
			row[i] = n
		}
	}
	return row
}

// mixedMatrix has some rows that are sums or differences of others, where these are small enough.
func mixedMatrix(height, width int, next func(int) int) [][]int {
	var m [][]int
	for len(m) < height {
		row := mixedRow(width, next)
		if len(m) > 1 && next(2) == 0 {
			a, b, sign := m[next(len(m))], m[next(len(m))], 1-2*next(2)
			sum, squares := make([]int, width), 0
			for j := range sum {
				sum[j] = a[j] + sign*b[j]
				squares += sum[j] * sum[j]
			}
			if squares <= 64 && !slices.ContainsFunc(sum, func(n int) bool { return n < -8 || n > 8 }) {
				row = sum
			}
		}
		m = append(m, row)
	}
	return m
}

func TestMatrices(t *testing.T) {
	for _, c := range []struct {
		m     [][]int
		rank  int
		basis [][]int
	}{
		{[][]int{{0}}, 0, [][]int{{1}}},
		{[][]int{{5}}, 1, nil},
		{[][]int{{-8}}, 1, nil},
		{[][]int{{1, 2, 3}, {2, 4, 6}, {0, 1, 1}}, 2, [][]int{{1, 1, -1}}},
		{[][]int{{2, 3, 0}}, 1, [][]int{{3, -2, 0}, {0, 0, 1}}},
		{[][]int{{-2, 4, 6}}, 1, [][]int{{2, 1, 0}, {3, 0, 1}}},
		{[][]int{{0, 0, 3, -6}}, 1, [][]int{{1, 0, 0, 0}, {0, 1, 0, 0}, {0, 0, 2, 1}}},
		{[][]int{{4, 6}}, 1, [][]int{{3, -2}}},
		{[][]int{{1, 2}, {3, 4}}, 2, nil},
		{[][]int{{1, 2}, {3, 4}, {5, 6}}, 2, nil},
		{[][]int{{2, 2}, {1, 1}, {3, 3}}, 1, [][]int{{1, -1}}},
		// The first row begins with 0, and rows are equal or 0.
		{[][]int{{0, 1, 1}, {1, 0, 1}}, 2, [][]int{{1, 1, -1}}},
		{[][]int{{0, 0, 0}, {1, 1, 1}, {1, 1, 1}, {0, 0, 0}, {0, 2, 0}}, 2, [][]int{{1, 0, -1}}},
		{[][]int{{1, 0, 2, 0, 3}, {0, 1, 4, 0, 5}, {0, 0, 0, 1, 6}}, 3, [][]int{{2, 4, -1, 0, 0}, {3, 5, 0, 6, -1}}},
		// The rows of the pivots have different numbers.
		{[][]int{{3, 0, 1}, {0, 5, 1}}, 2, [][]int{{5, 3, -15}}},
		{[][]int{{6, 0, 4, 2}, {0, 4, 6, 1}}, 2, [][]int{{4, 9, -6, 0}, {4, 3, 0, -12}}},
		// The bars of a triangle.
		{[][]int{{-1, 0, 1, 0, 0, 0}, {0, -1, 0, 0, 0, 1}, {0, 0, 1, -1, -1, 1}}, 3, [][]int{{1, 0, 1, 1, 0, 0}, {1, 0, 1, 0, 1, 0}, {1, -1, 1, 0, 0, -1}}},
	} {
		if l := impl.NullspaceOf(c.m); impl.RankOfMatrix(c.m) != c.rank || !sameSets(l, c.basis) {
			t.Errorf("%v has the rank %d and the null space %v, want %d and %v", c.m, impl.RankOfMatrix(c.m), l, c.rank, c.basis)
		}
		checkMatrix(t, c.m, rankByMinors)
		checkMatrix(t, c.m, rankByFractions)
	}
}

// A column of zeros depends on the columns before it, even if there are none.
func TestColumnOfZeros(t *testing.T) {
	full := [][]int{{1, 2, 3}, {4, 5, 1}, {7, 2, 1}}
	for place := range 4 {
		var m [][]int
		for _, row := range full {
			m = append(m, slices.Insert(slices.Clone(row), place, 0))
		}
		unit := make([]int, 4)
		unit[place] = 1
		if l := impl.NullspaceOf(m); impl.RankOfMatrix(m) != 3 || !sameSets(l, [][]int{unit}) {
			t.Errorf("%v has the rank %d and the null space %v", m, impl.RankOfMatrix(m), l)
		}
		checkMatrix(t, m, rankByMinors)
	}
	for _, c := range []struct {
		m     [][]int
		rank  int
		basis [][]int
	}{
		{[][]int{{0, 2, 0, 4, 0}}, 1, [][]int{{1, 0, 0, 0, 0}, {0, 0, 1, 0, 0}, {0, 2, 0, -1, 0}, {0, 0, 0, 0, 1}}},
		{[][]int{{0, 1, 0, 1}, {0, 1, 0, 2}}, 2, [][]int{{1, 0, 0, 0}, {0, 0, 1, 0}}},
		{[][]int{{0}, {0}, {3}}, 1, nil},
		{[][]int{{0, 0}, {0, 0}, {0, 3}}, 1, [][]int{{1, 0}}},
		{[][]int{{0, 0}, {3, 0}}, 1, [][]int{{0, 1}}},
	} {
		if l := impl.NullspaceOf(c.m); impl.RankOfMatrix(c.m) != c.rank || !sameSets(l, c.basis) {
			t.Errorf("%v has the rank %d and the null space %v, want %d and %v", c.m, impl.RankOfMatrix(c.m), l, c.rank, c.basis)
		}
	}
	for height := 1; height <= impl.MaxRows; height++ {
		for width := 1; width <= impl.MaxColumns; width++ {
			var units [][]int
			for column := range width {
				unit := make([]int, width)
				unit[column] = 1
				units = append(units, unit)
			}
			m := zeroMatrix(height, width)
			if l := impl.NullspaceOf(m); impl.RankOfMatrix(m) != 0 || !sameSets(l, units) {
				t.Errorf("%v has the rank %d and the null space %v", m, impl.RankOfMatrix(m), l)
			}
		}
	}
}

func TestMatricesByDefinition(t *testing.T) {
	for _, c := range []struct{ height, width, most int }{
		{1, 1, 8}, {1, 2, 5}, {1, 3, 4}, {2, 1, 8}, {2, 2, 5}, {2, 3, 2}, {3, 2, 2}, {3, 3, 1}, {2, 4, 1}, {4, 2, 1}, {5, 1, 1}, {1, 5, 2},
	} {
		numbers := make([]int, c.height*c.width)
		for more := true; more; more = increase(numbers, 2*c.most+1) {
			m := zeroMatrix(c.height, c.width)
			for i, n := range numbers {
				m[i/c.width][i%c.width] = n - c.most
			}
			checkMatrix(t, m, rankByMinors)
		}
	}
}

func TestMixedMatrices(t *testing.T) {
	next := numbersFrom(1)
	ranks := map[int]int{}
	for height := 1; height <= impl.MaxRows; height++ {
		for width := 1; width <= impl.MaxColumns; width++ {
			for range 3 {
				m := mixedMatrix(height, width, next)
				checkMatrix(t, m, rankByFractions)
				ranks[impl.RankOfMatrix(m)-min(height, width)]++
			}
		}
	}
	// Rows that depend on others occur as well as rows that do not.
	if ranks[0] < 50 || ranks[-1] < 20 || ranks[-2] < 5 {
		t.Error("the matrices of this test are not mixed:", ranks)
	}
}

// rowsOfPairs has a and b side by side, one column further in each row, so that the null space has the powers of both.
func rowsOfPairs(a, b int) [][]int {
	m := zeroMatrix(impl.MaxRows, impl.MaxRows+1)
	for i := range m {
		m[i][i], m[i][i+1] = a, b
	}
	return m
}

func TestLargestMinors(t *testing.T) {
	for _, c := range []struct{ a, b int }{{1, -7}, {7, -1}, {5, -6}, {6, -5}, {-5, 6}, {3, 7}, {7, 3}, {5, 6}} {
		m := rowsOfPairs(c.a, c.b)
		want := make([]int, len(m[0]))
		for j := range want {
			want[j] = 1
			for range len(m) - j {
				want[j] *= -c.b
			}
			for range j {
				want[j] *= c.a
			}
		}
		if want[0] < 0 {
			for j := range want {
				want[j] = -want[j]
			}
		}
		if l := impl.NullspaceOf(m); impl.RankOfMatrix(m) != impl.MaxRows || !sameSets(l, [][]int{want}) {
			t.Errorf("%v has the rank %d and the null space %v, want %v", m, impl.RankOfMatrix(m), l, want)
		}
	}
	// Rows of the length 8 at right angles: the determinant is 8 to the ninth power.
	square := zeroMatrix(9, 9)
	for i := range 8 {
		for j := range 4 {
			square[i][i/4*4+j] = 4
			if i%4&j == 1 || i%4&j == 2 {
				square[i][i/4*4+j] = -4
			}
		}
	}
	square[8][8] = 8
	checkMatrix(t, square, rankByFractions)
	if impl.RankOfMatrix(square) != 9 || len(impl.NullspaceOf(square)) != 0 {
		t.Error("rows at right angles are dependent:", square)
	}
	// The last row is equal to the first one but for its last number.
	square[8] = slices.Clone(square[0])
	checkMatrix(t, square, rankByFractions)
	if impl.RankOfMatrix(square) != 8 || len(impl.NullspaceOf(square)) != 1 {
		t.Error("equal rows are independent:", square)
	}
	square[8][3], square[8][8] = 3, 2
	checkMatrix(t, square, rankByFractions)
	if impl.RankOfMatrix(square) != 9 {
		t.Error("different rows are dependent:", square)
	}
}

func TestMatrixLimits(t *testing.T) {
	for height := range impl.MaxRows + 3 {
		for width := range impl.MaxColumns + 3 {
			m := zeroMatrix(height, width)
			if height >= 1 && height <= 9 && width >= 1 && width <= 12 {
				if !impl.IsMatrix(m) {
					t.Errorf("%d rows of %d numbers are no matrix", height, width)
				}
				continue
			}
			checkNoMatrix(t, m)
		}
	}
	for _, n := range []int{-9, -8, -7, 7, 8, 9, 10, 64, 65, 1 << 31, 1<<32 - 1, 1 << 32, -1 << 32, 1<<32 + 1, 1 << 33, 3037000500, -3037000500, 1 << 62, math.MaxInt, math.MaxInt - 8, math.MinInt, math.MinInt + 8} {
		for place := range 6 {
			m := zeroMatrix(2, 3)
			m[place/3][place%3] = n
			if n >= -8 && n <= 8 {
				checkMatrix(t, m, rankByMinors)
				continue
			}
			checkNoMatrix(t, m)
		}
		if n < -8 || n > 8 {
			checkNoMatrix(t, [][]int{{n}})
			checkNoMatrix(t, [][]int{{n, n, n, n}})
			checkNoMatrix(t, [][]int{{n, -n}, {0, 0}})
		}
	}
	numbers := make([]int, 3)
	for more := true; more; more = increase(numbers, 21) {
		a, b, c := numbers[0]-10, numbers[1]-10, numbers[2]-10
		want := max(a, b, c) <= 8 && min(a, b, c) >= -8 && a*a+b*b+c*c <= 64
		if impl.IsMatrix([][]int{{a, b, c}}) != want || impl.IsMatrix([][]int{{8, 0, 0}, {a, b, c}, {0, 0, 0}}) != want {
			t.Fatalf("a row of %d, %d and %d is valid: %v", a, b, c, !want)
		}
	}
}

func TestRowSquares(t *testing.T) {
	for _, row := range [][]int{{4, 4, 4, 4}, {-4, 4, -4, 4}, {8, 0, 0, 0}, {0, -8}, {7, 3, 2, 1, 1}, {6, 5, 1, 1, 1}, {4, 0, 4, 4, 0, -4}, {2, 2, 2, 2, 2, 2, 2, 2, 2, 3, 3, 3}, {4, 4, 2, 2, 2, 2, 2, 2, 2, 2, 0, 0}, {1, 1, 1, 1, 1, 1, 1, 1, 1, 1, 1, 7}} {
		checkMatrix(t, [][]int{row}, rankByFractions)
		checkMatrix(t, slices.Repeat([][]int{row}, impl.MaxRows), rankByFractions)
	}
	for _, row := range [][]int{{8, 1}, {1, 8}, {-8, -1}, {8, 8}, {7, 4}, {-7, 4}, {6, 5, 2}, {4, 4, 4, 4, 1}, {5, 6, 1, 1, 1, 1}, {4, 4, 4, 4, 0, 0, 0, 0, 0, 0, 0, 1}, {2, 2, 2, 2, 2, 2, 2, 2, 2, 3, 3, 4}, {8, 8, 8, 8, 8, 8, 8, 8, 8, 8, 8, 8}} {
		checkNoMatrix(t, [][]int{row})
		for place := range impl.MaxRows {
			m := zeroMatrix(impl.MaxRows, len(row))
			m[place] = row
			checkNoMatrix(t, m)
		}
	}
}

func TestMatricesInvalid(t *testing.T) {
	for _, m := range [][][]int{
		nil, {}, {nil}, {{}}, {{}, {}}, {nil, nil, nil},
		{{1}, {1, 2}}, {{1, 2}, {1}}, {{1}, {}}, {{}, {1}}, {{1}, nil}, {nil, {1}}, {{1, 2}, {1, 2}, {1, 2, 0}}, {{1, 2}, {1, 2}, {1}},
		{{1, 0}, {0, 1, 0}, {0, 1}}, {{0, 0}, {0}, {0, 0}, {0, 0, 0}},
	} {
		checkNoMatrix(t, m)
	}
	for place := range impl.MaxRows {
		for _, width := range []int{0, 1, 11, 13, 24} {
			m := zeroMatrix(impl.MaxRows, impl.MaxColumns)
			m[place] = make([]int, width)
			checkNoMatrix(t, m)
		}
	}
	checkNoMatrix(t, zeroMatrix(1, 1000))
	checkNoMatrix(t, zeroMatrix(1000, 1))
	checkNoMatrix(t, slices.Repeat([][]int{{1, 0}}, 10))
	checkNoMatrix(t, [][]int{slices.Repeat([]int{1}, 13)})
}

func TestTransposeMatrix(t *testing.T) {
	for _, c := range []struct{ m, want [][]int }{
		{[][]int{{1, 2}, {3, 4}, {5, 6}}, [][]int{{1, 3, 5}, {2, 4, 6}}},
		{[][]int{{7}}, [][]int{{7}}},
		{[][]int{{1, 2, 3}}, [][]int{{1}, {2}, {3}}},
		{[][]int{{1}, {2}, {3}}, [][]int{{1, 2, 3}}},
		// The result may be beyond the limits: more rows than MaxRows, and squares that add up to more.
		{[][]int{{0, 1, 2, 3, 0, 0, 0, 0, 0, 0, 0, 7}}, [][]int{{0}, {1}, {2}, {3}, {0}, {0}, {0}, {0}, {0}, {0}, {0}, {7}}},
		{[][]int{{8}, {8}, {-8}}, [][]int{{8, 8, -8}}},
	} {
		if x := impl.TransposeMatrix(c.m); !sameSets(x, c.want) {
			t.Errorf("TransposeMatrix(%v) = %v", c.m, x)
		}
	}
	next := numbersFrom(2)
	for height := 1; height <= impl.MaxRows; height++ {
		for width := 1; width <= impl.MaxColumns; width++ {
			m := mixedMatrix(height, width, next)
			x := impl.TransposeMatrix(m)
			if !sameSets(x, transposedByDefinition(m)) {
				t.Fatalf("TransposeMatrix(%v) = %v", m, x)
			}
			if impl.IsMatrix(x) && !sameSets(impl.TransposeMatrix(x), m) {
				t.Fatalf("TransposeMatrix(%v) = %v", x, impl.TransposeMatrix(x))
			}
		}
	}
}

func TestTimesVector(t *testing.T) {
	for _, c := range []struct {
		m    [][]int
		v    []int
		want []int
	}{
		{[][]int{{1, 2, 3}, {2, 4, 6}, {0, 1, 1}}, []int{1, 1, -1}, []int{0, 0, 0}},
		{[][]int{{1, 2, 3}, {2, 4, 6}, {0, 1, 1}}, []int{1, 10, 100}, []int{321, 642, 110}},
		{[][]int{{3, -4}}, []int{-5, 6}, []int{-39}},
		{[][]int{{2}, {-3}, {0}}, []int{7}, []int{14, -21, 0}},
		{[][]int{{0, 0}}, []int{math.MinInt, math.MaxInt}, []int{0}},
		// Products and sums that wrap around.
		{[][]int{{8}}, []int{math.MaxInt}, []int{-8}},
		{[][]int{{2}}, []int{1 << 62}, []int{math.MinInt}},
		{[][]int{{-1}, {1}, {2}, {-8}}, []int{math.MinInt}, []int{math.MinInt, math.MinInt, 0, 0}},
		{[][]int{{8}, {4}}, []int{1 << 61}, []int{0, math.MinInt}},
		{[][]int{{1, 1}, {1, -1}}, []int{math.MaxInt, 1}, []int{math.MinInt, math.MaxInt - 1}},
		{[][]int{{1, -1}, {-1, -1}}, []int{math.MinInt, 1}, []int{math.MaxInt, math.MaxInt}},
		{[][]int{{1, 1, -2}}, []int{math.MaxInt, math.MaxInt, math.MaxInt}, []int{0}},
	} {
		if v := impl.TimesVector(c.m, c.v); !slices.Equal(v, c.want) {
			t.Errorf("TimesVector(%v, %v) = %v, want %v", c.m, c.v, v, c.want)
		}
	}
	next := numbersFrom(3)
	for height := 1; height <= impl.MaxRows; height++ {
		for width := 1; width <= impl.MaxColumns; width++ {
			m := mixedMatrix(height, width, next)
			small, large := make([]int, width), make([]int, width)
			for j := range width {
				small[j], large[j] = next(21)-10, next(1<<30)<<33-next(1<<30)
			}
			for _, v := range [][]int{small, large} {
				if got := impl.TimesVector(m, v); !slices.Equal(got, productByDefinition(m, v)) {
					t.Fatalf("TimesVector(%v, %v) = %v", m, v, got)
				}
			}
			// Vectors of another length.
			for other := range impl.MaxColumns + 3 {
				if other != width && len(impl.TimesVector(m, slices.Repeat([]int{1}, other))) != 0 {
					t.Errorf("TimesVector(%v) accepts %d numbers", m, other)
				}
			}
			if len(impl.TimesVector(m, nil)) != 0 {
				t.Errorf("TimesVector(%v) accepts no numbers", m)
			}
		}
	}
}

func TestPrimitiveVector(t *testing.T) {
	for _, c := range []struct{ v, want []int }{
		{nil, nil},
		{[]int{}, nil},
		{[]int{0}, []int{0}},
		{[]int{0, 0}, []int{0, 0}},
		{[]int{5}, []int{1}},
		{[]int{-5}, []int{1}},
		{[]int{0, -4, 6}, []int{0, 2, -3}},
		{[]int{0, 0, -3, 0}, []int{0, 0, 1, 0}},
		{[]int{4, 6, -10}, []int{2, 3, -5}},
		{[]int{-4, -6, -10}, []int{2, 3, 5}},
		{[]int{-7, 3}, []int{7, -3}},
		{[]int{3, -7}, []int{3, -7}},
		{[]int{6, 10, 15}, []int{6, 10, 15}},
		{[]int{-6, 0, 10, 15}, []int{6, 0, -10, -15}},
		{[]int{maxMagnitude}, []int{1}},
		{[]int{-maxMagnitude, 6000000000000000000}, []int{3, -2}},
		{[]int{0, 6000000000000000000, -maxMagnitude}, []int{0, 2, -3}},
		{[]int{-maxMagnitude, maxMagnitude - 1}, []int{maxMagnitude, 1 - maxMagnitude}},
		{[]int{1, maxMagnitude}, []int{1, maxMagnitude}},
		// The vector as it is, if a number is too large.
		{[]int{maxMagnitude + 1}, []int{maxMagnitude + 1}},
		{[]int{-maxMagnitude - 1}, []int{-maxMagnitude - 1}},
		{[]int{-2, 4, maxMagnitude + 2}, []int{-2, 4, maxMagnitude + 2}},
		{[]int{-maxMagnitude - 2, -2, 4}, []int{-maxMagnitude - 2, -2, 4}},
		{[]int{0, -6, math.MinInt, -9}, []int{0, -6, math.MinInt, -9}},
		{[]int{math.MinInt}, []int{math.MinInt}},
		{[]int{math.MinInt, 0}, []int{math.MinInt, 0}},
		{[]int{0, math.MaxInt}, []int{0, math.MaxInt}},
		{[]int{math.MinInt, math.MinInt, 2}, []int{math.MinInt, math.MinInt, 2}},
		{[]int{-3, -3, math.MaxInt}, []int{-3, -3, math.MaxInt}},
	} {
		if v := impl.PrimitiveVector(c.v); !slices.Equal(v, c.want) {
			t.Errorf("PrimitiveVector(%v) = %v, want %v", c.v, v, c.want)
		}
	}
}

func TestPrimitiveVectorByDefinition(t *testing.T) {
	for size := 1; size <= 4; size++ {
		numbers := make([]int, size)
		for more := true; more; more = increase(numbers, 17) {
			v, divisor := make([]int, size), 0
			for i, n := range numbers {
				v[i] = n - 8
				divisor = gcdByDefinition(divisor, v[i])
			}
			got := impl.PrimitiveVector(v)
			if divisor == 0 {
				if !slices.Equal(got, v) {
					t.Fatalf("PrimitiveVector(%v) = %v", v, got)
				}
				continue
			}
			if first := slices.IndexFunc(v, func(n int) bool { return n != 0 }); v[first] < 0 {
				divisor = -divisor
			}
			for i := range got {
				if len(got) != size || got[i]*divisor != v[i] {
					t.Fatalf("PrimitiveVector(%v) = %v", v, got)
				}
			}
		}
	}
	// A vector may be longer than a row of a matrix.
	long := slices.Repeat([]int{0, -6, 9}, 100)
	if v := impl.PrimitiveVector(long); !slices.Equal(v, slices.Repeat([]int{0, 2, -3}, 100)) {
		t.Error("PrimitiveVector of 300 numbers =", v)
	}
}

func TestGcdOf(t *testing.T) {
	for _, c := range []struct{ a, b, want int }{
		{0, 0, 0}, {0, 7, 7}, {7, 0, 7}, {0, -7, 7}, {-7, 0, 7}, {1, 1, 1}, {12, -18, 6}, {-12, 18, 6}, {-12, -18, 6}, {18, 12, 6},
		{17, 5, 1}, {5, 5, 5}, {-5, 5, 5}, {6, 3, 3}, {3, 6, 3}, {1, 0, 1}, {-1, 0, 1}, {1 << 40, 1 << 20, 1 << 20},
		{7540113804746346429, 4660046610375530309, 1},
		{maxMagnitude, 0, maxMagnitude}, {0, -maxMagnitude, maxMagnitude}, {maxMagnitude, -maxMagnitude, maxMagnitude},
		{-maxMagnitude, 6000000000000000000, 3000000000000000000}, {maxMagnitude, maxMagnitude - 1, 1}, {maxMagnitude, 7, 1}, {-maxMagnitude, -1, 1},
	} {
		if n := impl.GcdOf(c.a, c.b); n != c.want {
			t.Errorf("GcdOf(%d, %d) = %d, want %d", c.a, c.b, n, c.want)
		}
	}
	for a := -60; a <= 60; a++ {
		for b := -60; b <= 60; b++ {
			want := 0
			for n := 1; n <= 60; n++ {
				if a%n == 0 && b%n == 0 && (a != 0 || b != 0) {
					want = n
				}
			}
			if n := impl.GcdOf(a, b); n != want {
				t.Fatalf("GcdOf(%d, %d) = %d, want %d", a, b, n, want)
			}
		}
	}
	next := numbersFrom(4)
	for range 2000 {
		factor := next(1<<20) + 1
		a, b := factor*(next(1<<30)-1<<29), factor*(next(1<<30)-1<<29)
		if n := impl.GcdOf(a, b); n != gcdByDefinition(a, b) {
			t.Fatalf("GcdOf(%d, %d) = %d", a, b, n)
		}
	}
}

func TestGcdOfInvalid(t *testing.T) {
	for _, a := range []int{maxMagnitude + 1, -maxMagnitude - 1, maxMagnitude + 2, -maxMagnitude - 2, math.MaxInt, -math.MaxInt, math.MinInt} {
		for _, b := range []int{0, 1, -1, 2, 3, -4, maxMagnitude, -maxMagnitude, maxMagnitude + 1, a, math.MaxInt, math.MinInt} {
			if impl.GcdOf(a, b) != 0 || impl.GcdOf(b, a) != 0 {
				t.Errorf("GcdOf(%d, %d) = %d, and %d the other way round", a, b, impl.GcdOf(a, b), impl.GcdOf(b, a))
			}
		}
	}
}

// overwrite changes all rows of a result up to their capacities, one after the other, and reports whether others change too.
func overwrite(l [][]int) bool {
	for i, row := range l {
		before := make([][]int, len(l))
		for k, other := range l {
			before[k] = slices.Clone(other)
		}
		for j := range row[:cap(row)] {
			row[:cap(row)][j] = -99
		}
		for k := range l {
			if k != i && !slices.Equal(before[k], l[k]) {
				return true
			}
		}
	}
	return false
}

func TestMatricesAreNotShared(t *testing.T) {
	// The rows lie in one list, with numbers behind each of them, and there are rows behind the last one.
	room := []int{1, 2, 3, 77, 2, 4, 6, 78, 0, 0, 0, 79, 80, 81, 82}
	rows := [][]int{room[0:3], room[4:7], room[8:11], room[12:15]}
	vector := []int{-2, 4, 6, 83, 84}
	for range 2 {
		basis, x := impl.NullspaceOf(rows[:3]), impl.TransposeMatrix(rows[:3])
		if !sameSets(basis, [][]int{{2, -1, 0}, {3, 0, -1}}) || !sameSets(x, [][]int{{1, 2, 0}, {2, 4, 0}, {3, 6, 0}}) {
			t.Error("a call is different:", basis, x)
		}
		product, primitive := impl.TimesVector(rows[:3], vector[:3]), impl.PrimitiveVector(vector[:3])
		if !slices.Equal(product, []int{24, 48, 0}) || !slices.Equal(primitive, []int{1, -2, -3}) || impl.RankOfMatrix(rows[:3]) != 1 {
			t.Error("a call is different:", product, primitive)
		}
		if overwrite(basis) || overwrite(x) {
			t.Error("two rows share memory")
		}
		overwrite([][]int{product, primitive, impl.PrimitiveVector(rows[2])})
		zeros := impl.PrimitiveVector(rows[2])
		overwrite([][]int{append(zeros, 1)})
	}
	if !slices.Equal(room, []int{1, 2, 3, 77, 2, 4, 6, 78, 0, 0, 0, 79, 80, 81, 82}) || !slices.Equal(vector, []int{-2, 4, 6, 83, 84}) || &rows[3][0] != &room[12] || &rows[0][0] != &room[0] || &rows[1][0] != &room[4] {
		t.Error("an argument was changed:", room, rows, vector)
	}
	large := []int{4, math.MinInt, 85, 86}
	out := append(impl.PrimitiveVector(large[:2]), 1, 1)
	overwrite([][]int{out, impl.PrimitiveVector(large[:2])})
	none := append(impl.PrimitiveVector(large[:0]), 1)
	overwrite([][]int{none})
	if !slices.Equal(large, []int{4, math.MinInt, 85, 86}) {
		t.Error("an argument was changed:", large)
	}
	// Rows that begin with 0 are exchanged, and the same row may occur twice.
	row := []int{0, 1}
	m := [][]int{row, {2, 0}, row}
	if impl.RankOfMatrix(m) != 2 || len(impl.NullspaceOf(m)) != 0 || !sameSets(m, [][]int{{0, 1}, {2, 0}, {0, 1}}) {
		t.Error("rows are exchanged:", m)
	}
	// What is appended to a row does not get into the next one.
	x := impl.TransposeMatrix([][]int{{1, 2}, {3, 4}})
	x[0] = append(x[0], 9)
	if !sameSets(x, [][]int{{1, 3, 9}, {2, 4}}) {
		t.Error("two rows share memory:", x)
	}
}
