package tests

import (
	"math/big"
	"math/rand"
	"slices"
	"strings"
	"testing"

	"loop.example/g00802/impl"
)

// nines is the text of the greatest fraction: twice this is too large, and twice halfNines is not.
var (
	nines     = strings.Repeat("9", 216)
	halfNines = "4" + strings.Repeat("9", 215)
)

// exact computes with math/big and remembers whether a value was too large for a fraction.
type exact struct {
	tooLarge bool
}

func (e *exact) keep(value *big.Rat) *big.Rat {
	e.tooLarge = e.tooLarge || isZeroRat(ratOf(value))
	return value
}

func (e *exact) divide(row []*big.Rat, by *big.Rat) []*big.Rat {
	var out []*big.Rat
	for _, value := range row {
		out = append(out, e.keep(new(big.Rat).Quo(value, by)))
	}
	return out
}

// clear subtracts multiples of by from the rows that have an element other than 0 in a column.
func (e *exact) clear(rows [][]*big.Rat, by []*big.Rat, col int) {
	for i, row := range rows {
		if row[col].Sign() == 0 {
			continue
		}
		factor := e.keep(new(big.Rat).Quo(row[col], by[col]))
		rows[i] = nil
		for j, value := range row {
			product := e.keep(new(big.Rat).Mul(by[j], factor))
			rows[i] = append(rows[i], e.keep(new(big.Rat).Sub(value, product)))
		}
	}
}

func bigRows(m [][]impl.Rat) [][]*big.Rat {
	var out [][]*big.Rat
	for _, row := range m {
		var values []*big.Rat
		for _, r := range row {
			values = append(values, ratValue(r))
		}
		out = append(out, values)
	}
	return out
}

func notZeroIn(col int) func(row []*big.Rat) bool {
	return func(row []*big.Rat) bool { return row[col].Sign() != 0 }
}

// echelonOf takes the rows out of a list of unfinished ones. It returns false if a value was too large.
func echelonOf(m [][]impl.Rat) ([][]impl.Rat, []int, bool) {
	var e exact
	var finished [][]*big.Rat
	var pivots []int
	unfinished := bigRows(m)
	for col := range widthOf(m) {
		at := slices.IndexFunc(unfinished, notZeroIn(col))
		if at < 0 {
			continue
		}
		row := e.divide(unfinished[at], unfinished[at][col])
		unfinished = slices.Delete(unfinished, at, at+1)
		e.clear(finished, row, col)
		e.clear(unfinished, row, col)
		if e.tooLarge {
			return nil, nil, false
		}
		finished, pivots = append(finished, row), append(pivots, col)
	}
	all := append(finished, unfinished...)
	return matFrom(len(m), widthOf(m), func(i int, j int) impl.Rat { return ratOf(all[i][j]) }), pivots, true
}

// detOf needs a square matrix.
func detOf(m [][]impl.Rat) impl.Rat {
	var e exact
	var diagonal []*big.Rat
	product, unfinished := big.NewRat(1, 1), bigRows(m)
	for col := range m {
		at := slices.IndexFunc(unfinished, notZeroIn(col))
		if at < 0 {
			return fraction(plus(), 1)
		}
		for range at {
			product.Neg(product)
		}
		row := unfinished[at]
		unfinished = slices.Delete(unfinished, at, at+1)
		e.clear(unfinished, row, col)
		if e.tooLarge {
			return impl.Rat{}
		}
		diagonal = append(diagonal, row[col])
	}
	for _, value := range diagonal {
		e.keep(product.Mul(product, value))
	}
	if e.tooLarge {
		return impl.Rat{}
	}
	return ratOf(product)
}

// leibniz returns the sum over all permutations of the columns, by the elements of the first row.
func leibniz(m [][]*big.Rat) *big.Rat {
	if len(m) == 0 {
		return big.NewRat(1, 1)
	}
	sum := new(big.Rat)
	for j, value := range m[0] {
		var minor [][]*big.Rat
		for _, row := range m[1:] {
			minor = append(minor, slices.Delete(slices.Clone(row), j, j+1))
		}
		part := new(big.Rat).Mul(value, leibniz(minor))
		if j%2 == 1 {
			part.Neg(part)
		}
		sum.Add(sum, part)
	}
	return sum
}

// beside continues the rows of m with the rows of o.
func beside(m [][]impl.Rat, o [][]impl.Rat) [][]impl.Rat {
	var out [][]impl.Rat
	for i, row := range m {
		out = append(out, slices.Concat(row, o[i]))
	}
	return out
}

func withColumn(m [][]impl.Rat, b []impl.Rat) [][]impl.Rat {
	return beside(m, transposeOf([][]impl.Rat{b}))
}

func unitRows(n int) [][]impl.Rat {
	return matFrom(n, n, func(i int, j int) impl.Rat {
		if i == j {
			return fraction(plus(1), 1)
		}
		return fraction(plus(), 1)
	})
}

// solutionOf needs rows of at most 39 elements, and as many elements of b.
func solutionOf(m [][]impl.Rat, b []impl.Rat) ([]impl.Rat, bool) {
	width := widthOf(m)
	rows, pivots, ok := echelonOf(withColumn(m, b))
	if !ok || slices.Contains(pivots, width) {
		return nil, false
	}
	x := copies(width, fraction(plus(), 1))
	for i, col := range pivots {
		x[col] = rows[i][width]
	}
	return x, true
}

// inverseOf needs a square matrix with 1 to 20 rows.
func inverseOf(m [][]impl.Rat) ([][]impl.Rat, bool) {
	rows, pivots, ok := echelonOf(beside(m, unitRows(len(m))))
	if !ok || pivots[len(m)-1] != len(m)-1 {
		return nil, false
	}
	return matFrom(len(m), len(m), func(i int, j int) impl.Rat { return rows[i][len(m)+j] }), true
}

func kernelOf(m [][]impl.Rat) []impl.Rat {
	rows, pivots, ok := echelonOf(m)
	for free := range widthOf(m) {
		if !ok || slices.Contains(pivots, free) {
			continue
		}
		v := copies(widthOf(m), fraction(plus(), 1))
		v[free] = fraction(plus(1), 1)
		for i, col := range pivots {
			v[col] = ratOf(new(big.Rat).Neg(ratValue(rows[i][free])))
		}
		return v
	}
	return nil
}

// checkReduced compares what depends on one matrix only with math/big, and reports whether the echelon form is valid.
func checkReduced(t *testing.T, m [][]impl.Rat) bool {
	t.Helper()
	rows, pivots, ok := echelonOf(m)
	wantReduced(t, m, rows, pivots)
	wantVec(t, "KernelVector", impl.KernelVector(m), kernelOf(m), m)
	if len(m) == widthOf(m) {
		wantRat(t, "Det", impl.Det(m), detOf(m), m, nil)
	}
	if len(m) == widthOf(m) && len(m) > 0 && len(m) <= 20 {
		inverse, hasInverse := inverseOf(m)
		wantInverse(t, m, inverse, hasInverse)
	}
	return ok
}

func wantReduced(t *testing.T, m [][]impl.Rat, rows [][]impl.Rat, pivots []int) {
	t.Helper()
	wantMat(t, "ReducedRowEchelon", impl.ReducedRowEchelon(m), rows, m)
	if got := impl.Pivots(m); !slices.Equal(got, pivots) {
		t.Fatalf("Pivots(%v) = %v, want %v", m, got, pivots)
	}
	if got := impl.Rank(m); got != len(pivots) {
		t.Fatalf("Rank(%v) = %d, want %d", m, got, len(pivots))
	}
}

func wantSolution(t *testing.T, m [][]impl.Rat, b []impl.Rat, want []impl.Rat, wantOk bool) {
	t.Helper()
	got, ok := impl.Solve(m, b)
	if ok != wantOk {
		t.Fatalf("Solve(%v, %v) = %v, %v", m, b, got, ok)
	}
	wantVec(t, "Solve", got, want, m, b)
}

func wantInverse(t *testing.T, m [][]impl.Rat, want [][]impl.Rat, wantOk bool) {
	t.Helper()
	got, ok := impl.Inverse(m)
	if ok != wantOk {
		t.Fatalf("Inverse(%v) = %v, %v", m, got, ok)
	}
	wantMat(t, "Inverse", got, want, m)
}

// noGauss calls every function with a matrix of which none has a result.
func noGauss(t *testing.T, bad [][]impl.Rat) {
	t.Helper()
	wantReduced(t, bad, nil, nil)
	wantInverse(t, bad, nil, false)
	wantRat(t, "Det", impl.Det(bad), impl.Rat{}, bad, nil)
	wantVec(t, "KernelVector", impl.KernelVector(bad), nil, bad)
	for _, n := range []int{0, 1, 2, 3, 40, len(bad), widthOf(bad)} {
		wantSolution(t, bad, copies(n, fraction(plus(), 1)), nil, false)
		wantSolution(t, bad, copies(n, fraction(plus(1), 1)), nil, false)
	}
}

// smallMatOfRank returns a product of two small matrices, of which the columns of the first one are few.
func smallMatOfRank(random *rand.Rand, rows int, cols int, rank int) [][]impl.Rat {
	small := func(n int, width int) [][]impl.Rat {
		return matFrom(n, width, func(int, int) impl.Rat { return ratOfInts(random.Intn(9)-4, random.Intn(2)+1) })
	}
	return productOf(small(rows, rank), small(rank, cols))
}

// sparseMat returns a matrix with many zeros, in which many of the rows that are looked at have 0 in a column.
func sparseMat(random *rand.Rand, rows int, cols int) [][]impl.Rat {
	return matFrom(rows, cols, func(int, int) impl.Rat {
		if random.Intn(3) > 0 {
			return fraction(plus(), 1)
		}
		return ratOfInts(random.Intn(13)-6, random.Intn(3)+1)
	})
}

// edgeMat returns a matrix of zeros, small fractions, and fractions whose products and sums are nearly too large, or just are.
func edgeMat(random *rand.Rand, rows int, cols int) [][]impl.Rat {
	large := vector(nines + " -" + nines + " " + halfNines + " 1/" + nines + " 2/" + nines + " 1/" + halfNines + " " + nines + "/2 " + strings.Repeat("9", 108) + " 1/" + strings.Repeat("9", 108))
	return matFrom(rows, cols, func(int, int) impl.Rat {
		switch random.Intn(6) {
		case 0:
			return large[random.Intn(len(large))]
		case 1, 2, 3:
			return fraction(plus(), 1)
		}
		return vector("1 -1 1/2 2 3 -2/3")[random.Intn(6)]
	})
}

func TestP2EchelonOfEverySize(t *testing.T) {
	random := rand.New(rand.NewSource(40))
	for _, shape := range shapes() {
		rows, cols := shape[0], shape[1]
		checkReduced(t, sparseMat(random, rows, cols))
		checkReduced(t, constMat(rows, cols, fraction(plus(), 1)))
		checkReduced(t, constMat(rows, cols, fraction(minus(2), 3)))
		for rank := range min(rows, cols, 4) {
			checkReduced(t, smallMatOfRank(random, rows, cols, rank+1))
		}
		if rows*cols <= 200 {
			checkReduced(t, smallMat(random, rows, cols))
			checkReduced(t, randomMat(random, rows, cols, 2))
			checkReduced(t, randomMat(random, rows, cols, 24))
		}
	}
}

func TestP2EchelonOfManyMatrices(t *testing.T) {
	random := rand.New(rand.NewSource(41))
	for range 1500 {
		rows, cols := random.Intn(6), random.Intn(6)
		checkReduced(t, sparseMat(random, rows, cols))
		checkReduced(t, smallMat(random, rows, cols))
		checkReduced(t, smallMatOfRank(random, rows, cols, random.Intn(3)+1))
		checkReduced(t, sparseMat(random, rows, rows))
	}
}

// Of the matrices at the limits, many must have a result, and many must have none.
func TestEchelonLimitsOfManyMatrices(t *testing.T) {
	random := rand.New(rand.NewSource(42))
	valid := map[bool]int{}
	for range 3000 {
		rows, cols := random.Intn(4)+1, random.Intn(4)+1
		valid[checkReduced(t, edgeMat(random, rows, cols))]++
		valid[checkReduced(t, edgeMat(random, rows, rows))]++
	}
	if valid[false] < 1000 || valid[true] < 1000 {
		t.Errorf("%v: too few", valid)
	}
}

func TestEchelonOfFortyRowsOrColumns(t *testing.T) {
	random := rand.New(rand.NewSource(43))
	for _, shape := range [][2]int{{40, 40}, {40, 39}, {39, 40}, {40, 1}, {1, 40}, {40, 5}, {5, 40}} {
		m := sparseMat(random, shape[0], shape[1])
		if !checkReduced(t, m) {
			t.Fatalf("the echelon form of size %v is too large", shape)
		}
		rows := slices.Clone(m)
		slices.Reverse(rows)
		wantMat(t, "ReducedRowEchelon", impl.ReducedRowEchelon(rows), impl.ReducedRowEchelon(m), "the rows from the last to the first")
	}
	wantMat(t, "ReducedRowEchelon", impl.ReducedRowEchelon(unitRows(40)), unitRows(40), "the identity matrix")
	wantMat(t, "ReducedRowEchelon", impl.ReducedRowEchelon(slices.Repeat(unitRows(1), 40)), withCell(constMat(40, 1, fraction(plus(), 1)), 0, 0, fraction(plus(1), 1)), "40 rows 1")
	reversed := unitRows(40)
	slices.Reverse(reversed)
	wantMat(t, "ReducedRowEchelon", impl.ReducedRowEchelon(reversed), unitRows(40), "the identity matrix's rows from the last to the first")
	// 39 + 38 + .. + 1 is even, and 38 + .. + 1 is odd.
	wantRat(t, "Det", impl.Det(reversed), fraction(plus(1), 1), "the same of 40 rows", nil)
	wantRat(t, "Det", impl.Det(matFrom(39, 39, func(i int, j int) impl.Rat { return reversed[i+1][j] })), fraction(minus(1), 1), "the same of 39 rows", nil)
	noGauss(t, constMat(41, 1, fraction(plus(1), 1)))
	noGauss(t, constMat(1, 41, fraction(plus(1), 1)))
}

func TestReducedRowEchelonEdges(t *testing.T) {
	cases := []struct {
		m, want string
		pivots  []int
	}{
		{"", "", nil}, {";", ";", nil}, {";;;", ";;;", nil}, {"0;", "0;", nil}, {"5;", "1;", []int{0}}, {"-1/3;", "1;", []int{0}}, {"0 0;0 0;", "0 0;0 0;", nil},
		{"2 4 6;", "1 2 3;", []int{0}}, {"0 4 6;", "0 1 3/2;", []int{1}}, {"0 0 -6;", "0 0 1;", []int{2}}, {"0 0 0;", "0 0 0;", nil}, {"2;4;6;", "1;0;0;", []int{0}}, {"0;4;6;", "1;0;0;", []int{0}}, {"0;0;6;", "1;0;0;", []int{0}}, {"0;0;0;", "0;0;0;", nil},
		{"0 0 0;1 2 3;4 5 6;", "1 0 -1;0 1 2;0 0 0;", []int{0, 1}}, {"1 2 3;0 0 0;4 5 6;", "1 0 -1;0 1 2;0 0 0;", []int{0, 1}}, {"1 2 3;4 5 6;0 0 0;", "1 0 -1;0 1 2;0 0 0;", []int{0, 1}},
		{"0 1 2;0 3 4;0 5 6;", "0 1 0;0 0 1;0 0 0;", []int{1, 2}}, {"1 0 2;3 0 4;5 0 6;", "1 0 0;0 0 1;0 0 0;", []int{0, 2}}, {"1 2 0;3 4 0;5 6 0;", "1 0 0;0 1 0;0 0 0;", []int{0, 1}},
		{"1 2;1 2;1 2;", "1 2;0 0;0 0;", []int{0}}, {"1 2;3 4;3 4;", "1 0;0 1;0 0;", []int{0, 1}}, {"1 2;2 4;3 5;", "1 0;0 1;0 0;", []int{0, 1}}, {"2 4;1 2;", "1 2;0 0;", []int{0}}, {"1 2;-1 -2;", "1 2;0 0;", []int{0}},
		{"1 2;3 4;5 6;", "1 0;0 1;0 0;", []int{0, 1}}, {"1 2;3 4;5 6;7 9;", "1 0;0 1;0 0;0 0;", []int{0, 1}}, {"1 2 3;4 5 6;", "1 0 -1;0 1 2;", []int{0, 1}}, {"1 2 3 4;2 4 7 8;", "1 2 0 4;0 0 1 0;", []int{0, 2}}, {"1 1 1 1;1 1 1 2;", "1 1 1 0;0 0 0 1;", []int{0, 3}},
		{"2 3;4 5;", "1 0;0 1;", []int{0, 1}}, {"0 3;4 5;", "1 0;0 1;", []int{0, 1}}, {"0 0 1;0 2 3;4 5 6;", "1 0 0;0 1 0;0 0 1;", []int{0, 1, 2}}, {"0 2 1;0 2 3;4 5 6;", "1 0 0;0 1 0;0 0 1;", []int{0, 1, 2}}, {"1 1 2;1 1 3;1 1 4;", "1 1 0;0 0 1;0 0 0;", []int{0, 2}},
		{"0 2 4;1 1 1;", "1 0 -1;0 1 2;", []int{0, 1}}, {"1/2 1/3 1/5;1/7 1/11 1/13;", "1 0 224/65;0 1 -297/65;", []int{0, 1}},
	}
	for _, c := range cases {
		wantReduced(t, matrix(c.m), matrix(c.want), c.pivots)
		checkReduced(t, matrix(c.m))
	}
	for n := range 41 {
		none := make([][]impl.Rat, n)
		wantReduced(t, none, none, nil)
		checkReduced(t, none)
	}
	noGauss(t, make([][]impl.Rat, 41))
}

// isReduced looks at the form alone: each pivot is the first element of its row that is not 0, and 1, and stands alone in its column.
func isReduced(rows [][]impl.Rat, pivots []int) bool {
	for i, row := range rows {
		first := slices.IndexFunc(row, func(r impl.Rat) bool { return impl.RatSign(r) != 0 })
		if i >= len(pivots) && first >= 0 || i < len(pivots) && (first != pivots[i] || i > 0 && first <= pivots[i-1]) {
			return false
		}
		if i < len(pivots) && !sameVec(columnOf(rows, first), columnOf(unitRows(len(rows)), i)) {
			return false
		}
	}
	return true
}

func TestP2ReducedFormHasTheSameRows(t *testing.T) {
	random := rand.New(rand.NewSource(44))
	for range 400 {
		n, width := random.Intn(5)+1, random.Intn(5)+1
		m := smallMatOfRank(random, n, width, random.Intn(5)+1)
		rows, pivots, rank := impl.ReducedRowEchelon(m), impl.Pivots(m), impl.Rank(m)
		turned := impl.MatTranspose(m)
		laws := map[string]bool{
			"the form is reduced":                     isReduced(rows, pivots) && len(rows) == n && len(rows[0]) == width,
			"the form of the form is the form":        sameMat(impl.ReducedRowEchelon(rows), rows),
			"the transpose has the same rank":         impl.Rank(turned) == rank,
			"a matrix times itself has the rank":      impl.Rank(impl.MatMul(turned, m)) == rank,
			"rows that are written twice add nothing": impl.Rank(slices.Concat(m, m)) == rank && sameMat(impl.ReducedRowEchelon(slices.Concat(m, m))[:n], rows),
			"the rank is at most the sizes":           rank <= min(n, width),
		}
		for i, row := range rows {
			_, isOld := impl.Solve(turned, row)
			_, isNew := impl.Solve(impl.MatTranspose(rows), m[i])
			laws["each row is a sum of multiples of the others'"] = isOld && isNew
		}
		checkLaws(t, laws, m)
	}
}

// checkSolve proves what Solve returns: by the product, or by factors of the rows whose sum says that 0 is 1.
func checkSolve(t *testing.T, m [][]impl.Rat, b []impl.Rat) bool {
	t.Helper()
	want, wantOk := solutionOf(m, b)
	wantSolution(t, m, b, want, wantOk)
	if wantOk {
		if len(m[0]) > 0 && !sameVec(impl.MatVec(m, want), b) {
			t.Fatalf("Solve(%v, %v) = %v, which is no solution", m, b, want)
		}
		return true
	}
	both := impl.MatTranspose(withColumn(m, b))
	y, isProved := impl.Solve(both, impl.VecUnit(len(both), len(both)-1))
	if !isProved || !sameVec(impl.VecMat(y, m), impl.VecZero(widthOf(m))) || !sameRat(impl.VecDot(y, b), fraction(plus(1), 1)) {
		t.Fatalf("Solve(%v, %v) fails, and %v does not prove it", m, b, y)
	}
	return false
}

func TestP2SolutionsAndTheirAbsenceAreProved(t *testing.T) {
	random := rand.New(rand.NewSource(45))
	solved := map[bool]int{}
	for range 1500 {
		rows, cols := random.Intn(5)+1, random.Intn(6)
		m := smallMatOfRank(random, rows, cols, random.Intn(5)+1)
		solved[checkSolve(t, m, smallVec(random, rows))]++
		solved[checkSolve(t, m, copies(rows, fraction(plus(), 1)))]++
		if cols > 0 && !checkSolve(t, m, matVecOf(m, smallVec(random, cols))) {
			t.Fatalf("Solve does not find a solution of %v that there is", m)
		}
	}
	if solved[true] < 300 || solved[false] < 300 {
		t.Errorf("%v: too few", solved)
	}
}

func TestSolveLimitsOfManyMatrices(t *testing.T) {
	random := rand.New(rand.NewSource(46))
	solved := map[bool]int{}
	for range 3000 {
		rows, cols := random.Intn(4)+1, random.Intn(4)
		m, b := edgeMat(random, rows, cols), edgeMat(random, 1, rows)[0]
		want, ok := solutionOf(m, b)
		wantSolution(t, m, b, want, ok)
		solved[ok]++
	}
	if solved[true] < 300 || solved[false] < 300 {
		t.Errorf("%v: too few", solved)
	}
}

func TestSolveEdges(t *testing.T) {
	cases := []struct {
		m, b, want string
		ok         bool
	}{
		{"", "", "", false}, {"", "0", "", false}, {"", "1", "", false}, {";", "0", "", true}, {";;;", "0 0 0", "", true}, {";", "1", "", false}, {";;;", "0 0 1/2", "", false}, {";;;", "0 1 0", "", false}, {";;;", "1 0 0", "", false}, {";", "", "", false}, {";;", "0", "", false}, {";;", "0 0 0", "", false},
		{"2;", "6", "3", true}, {"2;", "0", "0", true}, {"0;", "0", "0", true}, {"0;", "6", "", false}, {"1 2;3 4;", "5 11", "1 2", true}, {"0 1;1 0;", "2 3", "3 2", true}, {"1 1/2;1/3 1/4;", "1 1", "-3 8", true}, {"1;2;", "3 6", "3", true}, {"1;2;", "3 7", "", false}, {"1;2;3;", "2 4 6", "2", true}, {"1;2;3;", "2 4 7", "", false},
		{"1 2;", "5", "5 0", true}, {"0 2;", "5", "0 5/2", true}, {"0 0;", "0", "0 0", true}, {"1 2;2 4;", "1 2", "1 0", true}, {"1 2;2 4;", "1 3", "", false}, {"1 2 3;4 5 6;", "7 8", "-19/3 20/3 0", true}, {"1 2 3;2 4 7;", "1 1", "4 0 -1", true}, {"0 0 0;0 0 0;", "0 0", "0 0 0", true}, {"0 0;0 0;", "0 1", "", false},
		{"1 2;3 4;5 6;", "3 7 11", "1 1", true}, {"1 2;3 4;5 6;", "3 7 12", "", false}, {"1 2;3 4;", "5", "", false}, {"1 2;3 4;", "5 11 0", "", false}, {"1 2;3 4;", "", "", false}, {"1;", "1 1", "", false}, {"1 2 3;4 5 6;", "1 2 3", "", false}, {"1;2;3;", "1", "", false},
		{"1 0;1;", "1 1", "", false}, {"1;1 0;", "1 1", "", false}, {";1;", "0 1", "", false},
	}
	for _, c := range cases {
		wantSolution(t, matrix(c.m), vector(c.b), vector(c.want), c.ok)
	}
	if x, ok := impl.Solve(nil, nil); len(x) != 0 || ok {
		t.Errorf("Solve of no rows = %v, %v", x, ok)
	}
}

func TestSolveOfEverySize(t *testing.T) {
	random := rand.New(rand.NewSource(47))
	for _, rows := range []int{1, 2, 3, 39, 40, 41} {
		for _, cols := range []int{0, 1, 2, 38, 39, 40, 41} {
			m := sparseMat(random, rows, cols)
			for _, n := range []int{0, rows - 1, rows, rows + 1, 40, 41} {
				var want []impl.Rat
				isSolved := false
				b := copies(n, fraction(plus(), 1))
				if n == rows && rows <= 40 && cols <= 39 {
					b = matVecOf(m, smallVec(random, cols))
					want, isSolved = solutionOf(m, b)
					if !isSolved {
						t.Fatalf("a solution of %d rows with %d elements is too large", rows, cols)
					}
				}
				wantSolution(t, m, b, want, isSolved)
			}
		}
	}
	wantSolution(t, matFrom(39, 39, func(i int, j int) impl.Rat { return unitRows(39)[i][j] }), copies(39, greatest()), copies(39, greatest()), true)
	wantSolution(t, unitRows(40), copies(40, greatest()), nil, false)
	wantSolution(t, unitRows(2), copies(100000, fraction(plus(), 1)), nil, false)
}

func TestSolveWithInvalidVec(t *testing.T) {
	for _, n := range []int{1, 2, 3, 40} {
		for _, m := range [][][]impl.Rat{constMat(n, 1, fraction(plus(1), 1)), constMat(n, 2, fraction(plus(), 1)), make([][]impl.Rat, n)} {
			for _, i := range []int{0, n / 2, n - 1} {
				for _, bad := range invalidRats() {
					wantSolution(t, m, withElement(copies(n, fraction(plus(), 1)), i, bad), nil, false)
				}
			}
		}
	}
}

func TestP2InversesAndTheirAbsenceAreProved(t *testing.T) {
	random := rand.New(rand.NewSource(48))
	inverted := map[bool]int{}
	for range 600 {
		n := random.Intn(5) + 1
		m := smallMatOfRank(random, n, n, random.Intn(3)+max(n-1, 1))
		inverse, ok := impl.Inverse(m)
		kernel, det := impl.KernelVector(m), impl.Det(m)
		inverted[ok]++
		laws := map[string]bool{
			"there is an inverse or a kernel": ok == (len(kernel) == 0),
			"the determinant tells which":     impl.RatOk(det) && ok == (impl.RatSign(det) != 0) && ok == (impl.Rank(m) == n),
			"the kernel is mapped to 0":       ok || sameVec(impl.MatVec(m, kernel), impl.VecZero(n)) && !sameVec(kernel, impl.VecZero(n)),
		}
		if ok {
			again, _ := impl.Inverse(inverse)
			laws["m inverse = 1 = inverse m"] = sameMat(impl.MatMul(m, inverse), unitRows(n)) && sameMat(impl.MatMul(inverse, m), unitRows(n))
			laws["the inverse's inverse is m"] = sameMat(again, m)
			laws["det inverse = 1 / det"] = sameRat(impl.RatMul(impl.Det(inverse), det), fraction(plus(1), 1))
		}
		checkLaws(t, laws, m, inverse, kernel, det)
	}
	if inverted[true] < 100 || inverted[false] < 100 {
		t.Errorf("%v: too few", inverted)
	}
}

func TestInverseEdges(t *testing.T) {
	cases := []struct{ m, want string }{
		{"5;", "1/5;"}, {"-2/3;", "-3/2;"}, {"1;", "1;"}, {"1 2;3 4;", "-2 1;3/2 -1/2;"}, {"0 1;1 0;", "0 1;1 0;"}, {"0 2;3 0;", "0 1/3;1/2 0;"}, {"0 0 1;1 0 0;0 1 0;", "0 1 0;0 0 1;1 0 0;"}, {"1 1 0;0 1 1;0 0 1;", "1 -1 1;0 1 -1;0 0 1;"},
		{"", ""}, {";", ""}, {";;", ""}, {"0;", ""}, {"1 2;", ""}, {"1;2;", ""}, {"1 0;0 1;0 0;", ""}, {"1 0 0;0 1 0;", ""}, {"0 0;0 0;", ""}, {"1 2;2 4;", ""}, {"1 2;1 2;", ""}, {"0 1;0 2;", ""}, {"1 0;2 0;", ""}, {"0 0;1 2;", ""}, {"1 2;0 0;", ""}, {"1 2 3;4 5 6;7 8 9;", ""}, {"1 0;1;", ""}, {"1;1 0;", ""},
	}
	for _, c := range cases {
		wantInverse(t, matrix(c.m), matrix(c.want), c.want != "")
	}
	for n := range 43 {
		double := withCell(unitRows(max(n, 1)), n/2, n/2, fraction(plus(2), 1))[:n]
		half := withCell(unitRows(max(n, 1)), n/2, n/2, fraction(plus(1), 2))[:n]
		if n == 0 || n > 20 {
			half = nil
		}
		wantInverse(t, double, half, half != nil)
		for cols := range 42 {
			if cols != n {
				wantInverse(t, constMat(n, cols, fraction(plus(1), 1)), nil, false)
			}
		}
	}
}

func TestInverseOfTwentyRows(t *testing.T) {
	random := rand.New(rand.NewSource(49))
	for _, n := range []int{19, 20} {
		m := sparseMat(random, n, n)
		for i := range m {
			m[i][i] = ratOfInts(i+7, 1)
		}
		inverse, ok := impl.Inverse(m)
		if !ok || !sameMat(productOf(m, inverse), unitRows(n)) {
			t.Fatalf("Inverse(%v) = %v, %v", m, inverse, ok)
		}
		checkReduced(t, m)
	}
	wantInverse(t, constMat(20, 20, fraction(plus(1), 1)), nil, false)
	noInverse := unitRows(20)
	noInverse[19][19] = fraction(plus(), 1)
	wantInverse(t, noInverse, nil, false)
	wantInverse(t, unitRows(21), nil, false)
}

func TestP2DetLaws(t *testing.T) {
	random := rand.New(rand.NewSource(50))
	for range 500 {
		n := random.Intn(5)
		m, o := sparseMat(random, n, n), smallMat(random, n, n)
		det, other := impl.Det(m), impl.Det(o)
		laws := map[string]bool{
			"the sum over all permutations":  sameRat(det, ratOf(leibniz(bigRows(m)))) && sameRat(other, ratOf(leibniz(bigRows(o)))),
			"the transpose's is the same":    sameRat(impl.Det(impl.MatTranspose(m)), det) && sameRat(impl.Det(impl.MatTranspose(o)), other),
			"it is 0 if the rank is smaller": (impl.Rank(m) == n) == (impl.RatSign(det) != 0),
		}
		if n > 0 {
			i, j := random.Intn(n), random.Intn(n)
			exchanged := withRow(withRow(m, i, m[j]), j, m[i])
			added := withRow(o, i, impl.VecAdd(o[i], impl.VecScale(o[(i+1)%n], fraction(plus(3), 2))))
			laws["det (m o) = det m det o"] = sameRat(impl.Det(impl.MatMul(m, o)), impl.RatMul(det, other))
			laws["exchanged rows change the sign"] = i == j || sameRat(impl.Det(exchanged), impl.RatNeg(det))
			laws["a multiple of another row"] = n == 1 || sameRat(impl.Det(added), other)
			laws["a scaled row"] = sameRat(impl.Det(withRow(m, i, impl.VecScale(m[i], fraction(minus(5), 7)))), impl.RatMul(det, fraction(minus(5), 7)))
			laws["an equal row"] = i == j || impl.RatSign(impl.Det(withRow(o, i, o[j]))) == 0 && impl.RatOk(impl.Det(withRow(o, i, o[j])))
		}
		checkLaws(t, laws, m, o)
	}
}

func TestDetEdges(t *testing.T) {
	cases := []struct{ m, want string }{
		{"", "1"}, {"5;", "5"}, {"-2/3;", "-2/3"}, {"0;", "0"}, {"1 2;3 4;", "-2"}, {"2 3 5;0 7 11;0 0 13;", "182"}, {"2 0 0;3 7 0;5 11 13;", "182"}, {"1/2 9;0 -1/3;", "-1/6"}, {"2 0 0;0 3 0;0 0 0;", "0"},
		{"0 1;1 0;", "-1"}, {"0 2;3 5;", "-6"}, {"0 2 0;0 0 3;5 0 0;", "30"}, {"0 0 3;0 2 0;5 0 0;", "-30"}, {"0 2 0;5 0 0;0 0 3;", "-30"}, {"2 0 0;0 0 3;0 5 0;", "-30"}, {"0 0 2;3 0 0;0 5 0;", "30"},
		{"0 1 0 0;0 0 1 0;0 0 0 1;7 0 0 0;", "-7"}, {"0 1 0 0;0 0 1 0;7 0 0 0;0 0 0 1;", "7"}, {"0 1 0 0;7 0 0 0;0 0 1 0;0 0 0 1;", "-7"}, {"0 0 0 1;0 0 1 0;0 1 0 0;7 0 0 0;", "7"}, {"1 0 0 0;0 0 1 0;0 0 0 1;0 7 0 0;", "7"}, {"1 0 0 0;0 0 0 1;0 0 1 0;0 7 0 0;", "-7"}, {"1 1 1 1;1 1 1 2;1 1 3 1;1 5 1 1;", "-8"},
		{"1 2;1 2;", "0"}, {"1 2 3;4 5 6;1 2 3;", "0"}, {"1 2 3;1 2 3;4 5 6;", "0"}, {"4 5 6;1 2 3;1 2 3;", "0"}, {"0 1 2;0 3 4;0 5 6;", "0"}, {"1 0 2;3 0 4;5 0 6;", "0"}, {"1 2 0;3 4 0;5 6 0;", "0"}, {"0 0 0;1 2 3;4 5 7;", "0"}, {"1 2 3;0 0 0;4 5 7;", "0"}, {"1 2 3;4 5 7;0 0 0;", "0"}, {"0 0;0 0;", "0"},
		{";", ""}, {";;", ""}, {"1 2;", ""}, {"1;2;", ""}, {"0;0;", ""}, {"1 2 3;4 5 6;", ""}, {"1 2;3 4;5 6;", ""}, {"1 0;1;", ""}, {"1;1 0;", ""}, {"0 1;0;", ""},
	}
	for _, c := range cases {
		want := impl.Rat{}
		if c.want != "" {
			want = vector(c.want)[0]
		}
		wantRat(t, "Det", impl.Det(matrix(c.m)), want, c.m, nil)
	}
	for rows := 1; rows < 43; rows++ {
		for cols := range 43 {
			if rows != cols || rows > 40 {
				wantRat(t, "Det", impl.Det(constMat(rows, cols, fraction(plus(), 1))), impl.Rat{}, rows, cols)
			}
		}
	}
}

// The first row that does not have 0 in a column passes as many others as stand before it, in every column.
func TestDetOfEveryOrderOfRows(t *testing.T) {
	orders := [][]int{{}}
	for n := 1; n <= 5; n++ {
		var longer [][]int
		for _, order := range orders {
			for at := range n {
				longer = append(longer, slices.Insert(slices.Clone(order), at, n-1))
			}
		}
		orders = longer
		for _, order := range orders {
			m, want := constMat(n, n, fraction(plus(), 1)), big.NewRat(1, 1)
			for i, col := range order {
				m[i][col] = ratOfInts(col+2, 1)
				want.Mul(want, big.NewRat(int64(col+2), 1))
				for _, later := range order[i+1:] {
					if later < col {
						want.Neg(want)
					}
				}
			}
			wantRat(t, "Det", impl.Det(m), ratOf(want), m, nil)
			checkReduced(t, m)
		}
	}
}

func TestKernelVectorEdges(t *testing.T) {
	cases := []struct{ m, want string }{
		{"", ""}, {";", ""}, {";;;", ""}, {"5;", ""}, {"1;2;3;", ""}, {"1 2;3 4;", ""}, {"0 1;1 0;", ""}, {"1 2;3 4;5 6;", ""}, {"1 0 0;0 1 0;0 0 1;", ""},
		{"0;", "1"}, {"0;0;", "1"}, {"0 0;", "1 0"}, {"0 0 0;0 0 0;", "1 0 0"}, {"0 1 2;", "1 0 0"}, {"0 1 0;0 0 1;", "1 0 0"}, {"1 2;2 4;", "-2 1"}, {"1 2 3;", "-2 1 0"}, {"2 0 5;", "0 1 0"}, {"1 2 0;0 0 3;", "-2 1 0"}, {"1 0 0;0 0 1;", "0 1 0"}, {"1 2 3;4 5 6;", "1 -2 1"}, {"1 2 3;4 5 6;7 8 9;", "1 -2 1"}, {"0 2 1;3 0 1;", "-1/3 -1/2 1"},
		{"1 0 2 3;0 1 4 5;", "-2 -4 1 0"}, {"1 2 0 3;0 0 1 5;", "-2 1 0 0"}, {"0 1 2 3;", "1 0 0 0"}, {"0 0 1;", "1 0 0"}, {"1 0 0 -7;0 1 0 1/2;0 0 1 0;", "7 -1/2 0 1"}, {"1 1;1 1;1 1;", "-1 1"}, {"1 0;1;", ""}, {"0;0 0;", ""},
	}
	for _, c := range cases {
		wantVec(t, "KernelVector", impl.KernelVector(matrix(c.m)), vector(c.want), c.m)
	}
	for n := range 42 {
		var zeros, column []impl.Rat
		if n > 0 && n <= 40 {
			zeros = withElement(copies(n, fraction(plus(), 1)), 0, fraction(plus(1), 1))
			column = vector("1")
		}
		wantVec(t, "KernelVector", impl.KernelVector(constMat(1, n, fraction(plus(), 1))), zeros, "one row", n)
		wantVec(t, "KernelVector", impl.KernelVector(constMat(n, 1, fraction(plus(), 1))), column, "one column", n)
		wantVec(t, "KernelVector", impl.KernelVector(make([][]impl.Rat, n)), nil, "rows without elements", n)
		wantVec(t, "KernelVector", impl.KernelVector(constMat(n, 1, fraction(plus(1), 1))), nil, "one column of 1", n)
	}
}

func TestP2KernelVectorIsMappedToZero(t *testing.T) {
	random := rand.New(rand.NewSource(51))
	for range 500 {
		rows, cols := random.Intn(5)+1, random.Intn(5)+1
		m := smallMatOfRank(random, rows, cols, random.Intn(4)+1)
		v, pivots := impl.KernelVector(m), impl.Pivots(m)
		if len(v) == 0 {
			checkLaws(t, map[string]bool{"without a kernel, every column is finished": len(pivots) == cols, "and only 0 is mapped to 0": impl.RatSign(impl.Det(impl.MatMul(impl.MatTranspose(m), m))) > 0}, m)
			continue
		}
		laws := map[string]bool{"m v = 0": sameVec(impl.MatVec(m, v), impl.VecZero(rows)), "a column is not finished": len(pivots) < cols && len(v) == cols}
		want := fraction(plus(1), 1)
		for col, r := range v {
			if !slices.Contains(pivots, col) {
				laws["1, then 0, where no row was finished"] = sameRat(r, want) && laws["m v = 0"]
				want = fraction(plus(), 1)
			}
		}
		checkLaws(t, laws, m, v)
	}
}

// Each text has an echelon form, and with twice or a tenfold of what is greatest in it, a fraction on the way has 25 limbs.
func TestEchelonLimitsInEveryColumn(t *testing.T) {
	cases := []struct{ m, want string }{
		// The division of the row.
		{"1/2 " + halfNines + ";", "1 " + strings.Repeat("9", 215) + "8;"}, {"1/2 " + nines + ";", ""}, {"1/2 0 " + nines + " 0;", ""}, {"1/2 " + nines + " 0 0;", ""}, {"1/2 0 0 " + nines + ";", ""}, {"2 1/" + nines + ";", ""}, {"2 2/" + nines + ";", "1 1/" + nines + ";"}, {"1/2 " + nines + ";0 1;", ""}, {"0 1 0;0 1/2 " + nines + ";", "0 1 0;0 0 1;"}, {"0 1/2 " + nines + ";0 1 0;", ""},
		{nines + " 1;", "1 1/" + nines + ";"}, {nines + " 1/10;", ""}, {"1/" + nines + " 1;", "1 " + nines + ";"}, {"1/" + nines + " 10;", ""}, {"0 1/" + nines + " 10 0;", ""}, {nines + " " + nines + ";", "1 1;"},
		// The multiples of the row, in the last column and in others.
		{"1 " + halfNines + ";2 0;", "1 0;0 1;"}, {"1 " + nines + ";2 0;", ""}, {"1 " + nines + " 0;2 0 0;", ""}, {"1 0 " + nines + ";2 0 0;", ""}, {"1 " + nines + ";1 0;", "1 0;0 1;"}, {"1 " + nines + ";2 " + nines + ";", ""}, {"1 1/" + nines + ";1/2 0;", ""}, {"1 1/" + nines + ";2 0;", "1 0;0 1;"}, {"1 " + nines + " 0 0;2 0 0 1;0 1 0 0;0 0 1 0;", ""},
		{"1 0 0;2 0 1;1 0 " + nines + ";", "1 0 0;0 0 1;0 0 0;"}, {"1 0 0;2 0 1;1 0 2;", "1 0 0;0 0 1;0 0 0;"}, {"1 2 0;0 1 " + nines + ";", ""}, {"1 1 0;0 1 " + nines + ";", "1 0 -" + nines + ";0 1 " + nines + ";"}, {"1 2 0;0 1 " + halfNines + ";", "1 0 -" + strings.Repeat("9", 215) + "8;0 1 " + halfNines + ";"},
		// The differences.
		{"1 " + nines + ";1 -1;", ""}, {"1 " + nines + ";1 1;", "1 0;0 1;"}, {"1 " + nines + " 0;1 -1 0;", ""}, {"1 0 " + nines + ";1 0 -1;", ""}, {"1 1 " + nines + ";0 1 -1;", ""}, {"1 -1 " + nines + ";0 1 1;", ""}, {"1 1 " + nines + ";0 1 1;", "1 0 " + strings.Repeat("9", 215) + "8;0 1 1;"}, {"1 1/" + nines + ";1 1/2;", ""}, {"1 1 0 " + nines + ";0 1 0 -1;0 0 1 0;", ""},
		// Rows of which the first one that does not have 0 is the last, and those that it passes keep their order.
		{"0 1 0;0 1/2 " + nines + ";1 0 0;", "1 0 0;0 1 0;0 0 1;"}, {"0 1/2 " + nines + ";0 1 0;1 0 0;", ""}, {"1 0 0 0;0 0 1 0;0 0 1/2 " + nines + ";0 1 0 0;", "1 0 0 0;0 1 0 0;0 0 1 0;0 0 0 1;"}, {"1 0 0 0;0 0 1/2 " + nines + ";0 0 1 0;0 1 0 0;", ""}, {"0 1 0;1 0 0;0 1/2 " + nines + ";", "1 0 0;0 1 0;0 0 1;"}, {"0 1/2 " + nines + ";1 0 0;0 1 0;", ""},
		{"1 0;1/2 " + nines + ";", "1 0;0 1;"}, {"1/2 " + nines + ";1 0;", ""},
	}
	for _, c := range cases {
		m, want := matrix(c.m), matrix(c.want)
		wantMat(t, "ReducedRowEchelon", impl.ReducedRowEchelon(m), want, c.m)
		if checkReduced(t, m) != (c.want != "") {
			t.Fatalf("the echelon form of %s is computed with other fractions", c.m)
		}
		if c.want == "" {
			wantReduced(t, m, nil, nil)
			wantVec(t, "KernelVector", impl.KernelVector(m), nil, c.m)
		}
	}
}

func TestSolveLimits(t *testing.T) {
	eight := strings.Repeat("9", 215) + "8"
	cases := []struct {
		m, b, want string
		ok         bool
	}{
		{"1/2;", halfNines, eight, true}, {"1/2;", nines, "", false}, {"1;2;", halfNines + " " + eight, halfNines, true}, {"1;2;", nines + " 0", "", false}, {"1;1;", nines + " -1", "", false}, {"1 1;0 1;", nines + " -1", "", false}, {"1 1;0 1;", nines + " 1", eight + " 1", true}, {"1 1;0 2;", nines + " " + eight, "5" + strings.Repeat("0", 215) + " " + halfNines, true},
		{"1/2 " + nines + ";", "0", "", false}, {"1/2 " + nines + " 0;0 1 0;", "0 0", "", false}, {"1 " + nines + ";2 0;", "0 0", "", false}, {"1 0 " + nines + ";2 0 0;", "0 0", "", false},
		{"0 1;0 1/2;1 0;", "1 " + nines + " 1", "", false}, {"0 1 0;0 1/2 1;1 0 0;", "0 " + nines + " 0", "0 0 " + nines, true}, {"0 1/2 1;0 1 0;1 0 0;", nines + " 0 0", "", false},
		// The products of this solution with the first row are too large, but none of them is computed.
		{nines + " " + nines + ";0 1;", "0 " + halfNines, "-" + halfNines + " " + halfNines, true},
	}
	for _, c := range cases {
		wantSolution(t, matrix(c.m), vector(c.b), vector(c.want), c.ok)
	}
}

func TestInverseLimits(t *testing.T) {
	cases := []struct{ m, want string }{
		{nines + ";", "1/" + nines + ";"}, {"-1/" + nines + ";", "-" + nines + ";"}, {"1 " + nines + ";0 1;", "1 -" + nines + ";0 1;"}, {"1 " + nines + ";0 2;", "1 -" + nines + "/2;0 1/2;"}, {"1 " + nines + ";0 1/2;", ""}, {"1/2 " + nines + ";0 1;", ""}, {"1 0;" + nines + " 1;", "1 0;-" + nines + " 1;"}, {"1 0;" + nines + " 1/2;", ""}, {"1/2 0;" + nines + " 1;", ""},
		{"1 " + nines + ";2 0;", ""}, {"1 " + nines + ";1 -1;", ""}, {"0 1/2 0;0 1/2 " + nines + ";1 0 0;", "0 0 1;2 0 0;-1/" + nines + " 1/" + nines + " 0;"}, {"0 1/2 " + nines + ";0 1/2 0;1 0 0;", ""},
	}
	for _, c := range cases {
		m := matrix(c.m)
		wantInverse(t, m, matrix(c.want), c.want != "")
		checkReduced(t, m)
	}
}

func TestDetLimits(t *testing.T) {
	eight := strings.Repeat("9", 215) + "8"
	cases := []struct{ m, want string }{
		// The product, from the first element on.
		{nines + ";", nines}, {"2 0;0 " + halfNines + ";", eight}, {"2 0;0 " + nines + ";", ""}, {nines + " 0;0 2;", ""}, {"0 " + nines + ";2 0;", ""}, {"0 1;" + nines + " 0;", "-" + nines}, {nines + " 0 0;0 2 0;0 0 1/2;", ""}, {"2 0 0;0 " + nines + " 0;0 0 1/2;", ""}, {"2 0 0;0 1/2 0;0 0 " + nines + ";", nines}, {"1/2 0 0;0 2 0;0 0 " + nines + ";", nines}, {nines + " 0 0;0 1/2 0;0 0 2;", nines}, {nines + " 0 0;0 " + nines + " 0;0 0 1/" + nines + ";", ""},
		{"0 0 1/2;0 2 0;" + nines + " 0 0;", ""}, {"0 0 " + nines + ";0 2 0;1/2 0 0;", "-" + nines}, {"2 0;0 1/" + nines + ";", "2/" + nines}, {"1/2 0;0 1/" + nines + ";", ""},
		// A zero column ends it before the product.
		{nines + " 0 0;0 2 0;0 0 0;", "0"}, {nines + " 0 0 0;0 2 0 0;0 0 0 0;0 0 0 1;", "0"}, {"0 " + nines + ";0 2;", "0"}, {"0 1/2 0;0 2 " + nines + ";0 " + nines + " 1;", "0"},
		// A factor, a multiple or a difference that is too large, also before a zero column.
		{"1/2 0;" + nines + " 2;", ""}, {"1/2 0;" + halfNines + " 2;", "1"}, {"1 " + nines + ";2 0;", ""}, {"1 " + nines + ";1 -1;", ""}, {"1 " + nines + ";1 0;", "-" + nines}, {"1 " + nines + ";2 1;", ""}, {"2 " + nines + ";1 0;", "-" + nines}, {"2 " + nines + ";1 1;", "-" + strings.Repeat("9", 215) + "7"}, {"1 0 " + nines + ";2 0 0;0 0 1;", ""}, {"1 0 " + nines + ";1 0 -1;0 0 1;", ""}, {"1 0 " + nines + ";1 0 0;0 0 1;", "0"}, {"1 " + nines + " 0;2 0 0;0 0 1;", ""}, {"1 0 0;0 1 " + nines + ";0 2 0;", ""},
		// The rows that another one passes keep their order.
		{"0 2 " + nines + ";0 1 0;1 0 0;", "-" + nines}, {"0 1 0;0 2 " + nines + ";1 0 0;", nines}, {"0 1 " + nines + ";0 2 0;1 0 0;", ""}, {"0 2 0;0 1 " + nines + ";1 0 0;", ""}, {"0 2 " + nines + " 0;0 1 0 0;1 0 0 0;0 0 0 1;", "-" + nines},
	}
	for _, c := range cases {
		m, want := matrix(c.m), impl.Rat{}
		if c.want != "" {
			want = vector(c.want)[0]
		}
		wantRat(t, "Det", impl.Det(m), want, c.m, nil)
		checkReduced(t, m)
	}
}

func TestGaussInvalid(t *testing.T) {
	for _, shape := range [][2]int{{1, 1}, {1, 2}, {2, 1}, {2, 2}, {3, 3}, {40, 1}, {1, 40}, {40, 40}} {
		for _, r := range []impl.Rat{fraction(plus(), 1), fraction(minus(1), 2)} {
			for _, bad := range noMatrices(shape[0], shape[1], r) {
				noGauss(t, bad)
			}
		}
	}
}

// One element is not valid, at every place, in a matrix of which the rows there may be finished, passed or left as they are.
func TestGaussLooksAtEveryElement(t *testing.T) {
	for _, text := range []string{"0 0;0 0;", "1 0;0 1;", "0 1;1 0;", "1 1;1 1;", "0 0 0;0 0 0;0 0 0;", "1 0 0;0 1 0;0 0 1;", "0 0 1;0 1 0;1 0 0;", "0 0 0;1 2 3;0 0 0;", "1 0 0 0;", "0;0;1;"} {
		m := matrix(text)
		for i := range m {
			for j := range m[i] {
				for _, bad := range invalidRats() {
					noGauss(t, withCell(m, i, j, bad))
				}
			}
		}
	}
}

// gaussCalls calls every function of the chapter, and returns the matrices it gets; a vector is one row.
func gaussCalls(m [][]impl.Rat, b []impl.Rat) map[string][][]impl.Rat {
	x, _ := impl.Solve(m, b)
	inverse, _ := impl.Inverse(m)
	impl.Rank(m)
	var pivots []impl.Rat
	for _, col := range impl.Pivots(m) {
		pivots = append(pivots, ratOfInts(col, 1))
	}
	return map[string][][]impl.Rat{
		"ReducedRowEchelon": impl.ReducedRowEchelon(m), "Pivots": {pivots}, "Solve": {x}, "Inverse": inverse, "Det": {{impl.Det(m)}}, "KernelVector": {impl.KernelVector(m)},
	}
}

func TestGaussArgumentsStayAndResultsAreNew(t *testing.T) {
	mats := [][][]impl.Rat{
		nil, matrix(";"), matrix(";;"), matrix("1;"), matrix("-3/2;"), matrix("0;"), matrix("0 0;0 0;"), matrix("1 0;0 1;"), matrix("0 1;1 0;"), matrix("1 2;3 4;"), matrix("1 2;2 4;"), matrix("0 0;1 1000000000;"), matrix("1 2 3;4 5 6;"), matrix("1 0 1/7;0 1 -1000000001/2;"), matrix("1;0;0;"), matrix("0;0;1;"),
		matrix("0 0 1;0 1 0;1 0 0;"), matrix("1 0 0;0 1 0;0 0 1;"), matrix("0 1 5;0 0 1;1 0 0;"), matrix("0 0 0;0 0 0;0 0 1/2;"), {{greatest(), smallest()}, {fraction(plus(), 1), greatest()}}, {{fraction(plus(1), 1), greatest()}, {fraction(plus(2), 1), greatest()}},
		{{fraction(plus(1), 1), {}}, {fraction(plus(2), 4), fraction(plus(1), 1)}}, matrix("1 2;3;"), matrix("1;2 3;"),
	}
	for _, m := range mats {
		for _, b := range [][]impl.Rat{nil, vector("2/3"), vector("0 0"), vector("1 1000000000"), vector("1 0 -1000000001/2"), vector("0 0 0"), {{}, fraction(plus(7), 1)}} {
			checkGaussMemory(t, m, b)
		}
	}
}

func checkGaussMemory(t *testing.T, m [][]impl.Rat, b []impl.Rat) {
	t.Helper()
	mat, guards := guardedMat(m)
	vec, more := guardedVec(b)
	results, wanted := gaussCalls(mat, vec), gaussCalls(m, b)
	checkPartsAreNew(t, matParts(results), matParts(wanted), slices.Concat(guards, more))
	for name, result := range results {
		checkRowsAreApart(t, name, result, wanted[name])
		for i := range result[:cap(result)] {
			result[:cap(result)][i] = nil
		}
		if !isGuarded(mat, m) || !sameVec(vec[:len(b)+1], append(slices.Clone(b), fraction(plus(5), 6))) {
			t.Fatalf("%v or %v was changed, or %s shares memory with it", m, b, name)
		}
	}
}
