package tests

import (
	"fmt"
	"math"
	"math/rand"
	"slices"
	"strings"
	"testing"

	"loop.example/g00802/impl"
)

// matrix returns the rows of a text in which a semicolon ends each row: ";;" are two rows without elements.
func matrix(s string) [][]impl.Rat {
	var out [][]impl.Rat
	for _, row := range strings.SplitAfter(s, ";") {
		if before, isRow := strings.CutSuffix(row, ";"); isRow {
			out = append(out, vector(before))
		}
	}
	return out
}

func sameMat(m [][]impl.Rat, o [][]impl.Rat) bool { return slices.EqualFunc(m, o, sameVec) }

func wantMat(t *testing.T, label string, got [][]impl.Rat, want [][]impl.Rat, args ...any) {
	t.Helper()
	if !sameMat(got, want) {
		t.Fatalf("%s of %v = %v, want %v", label, args, got, want)
	}
}

func constMat(rows int, cols int, r impl.Rat) [][]impl.Rat {
	var out [][]impl.Rat
	for range rows {
		out = append(out, copies(cols, r))
	}
	return out
}

// matFrom returns a matrix with the elements that element returns.
func matFrom(rows int, cols int, element func(i int, j int) impl.Rat) [][]impl.Rat {
	out := make([][]impl.Rat, rows)
	for i := range out {
		for j := range cols {
			out[i] = append(out[i], element(i, j))
		}
	}
	return out
}

// smallMat returns a matrix whose products with a few others are always valid.
func smallMat(random *rand.Rand, rows int, cols int) [][]impl.Rat {
	return matFrom(rows, cols, func(int, int) impl.Rat { return ratOfInts(random.Intn(21)-10, random.Intn(4)+1) })
}

func randomMat(random *rand.Rand, rows int, cols int, most int) [][]impl.Rat {
	return matFrom(rows, cols, func(int, int) impl.Rat { return randomRat(random, most) })
}

func withRow(m [][]impl.Rat, i int, row []impl.Rat) [][]impl.Rat {
	out := slices.Clone(m)
	out[i] = row
	return out
}

func withCell(m [][]impl.Rat, i int, j int, r impl.Rat) [][]impl.Rat {
	return withRow(m, i, withElement(m[i], j, r))
}

func widthOf(m [][]impl.Rat) int {
	if len(m) == 0 {
		return 0
	}
	return len(m[0])
}

func columnOf(m [][]impl.Rat, j int) []impl.Rat {
	var out []impl.Rat
	for _, row := range m {
		out = append(out, row[j])
	}
	return out
}

func unlessMatTooLarge(m [][]impl.Rat) [][]impl.Rat {
	if slices.ContainsFunc(m, func(row []impl.Rat) bool { return slices.ContainsFunc(row, isZeroRat) }) {
		return nil
	}
	return m
}

// productOf computes every element with math/big, from the first product to the last one.
func productOf(m [][]impl.Rat, o [][]impl.Rat) [][]impl.Rat {
	return matFrom(len(m), widthOf(o), func(i int, j int) impl.Rat { return dotOf(m[i], columnOf(o, j)) })
}

func transposeOf(m [][]impl.Rat) [][]impl.Rat {
	return matFrom(widthOf(m), len(m), func(i int, j int) impl.Rat { return m[j][i] })
}

func colsOf(m [][]impl.Rat, cols []int) [][]impl.Rat {
	return matFrom(len(m), len(cols), func(i int, j int) impl.Rat { return m[i][cols[j]] })
}

func vecMatOf(v []impl.Rat, m [][]impl.Rat) []impl.Rat {
	return unlessTooLarge(productOf([][]impl.Rat{v}, m)[0])
}

func matVecOf(m [][]impl.Rat, v []impl.Rat) []impl.Rat {
	var out []impl.Rat
	for _, row := range m {
		out = append(out, dotOf(row, v))
	}
	return unlessTooLarge(out)
}

// shapes returns numbers of rows and columns.
func shapes() [][2]int {
	var out [][2]int
	for rows := range 6 {
		for cols := range 6 {
			out = append(out, [2]int{rows, cols})
		}
	}
	return append(out, [2]int{0, 40}, [2]int{40, 0}, [2]int{1, 40}, [2]int{40, 1}, [2]int{3, 40}, [2]int{40, 3}, [2]int{17, 11}, [2]int{11, 17}, [2]int{40, 40})
}

// corners returns the places of the first, a middle and the last element of a matrix with one at least.
func corners(rows int, cols int) [][2]int {
	return [][2]int{{0, 0}, {0, cols - 1}, {rows / 2, cols / 2}, {rows - 1, 0}, {rows - 1, cols - 1}}
}

// noMatrices returns lists of rows that are not matrices, some of them of a given size and with a given element.
func noMatrices(rows int, cols int, r impl.Rat) [][][]impl.Rat {
	m := constMat(rows, cols, r)
	out := [][][]impl.Rat{constMat(41, cols, r), constMat(41, 0, r), make([][]impl.Rat, 1000), constMat(rows, 41, r), constMat(1, 41, r), constMat(41, 41, r), constMat(80, 40, r)}
	for i := range rows {
		for _, n := range []int{0, cols - 1, cols + 1, 40} {
			if n != cols && rows > 1 {
				out = append(out, withRow(m, i, copies(n, r)))
			}
		}
	}
	for i, place := range corners(rows, cols) {
		for j, bad := range invalidRats() {
			if (i+j)%5 == 0 || len(bad.Den) == 0 {
				out = append(out, withCell(m, place[0], place[1], bad))
			}
		}
	}
	return out
}

func TestMatOkOfEverySize(t *testing.T) {
	for rows := range 44 {
		for cols := range 44 {
			want := rows <= 40 && (cols <= 40 || rows == 0)
			if got := impl.MatOk(constMat(rows, cols, fraction(minus(1), 2))); got != want {
				t.Fatalf("MatOk of %d rows with %d elements = %v", rows, cols, got)
			}
		}
	}
	if !impl.MatOk(nil) || !impl.MatOk([][]impl.Rat{}) || !impl.MatOk([][]impl.Rat{{}}) || !impl.MatOk([][]impl.Rat{nil, {}, nil}) {
		t.Error("MatOk of no rows or of rows without elements = false")
	}
	if impl.MatOk(make([][]impl.Rat, 100000)) || impl.MatOk(constMat(2, 100000, fraction(plus(), 1))) {
		t.Error("MatOk of many rows or long rows = true")
	}
}

func TestMatOkOfRowsOfUnequalLength(t *testing.T) {
	for _, rows := range []int{1, 2, 3, 40} {
		for _, cols := range []int{0, 1, 2, 39, 40} {
			m := constMat(rows, cols, fraction(plus(7), 3))
			for i := range rows {
				for n := range 42 {
					want := n == cols || rows == 1 && n <= 40
					if got := impl.MatOk(withRow(m, i, copies(n, fraction(plus(7), 3)))); got != want {
						t.Fatalf("MatOk of %d rows with %d elements, row %d with %d, = %v", rows, cols, i, n, got)
					}
				}
			}
		}
	}
}

func TestMatOkLooksAtEveryElement(t *testing.T) {
	for _, shape := range [][2]int{{1, 1}, {1, 3}, {3, 1}, {3, 3}, {2, 40}, {40, 2}} {
		m := constMat(shape[0], shape[1], fraction(minus(3), 2))
		for i := range m {
			for j := range m[i] {
				for _, bad := range invalidRats() {
					if impl.MatOk(withCell(m, i, j, bad)) {
						t.Fatalf("MatOk of size %v, %v at %d, %d, = true", shape, bad, i, j)
					}
				}
			}
		}
	}
	for _, shape := range shapes() {
		if m := randomMat(rand.New(rand.NewSource(30)), shape[0], shape[1], 24); !impl.MatOk(m) {
			t.Fatalf("MatOk of %v = false", m)
		}
	}
}

func TestMatZero(t *testing.T) {
	dims := append(intSamples(), -1, 0, 1, 2, 3, 20, 39, 40, 41, 42, math.MinInt, math.MaxInt, 1<<32, 1<<32+1, -1<<32)
	for _, rows := range dims {
		for _, cols := range dims {
			var want [][]impl.Rat
			if rows >= 0 && rows <= 40 && cols >= 0 && cols <= 40 {
				want = constMat(rows, cols, fraction(plus(), 1))
			}
			wantMat(t, "MatZero", impl.MatZero(rows, cols), want, rows, cols)
		}
	}
	for rows := -1; rows <= 41; rows++ {
		for cols := -1; cols <= 41; cols++ {
			m := impl.MatZero(rows, cols)
			isSize := rows >= 0 && rows <= 40 && cols >= 0 && cols <= 40
			if !impl.MatOk(m) || isSize && (len(m) != rows || rows > 0 && len(m[0]) != cols) || !isSize && len(m) != 0 {
				t.Fatalf("MatZero(%d, %d) = %v", rows, cols, m)
			}
		}
	}
}

func TestMatIdentity(t *testing.T) {
	for _, n := range append(intSamples(), -1, 0, 1, 2, 3, 4, 5, 20, 39, 40, 41, 42, math.MinInt, math.MaxInt, 1<<32, 1<<32+1) {
		var want [][]impl.Rat
		if n >= 0 && n <= 40 {
			want = constMat(n, n, fraction(plus(), 1))
			for i := range n {
				want[i][i] = fraction(plus(1), 1)
			}
		}
		wantMat(t, "MatIdentity", impl.MatIdentity(n), want, n)
	}
}

// checkMatOperations compares the operations of two matrices whose dimensions match with math/big.
func checkMatOperations(t *testing.T, m [][]impl.Rat, o [][]impl.Rat, v []impl.Rat) {
	t.Helper()
	wantMat(t, "MatTranspose", impl.MatTranspose(m), transposeOf(m), m)
	if len(o) > 0 {
		wantMat(t, "MatMul", impl.MatMul(m, o), unlessMatTooLarge(productOf(m, o)), m, o)
	} else {
		wantMat(t, "MatMul", impl.MatMul(m, o), nil, m, o)
	}
	wantVec(t, "VecMat", impl.VecMat(v, o), vecMatOf(v, o), v, o)
	if len(m) > 0 {
		wantVec(t, "MatVec", impl.MatVec(m, v), matVecOf(m, v), m, v)
		wantVec(t, "VecMat", impl.VecMat(m[0], o), vecMatOf(m[0], o), m, o)
	} else {
		wantVec(t, "MatVec", impl.MatVec(m, v), nil, m, v)
	}
	if got := impl.MatEqual(m, o); got != sameMat(m, o) {
		t.Fatalf("MatEqual(%v, %v) = %v", m, o, got)
	}
}

func TestP2MatOperations(t *testing.T) {
	random := rand.New(rand.NewSource(31))
	for _, shape := range shapes() {
		for _, width := range []int{0, 1, 2, 3, 7} {
			rows, cols := shape[0], shape[1]
			checkMatOperations(t, smallMat(random, rows, cols), smallMat(random, cols, width), smallVec(random, cols))
			if rows*cols > 150 {
				continue
			}
			// With more elements or limbs, nearly no result is valid.
			for _, most := range []int{1, 2, 6, 12, 24} {
				checkMatOperations(t, randomMat(random, rows, cols, most), randomMat(random, cols, width, most), randomVec(random, cols, most))
			}
		}
	}
}

func TestP2LargestProduct(t *testing.T) {
	random := rand.New(rand.NewSource(32))
	m, o := smallMat(random, 40, 40), smallMat(random, 40, 40)
	checkMatOperations(t, m, o, smallVec(random, 40))
	wantMat(t, "MatMul", impl.MatMul(m, impl.MatIdentity(40)), m, "the identity matrix")
}

func TestP2MatLaws(t *testing.T) {
	random := rand.New(rand.NewSource(33))
	for _, shape := range shapes() {
		rows, cols := shape[0], shape[1]
		if rows*cols > 200 || rows == 0 || cols == 0 {
			continue
		}
		for range 3 {
			m, o, p := smallMat(random, rows, cols), smallMat(random, cols, 3), smallMat(random, 3, 2)
			checkProductLaws(t, m, o, p, smallVec(random, rows), smallVec(random, 3))
			checkLinearLaws(t, m, smallVec(random, cols), smallVec(random, cols), smallVec(random, rows), ratOfInts(random.Intn(21)-10, random.Intn(4)+1))
			checkColumnLaws(t, m, random)
		}
	}
}

func checkProductLaws(t *testing.T, m [][]impl.Rat, o [][]impl.Rat, p [][]impl.Rat, v []impl.Rat, w []impl.Rat) {
	t.Helper()
	rows, cols := len(m), len(m[0])
	product, turned := impl.MatMul(m, o), impl.MatTranspose(m)
	checkLaws(t, map[string]bool{
		"(m o) p = m (o p)":              sameMat(impl.MatMul(product, p), impl.MatMul(m, impl.MatMul(o, p))),
		"1 m = m = m 1":                  sameMat(impl.MatMul(impl.MatIdentity(rows), m), m) && sameMat(impl.MatMul(m, impl.MatIdentity(cols)), m),
		"0 m = 0, m 0 = 0":               sameMat(impl.MatMul(impl.MatZero(2, rows), m), impl.MatZero(2, cols)) && sameMat(impl.MatMul(m, impl.MatZero(cols, 5)), impl.MatZero(rows, 5)),
		"the transpose's transpose":      sameMat(impl.MatTranspose(turned), m) && len(turned) == cols && len(turned[0]) == rows,
		"the transpose of m o":           sameMat(impl.MatTranspose(product), impl.MatMul(impl.MatTranspose(o), turned)),
		"the transpose of 1 and of 0":    sameMat(impl.MatTranspose(impl.MatIdentity(rows)), impl.MatIdentity(rows)) && sameMat(impl.MatTranspose(impl.MatZero(rows, cols)), impl.MatZero(cols, rows)),
		"(m o) w = m (o w)":              sameVec(impl.MatVec(product, w), impl.MatVec(m, impl.MatVec(o, w))),
		"v (m o) = (v m) o":              sameVec(impl.VecMat(v, product), impl.VecMat(impl.VecMat(v, m), o)),
		"v (o w) = (v o) w":              sameRat(impl.VecDot(v, impl.MatVec(product, w)), impl.VecDot(impl.VecMat(v, product), w)),
		"m = m, m o is a matrix":         impl.MatEqual(m, matFrom(rows, cols, func(i int, j int) impl.Rat { return m[i][j] })) && impl.MatOk(product) && impl.MatOk(turned),
		"a product with a single row":    sameMat(impl.MatMul([][]impl.Rat{v}, m), [][]impl.Rat{impl.VecMat(v, m)}),
		"a product with a single column": sameVec(columnOf(impl.MatMul(o, impl.MatTranspose([][]impl.Rat{w})), 0), impl.MatVec(o, w)),
	}, m, o, p, v, w)
}

func checkLinearLaws(t *testing.T, m [][]impl.Rat, v []impl.Rat, w []impl.Rat, u []impl.Rat, r impl.Rat) {
	t.Helper()
	turned := impl.MatTranspose(m)
	sum := impl.VecZero(len(m[0]))
	for i, row := range m {
		sum = impl.VecAdd(sum, impl.VecScale(row, u[i]))
	}
	checkLaws(t, map[string]bool{
		"m (v + w) = m v + m w":        sameVec(impl.MatVec(m, impl.VecAdd(v, w)), impl.VecAdd(impl.MatVec(m, v), impl.MatVec(m, w))),
		"m (r v) = r (m v)":            sameVec(impl.MatVec(m, impl.VecScale(v, r)), impl.VecScale(impl.MatVec(m, v), r)),
		"m v is v times the transpose": sameVec(impl.MatVec(m, v), impl.VecMat(v, turned)),
		"u m is the transpose times u": sameVec(impl.VecMat(u, m), impl.MatVec(turned, u)),
		"u m is the sum of the rows":   sameVec(impl.VecMat(u, m), sum),
		"0 m = 0, m 0 = 0":             sameVec(impl.VecMat(impl.VecZero(len(m)), m), impl.VecZero(len(m[0]))) && sameVec(impl.MatVec(m, impl.VecZero(len(m[0]))), impl.VecZero(len(m))),
		"1 v = v = v 1":                sameVec(impl.MatVec(impl.MatIdentity(len(v)), v), v) && sameVec(impl.VecMat(v, impl.MatIdentity(len(v))), v),
	}, m, v, w, u, r)
}

func checkColumnLaws(t *testing.T, m [][]impl.Rat, random *rand.Rand) {
	t.Helper()
	rows, cols := len(m), len(m[0])
	some := []int{random.Intn(cols), random.Intn(cols), random.Intn(cols)}
	all := make([]int, cols)
	laws := map[string]bool{}
	for j := range all {
		all[j] = j
		laws[fmt.Sprintf("m times unit vector %d", j)] = sameVec(impl.MatVec(m, impl.VecUnit(cols, j)), columnOf(m, j))
		laws[fmt.Sprintf("column %d", j)] = sameVec(columnOf(impl.MatCols(m, []int{j}), 0), columnOf(m, j))
	}
	for i := range m {
		laws[fmt.Sprintf("unit vector %d times m", i)] = sameVec(impl.VecMat(impl.VecUnit(rows, i), m), m[i])
	}
	laws["all columns are m"] = sameMat(impl.MatCols(m, all), m)
	laws["some columns"] = sameMat(impl.MatCols(m, some), colsOf(m, some))
	laws["some columns are m times columns of 1"] = sameMat(impl.MatCols(m, some), impl.MatMul(m, impl.MatCols(impl.MatIdentity(cols), some)))
	laws["some columns of columns"] = sameMat(impl.MatCols(impl.MatCols(m, some), []int{2, 0}), impl.MatCols(m, []int{some[2], some[0]}))
	slices.Reverse(all)
	laws["the columns of the columns from the last to the first are m"] = sameMat(impl.MatCols(impl.MatCols(m, all), all), m)
	checkLaws(t, laws, m, some)
}

func TestMatTransposeEdges(t *testing.T) {
	cases := []struct{ m, want string }{
		{"", ""}, {";", ""}, {";;;", ""}, {"5;", "5;"}, {"1 2 3;", "1;2;3;"}, {"1;2;3;", "1 2 3;"}, {"1 2;3 4;", "1 3;2 4;"}, {"1 1/2 -3;0 2/7 9;", "1 0;1/2 2/7;-3 9;"},
	}
	for _, c := range cases {
		wantMat(t, "MatTranspose", impl.MatTranspose(matrix(c.m)), matrix(c.want), c.m)
	}
	for n := range 42 {
		wantMat(t, "MatTranspose", impl.MatTranspose(constMat(n, 0, impl.Rat{})), nil, n, "rows without elements")
		if n > 0 && n <= 40 {
			wantMat(t, "MatTranspose", impl.MatTranspose(constMat(1, n, greatest())), constMat(n, 1, greatest()), "one row", n)
			wantMat(t, "MatTranspose", impl.MatTranspose(constMat(n, 1, smallest())), constMat(1, n, smallest()), "one column", n)
		}
	}
	wantMat(t, "MatTranspose", impl.MatTranspose(constMat(41, 1, greatest())), nil, "41 rows")
	wantMat(t, "MatTranspose", impl.MatTranspose(constMat(1, 41, greatest())), nil, "41 columns")
}

func TestMatProductEdges(t *testing.T) {
	cases := []struct{ m, v, want string }{
		{"5;", "7", "35"}, {"1 2;3 4;", "1 1", "3 7"}, {"1 2;3 4;", "1 -1", "-1 -1"}, {"1/2 1/3;", "2 3", "2"}, {"2;0;-1/2;", "1/2", "1 0 -1/4"}, {"0 0;0 0;", "5 6", "0 0"}, {"1 2 3;4 5 6;", "1 0 -1", "-2 -2"},
		{"", "", ""}, {"", "1", ""}, {"", "1 2 3", ""}, {";", "", "0"}, {";;;", "", "0 0 0"}, {";", "1", ""}, {";;;", "1 2 3", ""}, {"1 2;3 4;", "1", ""}, {"1 2;3 4;", "1 2 3", ""}, {"1 2;3 4;", "", ""}, {"1;2;3;", "1 2 3", ""}, {"1 2 3;", "1", ""},
	}
	for _, c := range cases {
		wantVec(t, "MatVec", impl.MatVec(matrix(c.m), vector(c.v)), vector(c.want), c.m, c.v)
	}
	turned := []struct{ v, m, want string }{
		{"7", "5;", "35"}, {"1 1", "1 2;3 4;", "4 6"}, {"1 -1", "1 2;3 4;", "-2 -2"}, {"1/2", "2 0 -1/2;", "1 0 -1/4"}, {"2 3", "1/2;1/3;", "2"}, {"5 6", "0 0;0 0;", "0 0"}, {"1 0 -1", "1 4;2 5;3 6;", "-2 -2"},
		{"", "", ""}, {"1", "", ""}, {"1 2 3", "", ""}, {"", ";", ""}, {"1", ";", ""}, {"1 2 3", ";;;", ""}, {"1", "1 2;3 4;", ""}, {"1 2 3", "1 2;3 4;", ""}, {"", "1 2;3 4;", ""}, {"1 2 3", "1 2 3;", ""}, {"1", "1;2;3;", ""},
	}
	for _, c := range turned {
		wantVec(t, "VecMat", impl.VecMat(vector(c.v), matrix(c.m)), vector(c.want), c.v, c.m)
	}
}

func TestMatMulEdges(t *testing.T) {
	cases := []struct{ m, o, want string }{
		{"5;", "7;", "35;"}, {"1 2;3 4;", "1 2;3 4;", "7 10;15 22;"}, {"0 1;1 0;", "1 2;3 4;", "3 4;1 2;"}, {"1 2;3 4;", "0 1;1 0;", "2 1;4 3;"}, {"1 2 3;", "1;1/2;1/3;", "3;"}, {"1;1/2;1/3;", "1 2 3;", "1 2 3;1/2 1 3/2;1/3 2/3 1;"},
		{"0 1;0 0;", "0 1;0 0;", "0 0;0 0;"}, {"1 -1;", "2 3;2 3;", "0 0;"},
		{"", "", ""}, {"", "1;", ""}, {"", "1 2;3 4;", ""}, {"", ";", ""}, {"", ";;", ""}, {";", "", ""}, {";;;", "", ""}, {"1;", "", ""}, {"1 2;3 4;", "", ""},
		{"1;", ";", ";"}, {"1 2;3 4;5 6;", ";;", ";;;"}, {"1 2 3;", ";;;", ";"}, {"1 2;3 4;", ";", ""}, {"1 2;3 4;", ";;;", ""}, {";", ";", ""}, {";;", ";;", ""}, {";", "1;", ""}, {";;", "1 2;3 4;", ""},
		{"1 2;", "1 2;", ""}, {"1;2;", "1;2;", ""}, {"1 2;3 4;", "1 2;", ""}, {"1 2;3 4;", "1 2;3 4;5 6;", ""}, {"1;2;3;", "1;2;3;", ""}, {"1 2 3;4 5 6;", "1 2 3;4 5 6;", ""},
	}
	for _, c := range cases {
		wantMat(t, "MatMul", impl.MatMul(matrix(c.m), matrix(c.o)), matrix(c.want), c.m, c.o)
	}
}

func TestMatDimensionsMatch(t *testing.T) {
	one := fraction(plus(1), 1)
	for rows := range 42 {
		for cols := range 42 {
			for _, n := range []int{0, 1, 2, 3, 39, 40, 41} {
				m, isMat := constMat(rows, cols, one), rows > 0 && rows <= 40 && cols <= 40
				var wanted, turned []impl.Rat
				var product, none [][]impl.Rat
				if isMat && n == cols {
					wanted = copies(rows, ratOfInts(n, 1))
				}
				if isMat && n == rows {
					turned = copies(cols, ratOfInts(n, 1))
					product = constMat(2, cols, ratOfInts(n, 1))
				}
				wantVec(t, "MatVec", impl.MatVec(m, copies(n, one)), wanted, rows, cols, n)
				wantVec(t, "VecMat", impl.VecMat(copies(n, one), m), turned, n, rows, cols)
				wantMat(t, "MatMul", impl.MatMul(constMat(2, n, one), m), product, n, rows, cols)
				wantMat(t, "MatMul", impl.MatMul(none, m), nil, "no rows", rows, cols)
			}
		}
	}
}

// One element of the result has 25 limbs, at every place: then there is no result.
func TestMatLimitsAtEveryPlace(t *testing.T) {
	one, zero, two := fraction(plus(1), 1), fraction(plus(), 1), fraction(plus(2), 1)
	for _, shape := range [][2]int{{1, 1}, {1, 3}, {3, 1}, {3, 3}, {2, 40}, {40, 2}} {
		rows, cols := shape[0], shape[1]
		m := constMat(rows, cols, zero)
		for _, place := range corners(rows, cols) {
			i, j := place[0], place[1]
			large := withCell(m, i, j, greatest())
			wantVec(t, "MatVec", impl.MatVec(large, copies(cols, one)), withElement(copies(rows, zero), i, greatest()), shape, i, j)
			wantVec(t, "MatVec", impl.MatVec(large, withElement(copies(cols, one), j, two)), nil, shape, i, j)
			wantVec(t, "VecMat", impl.VecMat(copies(rows, one), large), withElement(copies(cols, zero), j, greatest()), shape, i, j)
			wantVec(t, "VecMat", impl.VecMat(withElement(copies(rows, one), i, two), large), nil, shape, i, j)
			wantMat(t, "MatMul", impl.MatMul(impl.MatIdentity(rows), large), large, shape, i, j)
			wantMat(t, "MatMul", impl.MatMul(large, impl.MatIdentity(cols)), large, shape, i, j)
			wantMat(t, "MatMul", impl.MatMul(withCell(impl.MatIdentity(rows), i, i, two), large), nil, shape, i, j)
			wantMat(t, "MatMul", impl.MatMul(large, withCell(impl.MatIdentity(cols), j, j, two)), nil, shape, i, j)
			wantMat(t, "MatTranspose", impl.MatTranspose(large), withCell(constMat(cols, rows, zero), j, i, greatest()), shape, i, j)
			wantMat(t, "MatCols", impl.MatCols(large, []int{j, j}), withRow(constMat(rows, 2, zero), i, copies(2, greatest())), shape, i, j)
		}
	}
}

// What is computed on the way must be valid, even if the whole sum is: first the products, then the partial sums.
func TestMatPartialSums(t *testing.T) {
	digits := strings.Repeat("9", 216)
	cases := []struct{ v, column, want string }{
		{digits, "1", digits}, {digits, "2", ""}, {digits, "-2", ""}, {digits + " 1", "1 1", ""}, {"1 " + digits, "1 1", ""}, {"-1 " + digits + " 1", "1 1 1", digits}, {digits + " 1 -1", "1 1 1", ""}, {digits + " -1 1", "1 1 1", digits},
		{digits + " " + digits, "2 -2", ""}, {digits + " " + digits, "1 -1", "0"}, {"0 " + digits, "1 2", ""}, {digits + " " + digits, "1/" + digits + " 1/" + digits, "2"}, {"1/" + digits + " 1", "1 1", ""}, {"1/" + digits + " 1/" + digits + " 1", "1 -1 1", "1"},
		{"1/" + digits + " 1 1/" + digits, "1 1 -1", ""}, {"1/" + digits, "1/2", ""}, {"1 -" + digits + " -1 2", "1 1 1 1", "-" + strings.Repeat("9", 215) + "7"}, {"-1 -" + digits + " 1", "1 1 1", ""},
	}
	for _, c := range cases {
		v, column, want := vector(c.v), vector(c.column), vector(c.want)
		checkPartialSums(t, v, column, want)
		checkPartialSums(t, column, v, want)
	}
}

// checkPartialSums multiplies v with a matrix in which column is the only column, the first one and the last one.
func checkPartialSums(t *testing.T, v []impl.Rat, column []impl.Rat, want []impl.Rat) {
	t.Helper()
	zero := fraction(plus(), 1)
	for _, cols := range []int{1, 3} {
		for j := 0; j < cols; j += 2 {
			m := transposeOf(withRow(constMat(cols, len(v), zero), j, column))
			sums := copies(cols, zero)
			if len(want) == 0 {
				sums = nil
			} else {
				sums[j] = want[0]
			}
			wantVec(t, "VecMat", impl.VecMat(v, m), sums, v, m)
			wantVec(t, "MatVec", impl.MatVec(transposeOf(m), v), sums, m, v)
			checkProductRows(t, v, m, sums)
		}
	}
}

// checkProductRows makes v the first, a middle and the last row of a product's first factor.
func checkProductRows(t *testing.T, v []impl.Rat, m [][]impl.Rat, sums []impl.Rat) {
	t.Helper()
	for _, rows := range []int{1, 3} {
		for i := range rows {
			first := withRow(constMat(rows, len(v), fraction(plus(), 1)), i, v)
			want := withRow(constMat(rows, len(m[0]), fraction(plus(), 1)), i, sums)
			if len(sums) == 0 {
				want = nil
			}
			wantMat(t, "MatMul", impl.MatMul(first, m), want, first, m)
		}
	}
}

// noMat calls every function that takes a matrix, with one that is none, and other arguments that would do.
func noMat(t *testing.T, bad [][]impl.Rat) {
	t.Helper()
	if impl.MatOk(bad) {
		t.Fatalf("MatOk of %v = true", bad)
	}
	one := fraction(plus(1), 1)
	wantMat(t, "MatTranspose", impl.MatTranspose(bad), nil, bad)
	wantMat(t, "MatMul", impl.MatMul(bad, bad), nil, bad, bad)
	for _, n := range []int{0, 1, 2, 3, 40, len(bad), widthOf(bad)} {
		for _, r := range []impl.Rat{one, fraction(plus(), 1)} {
			wantVec(t, "MatVec", impl.MatVec(bad, copies(n, r)), nil, bad, n)
			wantVec(t, "VecMat", impl.VecMat(copies(n, r), bad), nil, n, bad)
			wantMat(t, "MatMul", impl.MatMul(constMat(2, n, r), bad), nil, n, bad)
			wantMat(t, "MatMul", impl.MatMul(bad, constMat(n, 2, r)), nil, bad, n)
		}
		wantMat(t, "MatMul", impl.MatMul(nil, bad), nil, "no rows", bad)
		wantMat(t, "MatMul", impl.MatMul(bad, make([][]impl.Rat, n)), nil, bad, "rows without elements", n)
	}
	for _, cols := range [][]int{nil, {0}, {1}, {0, 0}, {-1}, {2, 1, 0}} {
		wantMat(t, "MatCols", impl.MatCols(bad, cols), nil, bad, cols)
	}
}

func TestMatInvalid(t *testing.T) {
	for _, shape := range [][2]int{{1, 1}, {1, 2}, {2, 1}, {2, 2}, {3, 3}, {40, 1}, {1, 40}} {
		for _, r := range []impl.Rat{fraction(plus(), 1), fraction(minus(1), 2)} {
			for _, bad := range noMatrices(shape[0], shape[1], r) {
				noMat(t, bad)
			}
		}
	}
}

func TestMatWithInvalidVec(t *testing.T) {
	one := fraction(plus(1), 1)
	for _, n := range []int{1, 2, 3, 40} {
		for _, r := range []impl.Rat{fraction(plus(), 1), fraction(plus(2), 1)} {
			m, o, v := constMat(2, n, r), constMat(n, 2, r), copies(n, one)
			for i := range n {
				for j, bad := range invalidRats() {
					if n < 4 || (i+j)%20 == 0 {
						wantVec(t, "MatVec", impl.MatVec(m, withElement(v, i, bad)), nil, n, i, bad)
						wantVec(t, "VecMat", impl.VecMat(withElement(v, i, bad), o), nil, n, i, bad)
						wantVec(t, "VecMat", impl.VecMat(withElement(v, i, bad), constMat(n, 0, r)), nil, n, i, bad)
					}
				}
			}
		}
	}
	for _, n := range []int{41, 42, 1000} {
		wantVec(t, "MatVec", impl.MatVec(constMat(2, n, one), copies(n, one)), nil, n)
		wantVec(t, "VecMat", impl.VecMat(copies(n, one), constMat(n, 2, one)), nil, n)
		wantVec(t, "MatVec", impl.MatVec(make([][]impl.Rat, 2), copies(n, one)), nil, n)
		wantVec(t, "VecMat", impl.VecMat(copies(n, one), nil), nil, n)
	}
}

func TestMatCols(t *testing.T) {
	cases := []struct {
		m    string
		cols []int
		want string
	}{
		{"1 2;3 4;", []int{0}, "1;3;"}, {"1 2;3 4;", []int{1}, "2;4;"}, {"1 2;3 4;", []int{0, 1}, "1 2;3 4;"}, {"1 2;3 4;", []int{1, 0}, "2 1;4 3;"}, {"1 2;3 4;", []int{1, 1}, "2 2;4 4;"}, {"1 2;3 4;", []int{0, 1, 0, 1, 1}, "1 2 1 2 2;3 4 3 4 4;"},
		{"1 2 3;4 5 6;", []int{2, 1, 0}, "3 2 1;6 5 4;"}, {"1 2 3;4 5 6;", []int{0, 2}, "1 3;4 6;"}, {"7;", []int{0, 0, 0}, "7 7 7;"},
		{"1 2;3 4;", nil, ";;"}, {"1 2;3 4;", []int{}, ";;"}, {"7;", nil, ";"}, {";", nil, ";"}, {";;;", []int{}, ";;;"}, {"", nil, ""}, {"", []int{}, ""},
		{"1 2;3 4;", []int{-1}, ""}, {"1 2;3 4;", []int{2}, ""}, {"1 2;3 4;", []int{0, 2}, ""}, {"1 2;3 4;", []int{2, 0}, ""}, {"1 2;3 4;", []int{0, -1, 1}, ""}, {"1 2;3 4;", []int{-1, 0}, ""}, {"1 2;3 4;", []int{0, 1, 2}, ""},
		{"", []int{0}, ""}, {"", []int{-1}, ""}, {";", []int{0}, ""}, {";;", []int{-1}, ""}, {"7;", []int{1}, ""}, {"1 2;3 4;", []int{math.MaxInt}, ""}, {"1 2;3 4;", []int{math.MinInt}, ""}, {"1 2;3 4;", []int{1, 1 << 32}, ""}, {"1 2;3 4;", []int{-1 << 32}, ""},
	}
	for _, c := range cases {
		wantMat(t, "MatCols", impl.MatCols(matrix(c.m), c.cols), matrix(c.want), c.m, c.cols)
	}
}

func TestMatColsOfEveryNumber(t *testing.T) {
	for _, shape := range [][2]int{{0, 0}, {1, 1}, {3, 2}, {2, 40}, {40, 40}} {
		rows, cols := shape[0], shape[1]
		m := matFrom(rows, cols, func(i int, j int) impl.Rat { return ratOfInts(100*i+j, 41) })
		for n := range 90 {
			var chosen []int
			for i := range n {
				chosen = append(chosen, (i*7+n)%max(cols, 1))
			}
			var want [][]impl.Rat
			if rows > 0 && n <= 40 {
				want = colsOf(m, chosen)
			}
			wantMat(t, "MatCols", impl.MatCols(m, chosen), want, shape, chosen)
		}
		for i := range 40 {
			for _, bad := range []int{-1, cols, cols + 1} {
				chosen := slices.Repeat([]int{0}, 40)
				chosen[i] = bad
				wantMat(t, "MatCols", impl.MatCols(m, chosen), nil, shape, chosen)
			}
		}
	}
	wantMat(t, "MatCols", impl.MatCols(matrix("1 2;3 4;"), make([]int, 100000)), nil, "100000 columns")
}

// MatEqual compares lists of any rows, also those that are not matrices.
func TestMatEqual(t *testing.T) {
	one := fraction(plus(1), 1)
	values := [][][]impl.Rat{
		nil, matrix(";"), matrix(";;"), matrix("0;"), matrix("1;"), matrix("-1;"), matrix("1/2;"), matrix("1 2;"), matrix("1;2;"), matrix("2;1;"), matrix("1 2;3 4;"), matrix("1 3;2 4;"), matrix("3 4;1 2;"), matrix("1 2;3 5;"), matrix("0 2;3 4;"),
		matrix("1 2;3;"), matrix("1;2 3;"), matrix("1 2 3;"), matrix(";1 2 3;"), matrix("1 2 3;;"), matrix("1 2 3 4;"), matrix("1 2;3 4;5 6;"), {{{}}}, {{{}}, {{}}}, {{{}, {}}}, {{fraction(plus(2), 4)}}, {{one}, {fraction(minus(), 1)}}, {{fraction(plus(limbs(25, 1)...), 1)}},
		constMat(40, 40, one), constMat(41, 40, one), constMat(40, 41, one), constMat(41, 41, one), constMat(41, 0, one), constMat(300, 100, impl.Rat{}), withCell(constMat(41, 41, one), 40, 40, fraction(plus(2), 1)),
	}
	for i, m := range values {
		for j, o := range values {
			other := matFrom(len(o), 0, nil)
			for k, row := range o {
				other[k] = slices.Clone(row)
			}
			if got := impl.MatEqual(m, other); got != (i == j) {
				t.Errorf("MatEqual(%v, %v) = %v", m, other, got)
			}
		}
	}
	if !impl.MatEqual([][]impl.Rat{}, nil) || !impl.MatEqual([][]impl.Rat{nil, {}}, [][]impl.Rat{{}, nil}) || impl.MatEqual(nil, [][]impl.Rat{nil}) {
		t.Error("MatEqual of lists without rows or rows without elements is wrong")
	}
}

func TestMatEqualLooksAtEveryElement(t *testing.T) {
	for _, shape := range [][2]int{{1, 1}, {1, 3}, {3, 1}, {3, 3}, {2, 41}, {41, 2}} {
		m := constMat(shape[0], shape[1], fraction(plus(5), 3))
		for i := range m {
			for j := range m[i] {
				for _, r := range []impl.Rat{fraction(minus(5), 3), fraction(plus(5), 2), fraction(plus(10), 6), {}} {
					if o := withCell(m, i, j, r); impl.MatEqual(m, o) || impl.MatEqual(o, m) || !impl.MatEqual(o, slices.Clone(o)) {
						t.Fatalf("MatEqual of size %v that differ at %d, %d is wrong", shape, i, j)
					}
				}
			}
			shorter := withRow(m, i, m[i][1:])
			if impl.MatEqual(m, shorter) || impl.MatEqual(shorter, m) || !impl.MatEqual(shorter, slices.Clone(shorter)) {
				t.Fatalf("MatEqual of size %v, of which row %d is shorter, is wrong", shape, i)
			}
		}
	}
}

// matCalls calls every function of the chapter, and returns the matrices it gets; a vector is one row.
func matCalls(m [][]impl.Rat, o [][]impl.Rat, v []impl.Rat) map[string][][]impl.Rat {
	impl.MatOk(m)
	impl.MatEqual(m, o)
	cols := []int{0, widthOf(m) - 1, 0}
	return map[string][][]impl.Rat{
		"MatZero": impl.MatZero(len(m), widthOf(m)), "MatIdentity": impl.MatIdentity(len(m)), "MatTranspose": impl.MatTranspose(m), "MatVec": {impl.MatVec(m, v)}, "VecMat": {impl.VecMat(v, o)}, "MatMul": impl.MatMul(m, o), "MatCols": impl.MatCols(m, cols),
		"MatMul of a matrix and itself": impl.MatMul(m, m), "MatCols without columns": impl.MatCols(m, nil),
	}
}

// matParts returns the slices of all elements, each under the name of its matrix, its row, its index and its field.
func matParts(mats map[string][][]impl.Rat) map[string][]int {
	vecs := map[string][]impl.Rat{}
	for name, m := range mats {
		for i, row := range m {
			vecs[fmt.Sprintf("%s[%d]", name, i)] = row
		}
	}
	return vecParts(vecs)
}

// guardedMat returns a matrix whose elements lie in guarded arrays, and which has other fractions behind its rows and
// another row behind its end.
func guardedMat(m [][]impl.Rat) ([][]impl.Rat, []guarded) {
	var out [][]impl.Rat
	var guards []guarded
	for _, row := range append(slices.Clone(m), vector("7/8")) {
		kept, more := guardedVec(row)
		guards = append(guards, more...)
		out = append(out, kept)
	}
	return out[:len(m)], guards
}

// isGuarded reports whether a guarded matrix and all that lies behind its rows and its end are as they were.
func isGuarded(m [][]impl.Rat, before [][]impl.Rat) bool {
	all := m[:len(m)+1]
	if len(m) != len(before) || !sameVec(all[len(m)], vector("7/8")) {
		return false
	}
	for i, row := range m {
		if len(row) != len(before[i]) || !sameVec(row[:len(row)+1], append(slices.Clone(before[i]), fraction(plus(5), 6))) {
			return false
		}
	}
	return true
}

func TestMatArgumentsStayAndResultsAreNew(t *testing.T) {
	mats := [][][]impl.Rat{
		nil, matrix(";"), matrix(";;"), matrix("-3/2;"), matrix("1 0;-1 2/3;"), matrix("1/2 1000000000;0 0;"), matrix("1 2 3;4 5 6;"), matrix("1 2;0 -4;1/1000000007 6;"), {{greatest(), smallest()}, {fraction(plus(1), limbs(24, top)...), fraction(plus(), 1)}},
		{{fraction(plus(1), 1), {}}, {fraction(plus(2), 4), fraction(plus(1), 1)}}, matrix("1 2;3;"), matrix("1;2 3;"),
	}
	for _, m := range mats {
		for _, o := range mats {
			for _, v := range [][]impl.Rat{nil, vector("2/3"), vector("1 1"), vector("1 0 -1000000001/2"), {{}, fraction(plus(7), 1)}} {
				checkMatMemory(t, m, o, v)
			}
		}
	}
}

func checkMatMemory(t *testing.T, m [][]impl.Rat, o [][]impl.Rat, v []impl.Rat) {
	t.Helper()
	first, guards := guardedMat(m)
	second, more := guardedMat(o)
	vec, most := guardedVec(v)
	results, wanted := matCalls(first, second, vec), matCalls(m, o, v)
	checkPartsAreNew(t, matParts(results), matParts(wanted), slices.Concat(guards, more, most))
	for name, result := range results {
		checkRowsAreApart(t, name, result, wanted[name])
		for i := range result[:cap(result)] {
			result[:cap(result)][i] = nil
		}
		if !isGuarded(first, m) || !isGuarded(second, o) || !sameVec(vec[:len(v)+1], append(slices.Clone(v), fraction(plus(5), 6))) {
			t.Fatalf("%v, %v or %v was changed, or %s shares memory with it", m, o, v, name)
		}
	}
}

// checkRowsAreApart overwrites each row of a result and all the room behind it, and looks at the other rows.
func checkRowsAreApart(t *testing.T, name string, result [][]impl.Rat, want [][]impl.Rat) {
	t.Helper()
	for i, row := range result {
		all := row[:cap(row)]
		for j := range all {
			all[j] = fraction(plus(123), 7)
		}
		if !sameMat(withRow(result, i, want[i]), want) {
			t.Fatalf("row %d of %s shares memory with another one", i, name)
		}
		copy(row, want[i])
	}
}
