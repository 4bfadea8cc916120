package tests

import (
	"math"
	"math/big"
	"math/rand"
	"slices"
	"strconv"
	"strings"
	"testing"

	"loop.example/g00802/impl"
)

// etas returns the steps of a text like "0:1 2;1:3 4;", in which a semicolon ends each step.
func etas(s string) []impl.Eta {
	var out []impl.Eta
	for _, step := range strings.SplitAfter(s, ";") {
		if before, isStep := strings.CutSuffix(step, ";"); isStep {
			pos, vec, _ := strings.Cut(before, ":")
			n, err := strconv.Atoi(pos)
			if err != nil {
				panic("no step: " + step)
			}
			out = append(out, impl.Eta{Pos: n, Vec: vector(vec)})
		}
	}
	return out
}

func factor(inverse string, steps string) impl.Factor {
	return impl.Factor{Inverse: matrix(inverse), Etas: etas(steps)}
}

func sameFactor(f impl.Factor, g impl.Factor) bool {
	return sameMat(f.Inverse, g.Inverse) && slices.EqualFunc(f.Etas, g.Etas, func(e impl.Eta, o impl.Eta) bool { return e.Pos == o.Pos && sameVec(e.Vec, o.Vec) })
}

func wantFactor(t *testing.T, label string, got impl.Factor, gotOk bool, want impl.Factor, wantOk bool, args ...any) {
	t.Helper()
	if gotOk != wantOk || !sameFactor(got, want) {
		t.Fatalf("%s of %v = %v, %v, want %v, %v", label, args, got, gotOk, want, wantOk)
	}
}

func withSteps(f impl.Factor, steps ...impl.Eta) impl.Factor {
	return impl.Factor{Inverse: f.Inverse, Etas: slices.Concat(f.Etas, steps)}
}

func withStep(f impl.Factor, i int, step impl.Eta) impl.Factor {
	out := withSteps(f)
	out.Etas[i] = step
	return out
}

func bigRow(v []impl.Rat) []*big.Rat { return bigRows([][]impl.Rat{v})[0] }

func ratsOf(values []*big.Rat) []impl.Rat {
	var out []impl.Rat
	for _, value := range values {
		out = append(out, ratOf(value))
	}
	return out
}

func (e *exact) takeStep(x []*big.Rat, step impl.Eta) {
	vec := bigRow(step.Vec)
	quotient := e.keep(new(big.Rat).Quo(x[step.Pos], vec[step.Pos]))
	for i := range x {
		product := new(big.Rat).Mul(vec[i], quotient)
		if i != step.Pos {
			x[i] = e.keep(new(big.Rat).Sub(x[i], e.keep(product)))
		}
	}
	x[step.Pos] = quotient
}

func (e *exact) takeStepTransposed(y []*big.Rat, step impl.Eta) {
	vec, sum := bigRow(step.Vec), new(big.Rat)
	for i := range y {
		if i != step.Pos {
			product := e.keep(new(big.Rat).Mul(y[i], vec[i]))
			sum = e.keep(new(big.Rat).Add(sum, product))
		}
	}
	difference := e.keep(new(big.Rat).Sub(y[step.Pos], sum))
	y[step.Pos] = e.keep(new(big.Rat).Quo(difference, vec[step.Pos]))
}

// factorSolveOf needs a valid factor and as many elements of b.
func factorSolveOf(f impl.Factor, b []impl.Rat) []impl.Rat {
	product := matVecOf(f.Inverse, b)
	if len(product) == 0 {
		return nil
	}
	var e exact
	x := bigRow(product)
	for _, step := range f.Etas {
		e.takeStep(x, step)
		if e.tooLarge {
			return nil
		}
	}
	return ratsOf(x)
}

// factorTransposedOf needs a valid factor and as many elements of y.
func factorTransposedOf(f impl.Factor, y []impl.Rat) []impl.Rat {
	var e exact
	x := bigRow(y)
	for _, step := range slices.Backward(f.Etas) {
		e.takeStepTransposed(x, step)
		if e.tooLarge {
			return nil
		}
	}
	return vecMatOf(ratsOf(x), f.Inverse)
}

// refreshedOf needs a valid factor.
func refreshedOf(f impl.Factor) (impl.Factor, bool) {
	var cols [][]impl.Rat
	for _, unit := range unitRows(len(f.Inverse)) {
		col := factorSolveOf(f, unit)
		if len(col) == 0 {
			return impl.Factor{}, false
		}
		cols = append(cols, col)
	}
	return impl.Factor{Inverse: transposeOf(cols)}, true
}

// replacedOf needs a valid factor, and as many elements of col.
func replacedOf(f impl.Factor, pos int, col []impl.Rat) (impl.Factor, bool) {
	vec := factorSolveOf(f, col)
	if len(vec) == 0 || pos < 0 || pos >= len(vec) || len(vec[pos].Num.Mag) == 0 || len(f.Etas) == 12 {
		return impl.Factor{}, false
	}
	return withSteps(f, impl.Eta{Pos: pos, Vec: vec}), true
}

// checkFactor compares every function with math/big, and reports whether there is a FactorSolve, a FactorSolveTransposed and a FactorRefresh.
func checkFactor(t *testing.T, f impl.Factor, b []impl.Rat) [3]bool {
	t.Helper()
	if !impl.FactorOk(f) {
		t.Fatalf("FactorOk(%v) = false", f)
	}
	solution, transposed := factorSolveOf(f, b), factorTransposedOf(f, b)
	wantVec(t, "FactorSolve", impl.FactorSolve(f, b), solution, f, b)
	wantVec(t, "FactorSolveTransposed", impl.FactorSolveTransposed(f, b), transposed, f, b)
	for pos := -1; pos <= len(b); pos++ {
		want, wantOk := replacedOf(f, pos, b)
		got, ok := impl.FactorReplace(f, pos, b)
		wantFactor(t, "FactorReplace", got, ok, want, wantOk, f, pos, b)
	}
	refreshed, isRefreshed := refreshedOf(f)
	got, ok := impl.FactorRefresh(f)
	wantFactor(t, "FactorRefresh", got, ok, refreshed, isRefreshed, f)
	return [3]bool{len(solution) > 0, len(transposed) > 0, isRefreshed}
}

// noFactor calls every function with a factor that is not valid.
func noFactor(t *testing.T, bad impl.Factor) {
	t.Helper()
	if impl.FactorOk(bad) || !impl.FactorEqual(bad, withSteps(bad)) {
		t.Fatalf("FactorOk(%v) = true, or it does not equal itself", bad)
	}
	got, ok := impl.FactorRefresh(bad)
	wantFactor(t, "FactorRefresh", got, ok, impl.Factor{}, false, bad)
	for _, n := range []int{0, 1, 2, 3, 40, len(bad.Inverse), widthOf(bad.Inverse)} {
		b := copies(n, fraction(plus(1), 1))
		wantVec(t, "FactorSolve", impl.FactorSolve(bad, b), nil, bad, b)
		wantVec(t, "FactorSolveTransposed", impl.FactorSolveTransposed(bad, b), nil, bad, b)
		for _, pos := range []int{0, n - 1} {
			replaced, isReplaced := impl.FactorReplace(bad, pos, b)
			wantFactor(t, "FactorReplace", replaced, isReplaced, impl.Factor{}, false, bad, pos, b)
		}
	}
}

// smallStep returns a step that keeps fractions small: its greatest denominator divides the element at Pos.
func smallStep(random *rand.Rand, n int) impl.Eta {
	pos := random.Intn(n)
	vec := withElement(smallVec(random, n), pos, ratOfInts([]int{-3, -2, -1, 1, 2, 3}[random.Intn(6)], random.Intn(2)+1))
	for i := range vec {
		if i != pos && random.Intn(3) == 0 {
			vec[i] = fraction(plus(), 1)
		}
	}
	return impl.Eta{Pos: pos, Vec: vec}
}

func smallFactor(random *rand.Rand, n int, steps int) impl.Factor {
	f := impl.Factor{Inverse: sparseMat(random, n, n)}
	for range steps {
		f.Etas = append(f.Etas, smallStep(random, n))
	}
	return f
}

// edgeFactor returns a factor of zeros, small fractions, and fractions whose products and sums are nearly too large, or just are.
func edgeFactor(random *rand.Rand, n int, steps int) impl.Factor {
	f := impl.Factor{Inverse: edgeMat(random, n, n)}
	for len(f.Etas) < steps {
		step := impl.Eta{Pos: random.Intn(n), Vec: edgeMat(random, 1, n)[0]}
		if ratValue(step.Vec[step.Pos]).Sign() != 0 {
			f.Etas = append(f.Etas, step)
		}
	}
	return f
}

func TestMaxEtas(t *testing.T) {
	if impl.MaxEtas != 12 {
		t.Errorf("MaxEtas = %d", impl.MaxEtas)
	}
}

func TestFactorOkOfEverySize(t *testing.T) {
	for rows := range 43 {
		for cols := range 43 {
			f := impl.Factor{Inverse: constMat(rows, cols, fraction(plus(), 1))}
			want := rows == cols && rows >= 1 && rows <= 40
			if got := impl.FactorOk(f); got != want {
				t.Fatalf("FactorOk of %d rows with %d elements = %v", rows, cols, got)
			}
			step := impl.Eta{Pos: max(rows-1, 0), Vec: copies(rows, fraction(minus(1), 2))}
			if got := impl.FactorOk(withSteps(f, step)); got != want {
				t.Fatalf("FactorOk of %d rows with %d elements and one step = %v", rows, cols, got)
			}
		}
	}
	if impl.FactorOk(impl.Factor{}) || impl.FactorOk(impl.Factor{Inverse: [][]impl.Rat{}, Etas: []impl.Eta{}}) {
		t.Error("FactorOk of the zero value = true")
	}
	if !impl.FactorOk(impl.Factor{Inverse: unitRows(40), Etas: []impl.Eta{}}) || impl.FactorOk(impl.Factor{Inverse: make([][]impl.Rat, 100000)}) {
		t.Error("FactorOk of 40 rows without steps, or of many rows without elements, is wrong")
	}
}

func TestFactorOkNumberOfSteps(t *testing.T) {
	for _, n := range []int{1, 2, 3, 40} {
		f := impl.Factor{Inverse: unitRows(n)}
		for steps := range 30 {
			step := impl.Eta{Pos: steps % n, Vec: copies(n, fraction(plus(2), 3))}
			if got := impl.FactorOk(f); got != (steps <= 12) {
				t.Fatalf("FactorOk of %d rows and %d steps = %v", n, steps, got)
			}
			f = withSteps(f, step)
		}
	}
	if impl.FactorOk(impl.Factor{Inverse: unitRows(1), Etas: slices.Repeat(etas("0:1;"), 100000)}) {
		t.Error("FactorOk of many steps = true")
	}
}

// Only the elements at Pos must not be 0, and Inverse may be of any rank.
func TestFactorOkOfZeros(t *testing.T) {
	for _, n := range []int{1, 2, 3, 40} {
		for i := range n {
			step := impl.Eta{Pos: i, Vec: withElement(copies(n, fraction(plus(), 1)), i, smallest())}
			f := impl.Factor{Inverse: constMat(n, n, fraction(plus(), 1)), Etas: []impl.Eta{step}}
			if !impl.FactorOk(f) || !impl.FactorOk(impl.Factor{Inverse: constMat(n, n, greatest()), Etas: slices.Repeat(f.Etas, 12)}) {
				t.Fatalf("FactorOk(%v) = false", f)
			}
		}
	}
}

// brokenSteps returns what is not a step for as many elements, with one thing changed in a step.
func brokenSteps(step impl.Eta) []impl.Eta {
	n, vec := len(step.Vec), step.Vec
	var out []impl.Eta
	for _, pos := range []int{-1, -n, -n - 1, n, n + 1, math.MinInt, math.MaxInt, 1 << 32, -1 << 32} {
		out = append(out, impl.Eta{Pos: pos, Vec: vec})
	}
	lengths := [][]impl.Rat{nil, {}, vec[1:], vec[:n-1], slices.Concat(vec, vec[:1]), slices.Concat(vec[:1], vec), slices.Concat(vec, vec), copies(41, vec[step.Pos]), copies(100000, vec[step.Pos])}
	for _, v := range append(lengths, withElement(vec, step.Pos, fraction(plus(), 1))) {
		out = append(out, impl.Eta{Pos: step.Pos, Vec: v})
	}
	for _, i := range slices.Compact([]int{0, n / 2, step.Pos, n - 1}) {
		for _, bad := range invalidRats() {
			out = append(out, impl.Eta{Pos: step.Pos, Vec: withElement(vec, i, bad)})
		}
	}
	return out
}

func TestFactorOkLooksAtEveryStep(t *testing.T) {
	for _, n := range []int{1, 2, 3} {
		for _, steps := range []int{1, 3, 12} {
			f := impl.Factor{Inverse: unitRows(n)}
			for i := range steps {
				f = withSteps(f, impl.Eta{Pos: i % n, Vec: copies(n, fraction(minus(3), 2))})
			}
			if !impl.FactorOk(f) {
				t.Fatalf("FactorOk(%v) = false", f)
			}
			for _, i := range slices.Compact([]int{0, steps / 2, steps - 1}) {
				for _, broken := range brokenSteps(f.Etas[i]) {
					if bad := withStep(f, i, broken); impl.FactorOk(bad) {
						t.Fatalf("FactorOk(%v) = true", bad)
					}
				}
			}
		}
	}
	wide := impl.Factor{Inverse: unitRows(40), Etas: []impl.Eta{{Pos: 39, Vec: copies(40, fraction(plus(1), 1))}}}
	for _, broken := range brokenSteps(wide.Etas[0]) {
		if bad := withStep(wide, 0, broken); impl.FactorOk(bad) {
			t.Fatalf("FactorOk(%v) = true", bad)
		}
	}
}

func TestFactorInvalid(t *testing.T) {
	f := factor("1 0 2;0 1 0;1 1 1;", "0:1 2 3;2:0 0 1/2;1:0 -1 1;")
	bads := []impl.Factor{{}, {Etas: f.Etas}, {Inverse: make([][]impl.Rat, 3)}, {Inverse: make([][]impl.Rat, 3), Etas: f.Etas}, {Inverse: unitRows(41)}, {Inverse: unitRows(3)[:2]}, {Inverse: unitRows(3)[:2], Etas: f.Etas}, {Inverse: transposeOf(unitRows(3)[:2])}, {Inverse: unitRows(2), Etas: f.Etas}, {Inverse: unitRows(4), Etas: f.Etas}}
	bads = append(bads, impl.Factor{Inverse: f.Inverse, Etas: slices.Repeat(f.Etas[:1], 13)}, impl.Factor{Inverse: f.Inverse, Etas: slices.Repeat(f.Etas, 1000)}, impl.Factor{Etas: []impl.Eta{{}}}, impl.Factor{Inverse: [][]impl.Rat{nil}, Etas: []impl.Eta{{}}})
	for i := range f.Etas {
		for _, broken := range brokenSteps(f.Etas[i]) {
			bads = append(bads, withStep(f, i, broken))
		}
	}
	for _, inverse := range noMatrices(3, 3, fraction(minus(1), 2)) {
		bads = append(bads, impl.Factor{Inverse: inverse}, impl.Factor{Inverse: inverse, Etas: f.Etas})
	}
	for i := range f.Inverse {
		for j := range f.Inverse {
			for _, bad := range invalidRats() {
				bads = append(bads, impl.Factor{Inverse: withCell(f.Inverse, i, j, bad), Etas: f.Etas})
			}
		}
	}
	checkFactor(t, f, vector("1 2 3"))
	for _, bad := range bads {
		noFactor(t, bad)
	}
}

func TestFactorizeEdges(t *testing.T) {
	cases := []struct{ m, want string }{
		{"5;", "1/5;"}, {"-2/3;", "-3/2;"}, {"1 2;3 4;", "-2 1;3/2 -1/2;"}, {"0 1;1 0;", "0 1;1 0;"}, {"0 0 1;1 0 0;0 1 0;", "0 1 0;0 0 1;1 0 0;"}, {nines + ";", "1/" + nines + ";"}, {"1 " + nines + ";0 1;", "1 -" + nines + ";0 1;"},
		{"", ""}, {";", ""}, {";;", ""}, {"0;", ""}, {"1 2;2 4;", ""}, {"1 2 3;4 5 6;7 8 9;", ""}, {"1 2;", ""}, {"1;2;", ""}, {"1 0;0 1;0 0;", ""}, {"1 0 0;0 1 0;", ""}, {"1 0;1;", ""}, {"1;1 0;", ""}, {"1/2 " + nines + ";0 1;", ""},
	}
	for _, c := range cases {
		got, ok := impl.Factorize(matrix(c.m))
		wantFactor(t, "Factorize", got, ok, factor(c.want, ""), c.want != "", c.m)
	}
	for n := range 43 {
		m := withCell(unitRows(max(n, 1)), n/2, n/2, fraction(minus(2), 1))[:n]
		want := impl.Factor{}
		if n >= 1 && n <= 20 {
			want.Inverse = withCell(unitRows(n), n/2, n/2, fraction(minus(1), 2))
		}
		got, ok := impl.Factorize(m)
		wantFactor(t, "Factorize", got, ok, want, n >= 1 && n <= 20, n)
	}
	for _, bad := range noMatrices(2, 2, fraction(plus(1), 1)) {
		got, ok := impl.Factorize(bad)
		wantFactor(t, "Factorize", got, ok, impl.Factor{}, false, bad)
	}
	for i := range 2 {
		for _, bad := range invalidRats() {
			m := withCell(unitRows(2), i, 1, bad)
			got, ok := impl.Factorize(m)
			wantFactor(t, "Factorize", got, ok, impl.Factor{}, false, m)
		}
	}
}

func TestP2FactorizeHasTheInverse(t *testing.T) {
	random := rand.New(rand.NewSource(60))
	made := map[bool]int{}
	for range 400 {
		n := random.Intn(5) + 1
		m := smallMatOfRank(random, n, n, random.Intn(3)+max(n-1, 1))
		inverse, hasInverse := inverseOf(m)
		got, ok := impl.Factorize(m)
		wantFactor(t, "Factorize", got, ok, impl.Factor{Inverse: inverse}, hasInverse, m)
		made[ok]++
		if ok {
			checkSystem(t, got, m, smallVec(random, n))
		}
	}
	if made[true] < 100 || made[false] < 100 {
		t.Errorf("%v: too few", made)
	}
}

// checkSystem proves by products that a factor represents the matrix m.
func checkSystem(t *testing.T, f impl.Factor, m [][]impl.Rat, b []impl.Rat) {
	t.Helper()
	x, y := impl.FactorSolve(f, b), impl.FactorSolveTransposed(f, b)
	refreshed, ok := impl.FactorRefresh(f)
	checkLaws(t, map[string]bool{
		"f is valid":                         impl.FactorOk(f),
		"m x = b":                            len(x) == len(b) && sameVec(matVecOf(m, x), b),
		"y m = b":                            len(y) == len(b) && sameVec(vecMatOf(y, m), b),
		"the refreshed inverse is that of m": ok && len(refreshed.Etas) == 0 && sameMat(productOf(m, refreshed.Inverse), unitRows(len(m))),
		"with the same results":              sameVec(impl.FactorSolve(refreshed, b), x) && sameVec(impl.FactorSolveTransposed(refreshed, b), y),
	}, f, m, b)
	for i, unit := range unitRows(len(m)) {
		if !sameVec(impl.FactorSolve(f, columnOf(m, i)), unit) || !sameVec(impl.FactorSolveTransposed(f, m[i]), unit) {
			t.Fatalf("the factor %v of %v does not map its column or row %d to a unit vector", f, m, i)
		}
	}
}

func withCol(m [][]impl.Rat, pos int, col []impl.Rat) [][]impl.Rat {
	return transposeOf(withRow(transposeOf(m), pos, col))
}

// The factor represents the matrix with the replaced columns, and there is none exactly if this matrix is singular.
func TestP2ReplacedColumnsGiveTheModifiedSystem(t *testing.T) {
	random := rand.New(rand.NewSource(61))
	replaced, full := map[bool]int{}, 0
	for range 150 {
		n := random.Intn(4) + 1
		m := sparseMat(random, n, n)
		f, ok := impl.Factorize(m)
		for range 60 {
			if !ok || len(f.Etas) == 12 {
				break
			}
			pos, col := random.Intn(n), sparseMat(random, 1, n)[0]
			modified := withCol(m, pos, col)
			want, hasFactor := replacedOf(f, pos, col)
			got, isReplaced := impl.FactorReplace(f, pos, col)
			wantFactor(t, "FactorReplace", got, isReplaced, want, hasFactor, f, pos, col)
			if isReplaced != (leibniz(bigRows(modified)).Sign() != 0) {
				t.Fatalf("FactorReplace(%v, %d, %v) = %v, and the matrix becomes %v", f, pos, col, isReplaced, modified)
			}
			replaced[isReplaced]++
			if isReplaced {
				f, m = got, modified
				checkSystem(t, f, m, smallVec(random, n))
			}
		}
		if len(f.Etas) == 12 {
			full++
			got, isReplaced := impl.FactorReplace(f, 0, columnOf(m, 0))
			wantFactor(t, "FactorReplace", got, isReplaced, impl.Factor{}, false, f)
			refreshed, _ := impl.FactorRefresh(f)
			again, isAgain := impl.FactorReplace(refreshed, 0, columnOf(m, 0))
			if !isAgain || len(again.Etas) != 1 {
				t.Fatalf("FactorReplace(%v) = %v, %v", refreshed, again, isAgain)
			}
			checkSystem(t, again, m, smallVec(random, n))
		}
	}
	if replaced[true] < 300 || replaced[false] < 100 || full < 20 {
		t.Errorf("%v, %d with all steps: too few", replaced, full)
	}
}

// With the identity matrix as Inverse, a factor represents the product of the identity matrices that have the vectors as columns.
func TestP2StepsAreInverseColumns(t *testing.T) {
	random := rand.New(rand.NewSource(62))
	for range 300 {
		n := random.Intn(5) + 1
		m := unitRows(n)
		f := impl.Factor{Inverse: m}
		for range random.Intn(5) {
			step := smallStep(random, n)
			f = withSteps(f, step)
			m = productOf(m, withCol(unitRows(n), step.Pos, step.Vec))
		}
		checkSystem(t, f, m, smallVec(random, n))
	}
}

func TestP2FactorsOfManyMatrices(t *testing.T) {
	random := rand.New(rand.NewSource(63))
	for range 1000 {
		n := random.Intn(5) + 1
		f := smallFactor(random, n, random.Intn(7))
		b, c := smallVec(random, n), smallVec(random, n)
		if checkFactor(t, f, b) != [3]bool{true, true, true} {
			t.Fatalf("%v has fractions that are too large", f)
		}
		x, y := impl.FactorSolve(f, b), impl.FactorSolveTransposed(f, c)
		refreshed, _ := impl.FactorRefresh(f)
		checkLaws(t, map[string]bool{
			"solving forwards and backwards agree": sameRat(dotOf(c, x), dotOf(y, b)),
			"the sum of solutions solves the sum":  sameVec(impl.FactorSolve(f, impl.VecAdd(b, c)), impl.VecAdd(x, impl.FactorSolve(f, c))),
			"the refreshed factor has the same":    sameVec(matVecOf(refreshed.Inverse, b), x) && sameVec(vecMatOf(c, refreshed.Inverse), y),
			"refreshing twice changes nothing":     sameFactor(refreshedTwice(refreshed), refreshed),
		}, f, b, c)
	}
}

func refreshedTwice(f impl.Factor) impl.Factor {
	first, _ := impl.FactorRefresh(f)
	second, _ := impl.FactorRefresh(first)
	return second
}

// Of the factors at the limits, many must have each result, and many must have none.
func TestFactorLimitsOfManyFactors(t *testing.T) {
	random := rand.New(rand.NewSource(64))
	counts := map[string]int{}
	for range 3000 {
		n := random.Intn(4) + 1
		for i, isValid := range checkFactor(t, edgeFactor(random, n, random.Intn(4)), edgeMat(random, 1, n)[0]) {
			counts[[]string{"FactorSolve", "FactorSolveTransposed", "FactorRefresh"}[i]+strconv.FormatBool(isValid)]++
		}
	}
	for name, count := range counts {
		if count < 300 {
			t.Errorf("%s: %d are too few", name, count)
		}
	}
	if len(counts) != 6 {
		t.Errorf("%v", counts)
	}
}

func TestFactorsOfManyRows(t *testing.T) {
	random := rand.New(rand.NewSource(65))
	for _, n := range []int{6, 20, 21, 39, 40} {
		f := impl.Factor{Inverse: sparseMat(random, n, n)}
		for i := range 12 {
			vec := withElement(sparseMat(random, 1, n)[0], i*(n-1)/11, fraction(minus(1), 1))
			f = withSteps(f, impl.Eta{Pos: i * (n - 1) / 11, Vec: vec})
		}
		for _, steps := range []int{0, 1, 11, 12} {
			part := impl.Factor{Inverse: f.Inverse, Etas: f.Etas[:steps]}
			if checkFactor(t, part, sparseMat(random, 1, n)[0]) != [3]bool{true, true, true} {
				t.Fatalf("the fractions of %d rows and %d steps are too large", n, steps)
			}
		}
		wantVec(t, "FactorSolve", impl.FactorSolve(f, copies(n, fraction(plus(), 1))), copies(n, fraction(plus(), 1)), n)
	}
}

func TestFactorSolveEdges(t *testing.T) {
	cases := []struct{ inverse, steps, b, solution, transposed string }{
		// Without steps.
		{"3;", "", "5", "15", "15"}, {"-2 1;3/2 -1/2;", "", "5 11", "1 2", "13/2 -1/2"}, {"0 0;0 0;", "", "5 11", "0 0", "0 0"}, {"1 2;2 4;", "", "1 1", "3 6", "3 6"}, {"0 1;0 0;", "", "5 7", "7 0", "0 5"},
		// With one step, at the first, a middle and the last index.
		{"1;", "0:2;", "5", "5/2", "5/2"}, {"3;", "0:-2;", "5", "-15/2", "-15/2"}, {"1;", "0:2;", "0", "0", "0"},
		{"1 0;0 1;", "0:2 3;", "4 7", "2 1", "-17/2 7"}, {"1 0;0 1;", "1:2 3;", "4 6", "0 2", "4 -2/3"}, {"1 0;0 1;", "0:1 0;", "4 7", "4 7", "4 7"}, {"1 0;0 1;", "0:2 0;", "4 7", "2 7", "2 7"}, {"1 0;0 1;", "1:0 -1;", "4 7", "4 -7", "4 -7"},
		{"1 0 0;0 1 0;0 0 1;", "0:2 3 5;", "4 7 11", "2 1 1", "-36 7 11"}, {"1 0 0;0 1 0;0 0 1;", "1:2 3 5;", "4 6 11", "0 2 1", "4 -19 11"}, {"1 0 0;0 1 0;0 0 1;", "2:2 3 5;", "4 7 10", "0 1 2", "4 7 -19/5"}, {"1 0 0;0 1 0;0 0 1;", "1:0 3 0;", "4 6 11", "4 2 11", "4 2 11"}, {"1 0 0;0 1 0;0 0 1;", "1:0 3 5;", "4 6 11", "4 2 1", "4 -49/3 11"}, {"1 0 0;0 1 0;0 0 1;", "0:1 1/2 -1/3;", "6 0 0", "6 -3 2", "6 0 0"},
		// The inverse comes first, and in the transposed system last.
		{"0 1;1 0;", "0:2 3;", "7 4", "2 1", "4 -5/2"}, {"1 1;0 1;", "0:2 1;", "1 3", "2 1", "-1 2"}, {"0 0;0 0;", "0:2 3;", "4 7", "0 0", "0 0"},
		// Several steps, at the same Pos and at different ones: their order is opposite.
		{"1 0;0 1;", "0:2 3;0:4 5;", "16 24", "2 -10", "-49 24"}, {"1 0;0 1;", "0:4 5;0:2 3;", "16 24", "2 -2", "-37 24"}, {"1 0;0 1;", "0:1 1;1:1 1;", "3 5", "1 2", "1 2"}, {"1 0;0 1;", "1:1 1;0:1 1;", "3 5", "-2 7", "-2 7"}, {"1 0;0 1;", "0:2 1;1:1 3;", "6 9", "1 2", "5/2 1"}, {"1 0;0 1;", "1:1 3;0:2 1;", "6 9", "3/2 3/2", "-3/2 7/2"},
		{"2;", "0:3;0:5;0:-1;", "30", "-4", "-4"}, {"1 0 0;0 1 0;0 0 1;", "0:1 1 1;1:1 1 1;2:1 1 1;", "1 2 3", "-1 0 1", "0 1 0"}, {"1 0 0;0 1 0;0 0 1;", "2:1 1 1;1:1 1 1;0:1 1 1;", "1 2 3", "-1 0 5", "-4 3 4"}, {"1 2;0 1;", "0:1 1;1:1 1;0:2 0;", "1 1", "5/2 -2", "0 1/2"},
		// Lengths that do not match.
		{"3;", "", "", "", ""}, {"3;", "", "1 2", "", ""}, {"3;", "0:1;", "", "", ""}, {"3;", "0:1;", "1 2", "", ""}, {"1 0;0 1;", "", "1", "", ""}, {"1 0;0 1;", "", "1 2 3", "", ""}, {"1 0;0 1;", "1:1 1;", "1", "", ""}, {"1 0;0 1;", "1:1 1;", "1 2 3", "", ""}, {"1 0;0 1;", "1:1 1;", "", "", ""},
	}
	for _, c := range cases {
		f, b := factor(c.inverse, c.steps), vector(c.b)
		wantVec(t, "FactorSolve", impl.FactorSolve(f, b), vector(c.solution), c)
		wantVec(t, "FactorSolveTransposed", impl.FactorSolveTransposed(f, b), vector(c.transposed), c)
		if len(b) == len(f.Inverse) {
			checkFactor(t, f, b)
		}
	}
}

func TestFactorSolveOfOtherVecs(t *testing.T) {
	for _, n := range []int{1, 2, 3, 40} {
		f := impl.Factor{Inverse: unitRows(n)}
		stepped := withSteps(f, impl.Eta{Pos: n - 1, Vec: withElement(copies(n, fraction(plus(), 1)), n-1, fraction(plus(1), 1))})
		for _, g := range []impl.Factor{f, stepped} {
			for length := range 43 {
				b := copies(length, fraction(plus(2), 3))
				var want []impl.Rat
				if length == n {
					want = b
				}
				wantVec(t, "FactorSolve", impl.FactorSolve(g, b), want, g, b)
				wantVec(t, "FactorSolveTransposed", impl.FactorSolveTransposed(g, b), want, g, b)
				replaced, ok := impl.FactorReplace(g, 0, b)
				if ok != (length == n) || impl.FactorOk(replaced) != ok {
					t.Fatalf("FactorReplace(%v, 0, %v) = %v, %v", g, b, replaced, ok)
				}
			}
			wantVec(t, "FactorSolve", impl.FactorSolve(g, copies(100000, fraction(plus(), 1))), nil, n)
			wantVec(t, "FactorSolveTransposed", impl.FactorSolveTransposed(g, copies(100000, fraction(plus(), 1))), nil, n)
			for _, i := range slices.Compact([]int{0, n / 2, n - 1}) {
				for _, bad := range invalidRats() {
					b := withElement(copies(n, fraction(plus(1), 1)), i, bad)
					wantVec(t, "FactorSolve", impl.FactorSolve(g, b), nil, g, b)
					wantVec(t, "FactorSolveTransposed", impl.FactorSolveTransposed(g, b), nil, g, b)
					replaced, ok := impl.FactorReplace(g, 0, b)
					wantFactor(t, "FactorReplace", replaced, ok, impl.Factor{}, false, g, b)
				}
			}
		}
	}
}

// An element that is not valid is found also where a 0 stands in the inverse, so that no product depends on it.
func TestFactorSolveLooksAtEveryElement(t *testing.T) {
	for i := range 3 {
		for _, bad := range invalidRats() {
			for _, steps := range []string{"", "0:1 0 0;", "1:0 1 0;", "2:0 0 1;"} {
				f := factor("0 0 0;0 0 0;0 0 0;", steps)
				b := withElement(vector("0 0 0"), i, bad)
				wantVec(t, "FactorSolve", impl.FactorSolve(f, b), nil, f, b)
				wantVec(t, "FactorSolveTransposed", impl.FactorSolveTransposed(f, b), nil, f, b)
			}
		}
	}
}

// Where there is a result, twice or a tenfold of what is greatest, or a difference of 1, gives a fraction with 25 limbs on the way.
func TestFactorSolveLimits(t *testing.T) {
	eight, identity := strings.Repeat("9", 215)+"8", "1 0;0 1;"
	cases := []struct{ inverse, steps, b, want string }{
		// The product with the inverse.
		{"2;", "", halfNines, eight}, {"2;", "", nines, ""}, {"2;", "0:2;", nines, ""}, {"1/2;", "0:1/2;", nines, nines}, {"1 1;0 1;", "", nines + " -1", eight + " -1"}, {"1 1;0 1;", "", nines + " 1", ""}, {"2 -2;0 1;", "", nines + " " + nines, ""}, {"2 -2;0 1;", "", halfNines + " " + halfNines, "0 " + halfNines}, {"0 0;2 0;", "0:1 0;", nines + " 0", ""},
		// The quotient of a step.
		{"1;", "0:1/2;", halfNines, eight}, {"1;", "0:1/2;", nines, ""}, {"1;", "0:" + nines + ";", "1", "1/" + nines}, {"1;", "0:" + nines + ";", "1/10", ""}, {"1;", "0:1/" + nines + ";", "1", nines}, {"1;", "0:1/" + nines + ";", "10", ""}, {"1;", "0:" + nines + ";", nines, "1"}, {identity, "0:" + nines + " 1;", nines + " 5", "1 4"}, {identity, "0:1/2 0;", nines + " 0", ""}, {identity, "1:0 1/2;", "0 " + nines, ""}, {identity, "1:0 1/2;", nines + " 0", nines + " 0"},
		// A product of a step, even where the difference is not too large.
		{identity, "0:1 2;", halfNines + " " + nines, halfNines + " 1"}, {identity, "0:1 2;", nines + " " + nines, ""}, {identity, "1:2 1;", nines + " " + halfNines, "1 " + halfNines}, {identity, "1:2 1;", nines + " " + nines, ""}, {identity, "0:1 1/10;", "1/" + nines + " 0", ""}, {identity, "0:1 0;", nines + " 0", nines + " 0"}, {"1 0 0;0 1 0;0 0 1;", "1:0 1 2;", "0 " + nines + " " + nines, ""},
		// A difference.
		{identity, "0:1 1;", nines + " 1", nines + " -" + eight}, {identity, "0:1 1;", nines + " -1", ""}, {identity, "1:1 1;", "-1 " + nines, ""}, {identity, "1:-1 1;", "-1 " + nines, eight + " " + nines}, {identity, "0:1 1;", "1/" + nines + " 1/2", ""}, {"1 0 0;0 1 0;0 0 1;", "1:0 1 1;", "0 " + nines + " -1", ""},
		// The order of the steps.
		{"1;", "0:2;0:1/2;", nines, nines}, {"1;", "0:1/2;0:2;", nines, ""}, {identity, "0:1 2;0:1/2 0;", nines + " 0", ""}, {identity, "0:2 2;0:1/2 0;", nines + " 0", nines + " -" + nines}, {identity, "0:1 1;1:0 1;", nines + " -1", ""}, {identity, "1:0 -1;0:1 1;", nines + " -1", nines + " -" + eight},
	}
	for _, c := range cases {
		f, b := factor(c.inverse, c.steps), vector(c.b)
		wantVec(t, "FactorSolve", impl.FactorSolve(f, b), vector(c.want), c)
		checkFactor(t, f, b)
		if c.want == "" {
			got, ok := impl.FactorReplace(f, 0, b)
			wantFactor(t, "FactorReplace", got, ok, impl.Factor{}, false, c)
		}
	}
}

func TestFactorSolveTransposedLimits(t *testing.T) {
	eight, identity, four := strings.Repeat("9", 215)+"8", "1 0;0 1;", "1 0 0 0;0 1 0 0;0 0 1 0;0 0 0 1;"
	cases := []struct{ inverse, steps, y, want string }{
		// The products of a step, even where their sum is not too large.
		{identity, "0:1 2;", nines + " " + halfNines, "1 " + halfNines}, {identity, "0:1 2;", nines + " " + nines, ""}, {identity, "1:2 1;", halfNines + " " + nines, halfNines + " 1"}, {identity, "1:2 1;", nines + " " + nines, ""}, {four, "0:1 2 -2 0;", "0 " + nines + " " + nines + " 0", ""}, {four, "0:1 2 -2 0;", "0 " + halfNines + " " + halfNines + " 0", "0 " + halfNines + " " + halfNines + " 0"}, {identity, "0:1 0;", nines + " " + nines, nines + " " + nines},
		// The partial sums, from the first index to the last one, without that of Pos.
		{four, "0:1 1 1 1;", nines + " " + nines + " 1 -1", ""}, {four, "0:1 1 1 1;", nines + " " + nines + " -1 1", "0 " + nines + " -1 1"}, {four, "1:1 1 1 1;", nines + " " + nines + " 1 -1", ""}, {four, "1:1 1 1 1;", nines + " " + nines + " -1 1", nines + " 0 -1 1"}, {four, "3:1 1 1 1;", nines + " -1 1 " + nines, nines + " -1 1 0"}, {four, "3:1 1 1 1;", nines + " 1 -1 " + nines, ""}, {four, "3:1 1 1 1;", "-1 " + nines + " 1 5", "-1 " + nines + " 1 -" + strings.Repeat("9", 215) + "4"},
		// The sum is subtracted as a whole.
		{four, "0:1 1 1 0;", nines + " -1 1 0", nines + " -1 1 0"}, {four, "0:1 1 1 0;", nines + " " + nines + " " + nines + " 0", ""}, {four, "0:1 1 1 0;", nines + " 1 -1 0", nines + " 1 -1 0"},
		// The difference and the quotient.
		{identity, "0:1 1;", "1 " + nines, "-" + eight + " " + nines}, {identity, "0:1 1;", "-1 " + nines, ""}, {identity, "0:2 1;", "-1 " + nines, ""}, {identity, "0:2 1;", "-1 " + eight, "-" + nines + "/2 " + eight}, {"1;", "0:1/2;", halfNines, eight}, {"1;", "0:1/2;", nines, ""}, {"1;", "0:1/" + nines + ";", "1", nines}, {"1;", "0:1/" + nines + ";", "10", ""}, {"1;", "0:" + nines + ";", "1/10", ""}, {"1;", "0:" + nines + ";", nines, "1"}, {identity, "1:0 1/2;", "0 " + nines, ""},
		// The product with the inverse.
		{"2;", "", halfNines, eight}, {"2;", "", nines, ""}, {"2;", "0:2;", nines, nines}, {"1 0;1 1;", "", nines + " -1", eight + " -1"}, {"1 0;1 1;", "", nines + " 1", ""}, {"1 0;1 1;", "1:0 -1;", nines + " 1", eight + " -1"}, {"2 0;-2 1;", "", nines + " " + nines, ""},
		// The order of the steps.
		{"1;", "0:2;0:1/2;", nines, ""}, {"1;", "0:1/2;0:2;", nines, nines}, {identity, "1:0 1/2;0:1 1;", nines + " " + nines, ""}, {identity, "1:0 1/2;1:0 2;", "0 " + nines, "0 " + nines},
	}
	for _, c := range cases {
		f, y := factor(c.inverse, c.steps), vector(c.y)
		wantVec(t, "FactorSolveTransposed", impl.FactorSolveTransposed(f, y), vector(c.want), c)
		checkFactor(t, f, y)
	}
}

func TestFactorReplaceEdges(t *testing.T) {
	twelve := strings.Repeat("0:2 1;", 12)
	cases := []struct {
		inverse, steps string
		pos            int
		col, vec       string
	}{
		{"1;", "", 0, "5", "5"}, {"1/2;", "", 0, "-3", "-3/2"}, {"1 0;0 1;", "", 0, "2 3", "2 3"}, {"1 0;0 1;", "", 1, "2 3", "2 3"}, {"1 0;0 1;", "", 0, "2 0", "2 0"}, {"-2 1;3/2 -1/2;", "", 0, "1 0", "-2 3/2"}, {"1 0;0 1;", "0:2 3;", 0, "4 7", "2 1"}, {"1 0;0 1;", "0:2 3;", 1, "4 7", "2 1"}, {"1 0;0 1;", "0:2 3;1:0 1;", 0, "4 7", "2 1"}, {"0 0;0 1;", "", 1, "5 7", "0 7"},
		// No such column.
		{"1;", "", -1, "5", ""}, {"1;", "", 1, "5", ""}, {"1 0;0 1;", "", -1, "2 3", ""}, {"1 0;0 1;", "", 2, "2 3", ""}, {"1 0;0 1;", "", -2, "2 3", ""}, {"1 0;0 1;", "", math.MaxInt, "2 3", ""}, {"1 0;0 1;", "", math.MinInt, "2 3", ""}, {"1 0;0 1;", "0:2 3;", 2, "2 3", ""}, {"1 0;0 1;", "0:2 3;", -1, "2 3", ""},
		// A column that makes the matrix singular, which another place may allow.
		{"1;", "", 0, "0", ""}, {"1 0;0 1;", "", 0, "0 3", ""}, {"1 0;0 1;", "", 1, "0 3", "0 3"}, {"1 0;0 1;", "", 1, "2 0", ""}, {"1 0;0 1;", "", 0, "0 0", ""}, {"-2 1;3/2 -1/2;", "", 0, "2 4", ""}, {"-2 1;3/2 -1/2;", "", 1, "2 4", "0 1"}, {"1 0;0 1;", "0:2 3;", 1, "2 3", ""}, {"1 0;0 1;", "0:2 3;", 0, "0 1", ""}, {"0 0;0 1;", "", 0, "5 7", ""},
		// Lengths that do not match.
		{"1;", "", 0, "", ""}, {"1;", "", 0, "1 2", ""}, {"1 0;0 1;", "", 0, "1", ""}, {"1 0;0 1;", "", 0, "1 2 3", ""}, {"1 0;0 1;", "1:2 3;", 0, "1", ""}, {"1 0;0 1;", "1:2 3;", 0, "", ""},
		// The number of steps.
		{"1 0;0 1;", strings.Repeat("0:1 0;", 10), 1, "2 3", "2 3"}, {"1 0;0 1;", strings.Repeat("0:1 0;", 11), 1, "2 3", "2 3"}, {"1 0;0 1;", strings.Repeat("0:1 0;", 12), 1, "2 3", ""}, {"1 0;0 1;", twelve, 0, "1 1", ""}, {"1 0;0 1;", twelve[6:], 0, "2048 0", "1 -2047"},
	}
	for _, c := range cases {
		f, col, want := factor(c.inverse, c.steps), vector(c.col), impl.Factor{}
		if c.vec != "" {
			want = withSteps(f, impl.Eta{Pos: c.pos, Vec: vector(c.vec)})
		}
		got, ok := impl.FactorReplace(f, c.pos, col)
		wantFactor(t, "FactorReplace", got, ok, want, c.vec != "", c)
	}
}

func TestFactorRefreshEdges(t *testing.T) {
	eight := strings.Repeat("9", 215) + "8"
	cases := []struct{ inverse, steps, want string }{
		{"3;", "", "3;"}, {"3;", "0:2;", "3/2;"}, {"1 2;3 4;", "", "1 2;3 4;"}, {"1 2;2 4;", "", "1 2;2 4;"}, {"0 0;0 0;", "1:1 1;", "0 0;0 0;"}, {"1 0;0 1;", "0:2 3;", "1/2 0;-3/2 1;"}, {"1 0;0 1;", "1:2 3;", "1 -2/3;0 1/3;"}, {"1 0;0 1;", "0:1 1;1:1 1;", "2 -1;-1 1;"}, {"1 0;0 1;", "1:1 1;0:1 1;", "1 -1;-1 2;"}, {"0 1;1 0;", "0:2 3;", "0 1/2;1 -3/2;"}, {"1 1;0 1;", "0:2 1;", "1/2 1/2;-1/2 1/2;"}, {"2;", "0:3;0:5;0:-1;", "-2/15;"}, {"1;", strings.Repeat("0:2;", 12), "1/4096;"}, {nines + ";", "", nines + ";"},
		// A fraction that is too large, in each column, and in none of the solutions but these.
		{nines + ";", "0:1/2;", ""}, {halfNines + ";", "0:1/2;", eight + ";"}, {nines + " 0;0 1;", "0:1 2;", ""}, {nines + " 0;0 1;", "0:2 2;", nines + "/2 0;-" + nines + " 1;"}, {"1 0;0 " + nines + ";", "1:0 1/2;", ""}, {"1 0;0 " + nines + ";", "1:2 1;", ""}, {"1 0;0 " + nines + ";", "1:1 1;", "1 -" + nines + ";0 " + nines + ";"}, {nines + " 0;-1 1;", "0:1 1;", ""}, {nines + " 0;1 1;", "0:1 1;", nines + " 0;-" + eight + " 1;"}, {"1 " + nines + ";0 -1;", "0:1 1;", ""}, {"1 0 0;0 " + nines + " 0;0 0 1;", "1:0 1/2 0;", ""},
		{nines + ";", "0:1/2;0:2;", ""}, {nines + ";", "0:2;0:1/2;", nines + ";"},
		{"", "", ""}, {";", "", ""}, {"1 2;", "", ""}, {"1;2;", "", ""}, {"1;", "0:0;", ""}, {"1;", "1:1;", ""}, {"1;", "-1:1;", ""}, {"1;", strings.Repeat("0:2;", 13), ""},
	}
	for _, c := range cases {
		f := factor(c.inverse, c.steps)
		got, ok := impl.FactorRefresh(f)
		wantFactor(t, "FactorRefresh", got, ok, factor(c.want, ""), c.want != "", c)
		if impl.FactorOk(got) != ok {
			t.Fatalf("FactorRefresh(%v) = %v, %v", f, got, ok)
		}
	}
}

// differentFactors returns factors that differ from one with steps in one thing each.
func differentFactors(f impl.Factor) []impl.Factor {
	n := len(f.Inverse)
	out := []impl.Factor{{}, {Inverse: f.Inverse}, {Etas: f.Etas}, {Inverse: f.Inverse[1:], Etas: f.Etas}, {Inverse: f.Inverse[:n-1], Etas: f.Etas}, {Inverse: slices.Concat(f.Inverse, f.Inverse[:1]), Etas: f.Etas}, {Inverse: f.Inverse, Etas: f.Etas[1:]}, {Inverse: f.Inverse, Etas: f.Etas[:len(f.Etas)-1]}, withSteps(f, f.Etas[0])}
	for _, r := range append(invalidRats()[:20], fraction(plus(55), 1), fraction(minus(1), 55)) {
		for i, row := range f.Inverse {
			for j := range row {
				out = append(out, impl.Factor{Inverse: withCell(f.Inverse, i, j, r), Etas: f.Etas})
			}
		}
		for i, step := range f.Etas {
			for j := range step.Vec {
				out = append(out, withStep(f, i, impl.Eta{Pos: step.Pos, Vec: withElement(step.Vec, j, r)}))
			}
		}
	}
	for i, row := range f.Inverse {
		out = append(out, impl.Factor{Inverse: withRow(f.Inverse, i, row[1:]), Etas: f.Etas}, impl.Factor{Inverse: withRow(f.Inverse, i, nil), Etas: f.Etas}, impl.Factor{Inverse: withRow(f.Inverse, i, slices.Concat(row, row)), Etas: f.Etas})
	}
	for i, step := range f.Etas {
		for _, pos := range []int{-1, -step.Pos - 1, step.Pos + 1, step.Pos + n, math.MinInt, math.MaxInt} {
			out = append(out, withStep(f, i, impl.Eta{Pos: pos, Vec: step.Vec}))
		}
		for _, vec := range [][]impl.Rat{nil, step.Vec[1:], step.Vec[:n-1], slices.Concat(step.Vec, step.Vec[:1]), slices.Concat(step.Vec, vector("0"))} {
			out = append(out, withStep(f, i, impl.Eta{Pos: step.Pos, Vec: vec}))
		}
	}
	return out
}

func TestFactorEqual(t *testing.T) {
	for _, f := range []impl.Factor{factor("1;", "0:2;"), factor("1 0;2/3 1;", "0:1 2;1:-3 4/7;0:1 0;"), factor("0 0 0;0 0 0;0 0 0;", "2:0 0 1;"), factor("1 2;3 4;", strings.Repeat("1:0 1/2;", 12))} {
		different := differentFactors(f)
		for i, g := range different {
			if impl.FactorEqual(f, g) || impl.FactorEqual(g, f) {
				t.Fatalf("FactorEqual(%v, %v) = true, or the other way round", f, g)
			}
			if !impl.FactorEqual(g, withSteps(g)) {
				t.Fatalf("FactorEqual(%v) and an equal one = false", g)
			}
			if h := different[(i+1)%len(different)]; impl.FactorEqual(g, h) != sameFactor(g, h) {
				t.Fatalf("FactorEqual(%v, %v) = %v", g, h, !sameFactor(g, h))
			}
		}
		if !impl.FactorEqual(f, f) || !impl.FactorEqual(f, impl.Factor{Inverse: slices.Clone(f.Inverse), Etas: slices.Clone(f.Etas)}) {
			t.Fatalf("FactorEqual of %v and an equal one = false", f)
		}
	}
	pairs := [][2]impl.Factor{
		{{}, {}}, {{}, {Inverse: [][]impl.Rat{}, Etas: []impl.Eta{}}}, {{Inverse: [][]impl.Rat{nil}}, {Inverse: [][]impl.Rat{{}}}}, {{Etas: []impl.Eta{{}}}, {Etas: []impl.Eta{{Vec: []impl.Rat{}}}}}, {factor("1;", ""), {Inverse: matrix("1;"), Etas: []impl.Eta{}}}, {factor("1 2;", "7:0;-1:0 0;"), factor("1 2;", "7:0;-1:0 0;")},
		{{Inverse: [][]impl.Rat{{{}}}}, {Inverse: [][]impl.Rat{{{Den: []int{}}}}}}, {{Inverse: constMat(41, 41, smallest())}, {Inverse: constMat(41, 41, smallest())}}, {{Etas: slices.Repeat(etas("0:1;"), 13)}, {Etas: slices.Repeat(etas("0:1;"), 13)}},
	}
	for _, pair := range pairs {
		if !impl.FactorEqual(pair[0], pair[1]) || !impl.FactorEqual(pair[1], pair[0]) {
			t.Fatalf("FactorEqual(%v, %v) = false", pair[0], pair[1])
		}
	}
	if impl.FactorEqual(factor("1;", "0:1;0:2;"), factor("1;", "0:2;0:1;")) || impl.FactorEqual(impl.Factor{}, impl.Factor{Etas: []impl.Eta{{}}}) || impl.FactorEqual(impl.Factor{}, impl.Factor{Inverse: [][]impl.Rat{nil}}) {
		t.Error("FactorEqual of different factors = true")
	}
}

// factorRows returns the rows of Inverse and the vectors of the steps, none of which may share memory.
func factorRows(f impl.Factor) [][]impl.Rat {
	out := slices.Clone(f.Inverse)
	for _, step := range f.Etas {
		out = append(out, step.Vec)
	}
	return out
}

// factorCalls calls every function of the chapter, and returns the factors it gets.
func factorCalls(f impl.Factor, pos int, b []impl.Rat) map[string]impl.Factor {
	made, _ := impl.Factorize(f.Inverse)
	replaced, _ := impl.FactorReplace(f, pos, b)
	// Were the step appended behind the steps of f, this would overwrite it.
	again, _ := impl.FactorReplace(f, pos, impl.VecScale(b, fraction(plus(2), 1)))
	refreshed, _ := impl.FactorRefresh(f)
	impl.FactorOk(f)
	impl.FactorEqual(f, replaced)
	return map[string]impl.Factor{
		"Factorize": made, "FactorReplace": replaced, "FactorReplace by twice the column": again, "FactorRefresh": refreshed,
		"FactorSolve": {Inverse: [][]impl.Rat{impl.FactorSolve(f, b)}}, "FactorSolveTransposed": {Inverse: [][]impl.Rat{impl.FactorSolveTransposed(f, b)}},
	}
}

// guardedFactor returns a factor whose elements lie in guarded arrays, with other fractions, another row and another step behind its slices.
func guardedFactor(f impl.Factor) (impl.Factor, []guarded) {
	inverse, guards := guardedMat(f.Inverse)
	steps := slices.Concat(f.Etas, []impl.Eta{{Pos: 77, Vec: vector("3/4")}})
	for i, step := range steps {
		vec, more := guardedVec(step.Vec)
		steps[i].Vec = vec
		guards = append(guards, more...)
	}
	return impl.Factor{Inverse: inverse, Etas: steps[:len(f.Etas)]}, guards
}

func isGuardedFactor(f impl.Factor, before impl.Factor) bool {
	all := f.Etas[:len(f.Etas)+1]
	if !isGuarded(f.Inverse, before.Inverse) || len(f.Etas) != len(before.Etas) || all[len(f.Etas)].Pos != 77 {
		return false
	}
	for i, step := range slices.Concat(before.Etas, []impl.Eta{{Pos: 77, Vec: vector("3/4")}}) {
		if all[i].Pos != step.Pos || len(all[i].Vec) != len(step.Vec) || !sameVec(all[i].Vec[:len(step.Vec)+1], append(slices.Clone(step.Vec), fraction(plus(5), 6))) {
			return false
		}
	}
	return true
}

func TestFactorArgumentsStayAndResultsAreNew(t *testing.T) {
	factors := []impl.Factor{
		{}, factor(";", ""), factor("1;", ""), factor("-3/2;", "0:1;"), factor("0;", "0:2;"), factor("1 0;0 1;", ""), factor("1 0;0 1;", "0:1 0;"), factor("0 1;1 0;", "1:0 1;0:1 0;"), factor("1 2;3 4;", "0:1 2;1:-1/3 1000000000;0:5 0;"), factor("0 0;0 0;", "1:1 1;"), factor("1 0;0 1;", strings.Repeat("0:1 0;", 11)), factor("1 0;0 1;", strings.Repeat("0:1 1;", 12)),
		factor("1 0 0;0 1 0;0 0 1;", "1:0 1 0;2:1/7 0 -1;"), {Inverse: [][]impl.Rat{{greatest(), smallest()}, {fraction(plus(), 1), greatest()}}, Etas: etas("0:2 1;")}, {Inverse: matrix("1 0;0 1;"), Etas: []impl.Eta{{Pos: 0, Vec: []impl.Rat{greatest(), smallest()}}}},
		{Inverse: [][]impl.Rat{{fraction(plus(1), 1), {}}, {fraction(plus(2), 4), fraction(plus(1), 1)}}}, factor("1 2;3;", "0:1 2;"), factor("1 0;0 1;", "2:1 1;"), factor("1 0;0 1;", "0:0 1;"), factor("1 0;0 1;", "0:1;"), factor("1 0;0 1;", strings.Repeat("0:1 0;", 13)),
	}
	for _, f := range factors {
		for _, pos := range []int{0, 1, 2} {
			for _, b := range [][]impl.Rat{nil, vector("2/3"), vector("0 0"), vector("1 1000000000"), vector("1 0 -1000000001/2"), vector("3 4 5"), {{}, fraction(plus(7), 1)}} {
				checkFactorMemory(t, f, pos, b)
			}
		}
	}
}

func checkFactorMemory(t *testing.T, f impl.Factor, pos int, b []impl.Rat) {
	t.Helper()
	first, guards := guardedFactor(f)
	vec, more := guardedVec(b)
	results, wanted := factorCalls(first, pos, vec), factorCalls(f, pos, b)
	rows, wantedRows := map[string][][]impl.Rat{}, map[string][][]impl.Rat{}
	for name := range results {
		rows[name], wantedRows[name] = factorRows(results[name]), factorRows(wanted[name])
	}
	checkPartsAreNew(t, matParts(rows), matParts(wantedRows), slices.Concat(guards, more))
	for name, result := range results {
		if !sameFactor(result, wanted[name]) {
			t.Fatalf("%s = %v, want %v", name, result, wanted[name])
		}
		checkRowsAreApart(t, name, rows[name], wantedRows[name])
		clear(result.Inverse[:cap(result.Inverse)])
		clear(result.Etas[:cap(result.Etas)])
		if !isGuardedFactor(first, f) || !sameVec(vec[:len(b)+1], append(slices.Clone(b), fraction(plus(5), 6))) {
			t.Fatalf("%v or %v was changed, or %s shares memory with it", f, b, name)
		}
	}
}
