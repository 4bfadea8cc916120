package tests

import (
	"maps"
	"math"
	"math/big"
	"math/rand"
	"slices"
	"strconv"
	"strings"
	"testing"

	"loop.example/g00802/impl"
)

func signs() map[int]string { return map[int]string{1: "<=", 2: ">=", 3: "="} }

// row returns the row of a text like "0:1 2:-1/2 <= 7", whose terms are those of termList.
func row(s string) impl.Row {
	fields := strings.Fields(s)
	n := len(fields)
	for sense, sign := range signs() {
		if n >= 2 && fields[n-2] == sign {
			return impl.Row{Terms: termList(strings.Join(fields[:n-2], " ")), Sense: sense, Rhs: vector(fields[n-1])[0]}
		}
	}
	panic("no row: " + s)
}

func sameRow(w impl.Row, v impl.Row) bool {
	return sameTerms(w.Terms, v.Terms) && w.Sense == v.Sense && sameRat(w.Rhs, v.Rhs)
}

func isZeroRow(w impl.Row) bool { return len(w.Terms) == 0 && w.Sense == 0 && isZeroRat(w.Rhs) }

func wantRow(t *testing.T, label string, got impl.Row, want impl.Row, args ...any) {
	t.Helper()
	if !sameRow(got, want) {
		t.Fatalf("%s of %v = %v, want %v", label, args, got, want)
	}
}

func wantBool(t *testing.T, label string, got bool, want bool, args ...any) {
	t.Helper()
	if got != want {
		t.Fatalf("%s of %v = %v", label, args, got)
	}
}

func withSense(w impl.Row, sense int) impl.Row {
	return impl.Row{Terms: w.Terms, Sense: sense, Rhs: w.Rhs}
}

func withRhs(w impl.Row, rhs impl.Rat) impl.Row {
	return impl.Row{Terms: w.Terms, Sense: w.Sense, Rhs: rhs}
}

func withTerms(w impl.Row, l []impl.Term) impl.Row {
	return impl.Row{Terms: l, Sense: w.Sense, Rhs: w.Rhs}
}

// everySense returns a row with each of the three senses.
func everySense(w impl.Row) []impl.Row {
	return []impl.Row{withSense(w, 1), withSense(w, 2), withSense(w, 3)}
}

func badSenses() []int {
	return []int{0, 4, 5, -1, -2, -3, 1 << 8, 1<<8 + 1, 1<<32 + 2, 1<<32 + 3, -1<<32 + 1, math.MinInt, math.MinInt + 1, math.MaxInt}
}

// smallRow returns a row of n columns, and sometimes one without terms.
func smallRow(random *rand.Rand, n int) impl.Row {
	return impl.Row{Terms: smallTerms(random, n), Sense: random.Intn(3) + 1, Rhs: smallVec(random, 1)[0]}
}

// edgeRow returns a row whose products, sums and differences are nearly too large, or just are.
func edgeRow(random *rand.Rand, n int) impl.Row {
	v := edgeMat(random, 1, n+1)[0]
	return impl.Row{Terms: termsOf(v[:n]), Sense: random.Intn(3) + 1, Rhs: v[n]}
}

// brokenRows returns rows that are not valid for any number of columns, with one thing changed in a valid one.
func brokenRows(w impl.Row) []impl.Row {
	out := []impl.Row{{}, {Terms: w.Terms}, {Terms: w.Terms, Sense: w.Sense}, {Terms: w.Terms, Rhs: w.Rhs}, {Sense: w.Sense}}
	for _, sense := range badSenses() {
		out = append(out, withSense(w, sense))
	}
	for _, bad := range invalidRats() {
		out = append(out, withRhs(w, bad))
	}
	for i := range w.Terms {
		for _, bad := range brokenTerms(w.Terms, i) {
			out = append(out, withTerms(w, bad))
		}
	}
	return append(out, withTerms(w, fullTerms(41, fraction(plus(1), 1))), withTerms(w, termList("40:1")))
}

// isRightOf reports whether a value is at most (1), at least (2) or equal to (3) another one.
func isRightOf(value *big.Rat, sense int, rhs *big.Rat) bool {
	order := value.Cmp(rhs)
	return map[int]bool{1: order <= 0, 2: order >= 0, 3: order == 0}[sense]
}

// rowValueOf needs a row that is valid for the columns of x, and returns the zero value if its value there is too large.
func rowValueOf(w impl.Row, x []impl.Rat) impl.Rat { return dotOf(denseOf(w.Terms, len(x)), x) }

// holdsOf needs a valid row: a value that is too large counts as equal to Rhs.
func holdsOf(w impl.Row, x []impl.Rat) bool {
	value := rowValueOf(w, x)
	return isZeroRat(value) || isRightOf(ratValue(value), w.Sense, ratValue(w.Rhs))
}

func slackOf(w impl.Row, x []impl.Rat) impl.Rat {
	value := rowValueOf(w, x)
	if isZeroRat(value) {
		return value
	}
	slack := new(big.Rat).Sub(ratValue(value), ratValue(w.Rhs))
	if w.Sense == 1 {
		slack.Neg(slack)
	}
	return ratOf(slack)
}

// multipleOf needs a valid row, and returns the zero value if r is 0 or a product is too large.
func multipleOf(w impl.Row, r impl.Rat) impl.Row {
	by := ratValue(r)
	out := impl.Row{Sense: w.Sense, Rhs: ratOf(new(big.Rat).Mul(ratValue(w.Rhs), by))}
	if by.Sign() == 0 || isZeroRat(out.Rhs) {
		return impl.Row{}
	}
	if by.Sign() < 0 {
		out.Sense = []int{0, 2, 1, 3}[w.Sense]
	}
	for _, term := range w.Terms {
		coef := ratOf(new(big.Rat).Mul(ratValue(term.Coef), by))
		if isZeroRat(coef) {
			return impl.Row{}
		}
		out.Terms = append(out.Terms, impl.Term{Col: term.Col, Coef: coef})
	}
	return out
}

// checkRow compares the functions of one valid row with math/big.
func checkRow(t *testing.T, w impl.Row, x []impl.Rat, r impl.Rat) {
	t.Helper()
	wantBool(t, "RowOk", impl.RowOk(w, len(x)), true, w, len(x))
	wantBool(t, "RowHolds", impl.RowHolds(w, x), holdsOf(w, x), w, x)
	wantRat(t, "RowSlack", impl.RowSlack(w, x), slackOf(w, x), w, x)
	wantRow(t, "RowScale", impl.RowScale(w, r), multipleOf(w, r), w, r)
	wantRow(t, "RowNegate", impl.RowNegate(w), multipleOf(w, fraction(minus(1), 1)), w)
	isConstant := len(w.Terms) == 0
	holds := isConstant && isRightOf(new(big.Rat), w.Sense, ratValue(w.Rhs))
	wantBool(t, "RowInfeasible", impl.RowInfeasible(w), isConstant && !holds, w)
	wantBool(t, "RowTrivial", impl.RowTrivial(w), holds, w)
	wantBool(t, "RowImplies", impl.RowImplies(w, w), true, w, w)
	wantBool(t, "RowEqual", impl.RowEqual(w, w), true, w, w)
}

// noRow calls every function with a row that is not valid for any number of columns.
func noRow(t *testing.T, bad impl.Row, other impl.Row) {
	t.Helper()
	for _, n := range []int{0, 1, 3, 39, 40, 41} {
		wantBool(t, "RowOk", impl.RowOk(bad, n), false, bad, n)
		x := copies(n, fraction(plus(1), 2))
		wantBool(t, "RowHolds", impl.RowHolds(bad, x), false, bad, x)
		wantRat(t, "RowSlack", impl.RowSlack(bad, x), impl.Rat{}, bad, x)
		if got := impl.FormatRow(bad, colNames(n)); got != "" {
			t.Fatalf("FormatRow of %v with %d names = %q", bad, n, got)
		}
	}
	for _, r := range []impl.Rat{fraction(plus(), 1), fraction(plus(1), 1), fraction(minus(7), 3), {}} {
		wantRow(t, "RowScale", impl.RowScale(bad, r), impl.Row{}, bad, r)
	}
	wantRow(t, "RowNegate", impl.RowNegate(bad), impl.Row{}, bad)
	wantBool(t, "RowInfeasible", impl.RowInfeasible(bad), false, bad)
	wantBool(t, "RowTrivial", impl.RowTrivial(bad), false, bad)
	wantBool(t, "RowImplies", impl.RowImplies(bad, bad), false, bad, bad)
	for _, w := range []impl.Row{other, row("<= -1"), row("<= 1")} {
		wantBool(t, "RowImplies", impl.RowImplies(bad, w), false, bad, w)
		wantBool(t, "RowImplies", impl.RowImplies(w, bad), false, w, bad)
	}
}

func TestFormatSense(t *testing.T) {
	if impl.SenseLe != 1 || impl.SenseGe != 2 || impl.SenseEq != 3 {
		t.Errorf("the senses are %d, %d and %d", impl.SenseLe, impl.SenseGe, impl.SenseEq)
	}
	for _, sense := range slices.Concat(badSenses(), intSamples(), []int{1, 2, 3}) {
		if got := impl.FormatSense(sense); got != signs()[sense] {
			t.Errorf("FormatSense(%d) = %q", sense, got)
		}
	}
}

func TestRowOk(t *testing.T) {
	for n := range 45 {
		wantBool(t, "RowOk", impl.RowOk(impl.Row{}, n), false, impl.Row{}, n)
	}
	rows := []impl.Row{row("<= 0"), row("0:1 >= -1/2"), row("0:1 1:-2/3 = 7"), row("4:1 <= 0"), row("39:-1 >= 1"), {Terms: fullTerms(40, greatest()), Sense: 3, Rhs: smallest()}, {Terms: []impl.Term{}, Sense: 1, Rhs: fraction(plus(1), limbs(24, top)...)}}
	for _, w := range rows {
		for _, n := range append(intSamples(), 2, 3, 4, 5, 6, 38, 39, 40, 41, 42, -40) {
			want := n >= 0 && n <= 40 && (len(w.Terms) == 0 || w.Terms[len(w.Terms)-1].Col < n)
			for _, v := range everySense(w) {
				wantBool(t, "RowOk", impl.RowOk(v, n), want, v, n)
			}
			for _, sense := range badSenses() {
				wantBool(t, "RowOk", impl.RowOk(withSense(w, sense), n), false, w, sense, n)
			}
			wantBool(t, "RowOk", impl.RowOk(withRhs(w, impl.Rat{}), n), false, w, "without Rhs", n)
		}
	}
}

func TestRowOkOfTerms(t *testing.T) {
	cases := []struct {
		terms string
		n     int
		want  bool
	}{
		{"", -1, false}, {"", 0, true}, {"", 40, true}, {"", 41, false}, {"0:1", -1, false}, {"0:1", 0, false}, {"0:1", 1, true}, {"0:1", 40, true}, {"0:1", 41, false}, {"2:1", 2, false}, {"2:1", 3, true}, {"3:1", 3, false}, {"39:1", 40, true}, {"40:1", 40, false}, {"40:1", 41, false},
		{"0:1 1:1", 1, false}, {"0:1 1:1", 2, true}, {"0:0", 1, false}, {"0:1 1:0", 2, false}, {"0:0 1:1", 2, false}, {"0:1 0:1", 2, false}, {"1:1 0:1", 2, false}, {"0:1 2:1 1:1", 3, false}, {"-1:1", 3, false}, {"-1:1 0:1", 3, false}, {"0:1 -1:1", 3, false},
	}
	for _, c := range cases {
		for _, w := range everySense(impl.Row{Terms: termList(c.terms), Rhs: fraction(minus(3), 2)}) {
			wantBool(t, "RowOk", impl.RowOk(w, c.n), c.want, w, c.n)
		}
	}
	for n := range 45 {
		for m := range 45 {
			w := impl.Row{Terms: fullTerms(n, smallest()), Sense: 2, Rhs: greatest()}
			wantBool(t, "RowOk", impl.RowOk(w, m), n <= m && m <= 40, n, m)
		}
	}
}

func TestRowInvalid(t *testing.T) {
	for _, w := range []impl.Row{row("<= 1"), row(">= 1"), row("= 0"), row("0:1 <= 7"), row("0:-1/2 1:3 >= 0"), row("0:1 1:1 2:1 = -5/2"), {Terms: fullTerms(40, fraction(minus(3), 2)), Sense: 1, Rhs: greatest()}} {
		wantBool(t, "RowOk", impl.RowOk(w, 40), true, w, 40)
		for _, bad := range brokenRows(w) {
			noRow(t, bad, w)
		}
	}
	for _, n := range []int{41, 42, 5000} {
		noRow(t, impl.Row{Terms: fullTerms(n, fraction(plus(1), 1)), Sense: 1, Rhs: fraction(plus(), 1)}, row("0:1 <= 0"))
	}
}

func TestRowHoldsAndSlackEdges(t *testing.T) {
	cases := []struct {
		w, x, slack string
		holds       bool
	}{
		{"0:1 <= 5", "4", "1", true}, {"0:1 <= 5", "5", "0", true}, {"0:1 <= 5", "6", "-1", false}, {"0:1 >= 5", "4", "-1", false}, {"0:1 >= 5", "5", "0", true}, {"0:1 >= 5", "6", "1", true}, {"0:1 = 5", "4", "-1", false}, {"0:1 = 5", "5", "0", true}, {"0:1 = 5", "6", "1", false},
		{"<= 5", "", "5", true}, {"<= 0", "", "0", true}, {"<= -5", "", "-5", false}, {">= 5", "", "-5", false}, {">= 0", "", "0", true}, {">= -5", "", "5", true}, {"= 5", "", "-5", false}, {"= 0", "", "0", true}, {"= -5", "", "5", false}, {"<= 1/2", "7 8 9", "1/2", true}, {">= 1/2", "7 8 9", "-1/2", false},
		{"0:2 1:1 <= 7", "3 1", "0", true}, {"0:2 1:1 <= 7", "3 2", "-1", false}, {"0:2 1:1 <= 7", "1 1", "4", true}, {"0:1/2 1:-1/3 = 0", "2 3", "0", true}, {"0:1/2 1:-1/3 = 0", "2 3 1000", "0", true}, {"0:1/2 1:-1/3 = 0", "2 4", "-1/3", false}, {"1:-1 >= -1/2", "100 1/2", "0", true}, {"1:-1 >= -1/2", "100 2/3", "-1/6", false},
		{"0:1 <= 1/1000000000", "1/1000000001", "1/1000000001000000000", true}, {"0:1 >= 1/1000000000", "1/1000000001", "-1/1000000001000000000", false}, {"2:1 = -7/3", "0 0 -7/3", "0", true}, {"2:1 = -7/3", "0 0 7/3", "14/3", false},
	}
	for _, c := range cases {
		wantBool(t, "RowHolds", impl.RowHolds(row(c.w), vector(c.x)), c.holds, c.w, c.x)
		wantRat(t, "RowSlack", impl.RowSlack(row(c.w), vector(c.x)), vector(c.slack)[0], c.w, c.x)
	}
}

// There must be an element for every column of the terms, at most 40 elements, and all of them must be fractions.
func TestRowHoldsAndSlackOfOtherPoints(t *testing.T) {
	for _, sense := range []int{1, 2, 3} {
		for n := range 45 {
			for m := range 45 {
				w := impl.Row{Terms: fullTerms(n, fraction(plus(1), 2)), Sense: sense, Rhs: ratOfInts(2*n, 1)}
				slack := impl.Rat{}
				if n <= m && m <= 40 {
					slack = fraction(plus(), 1)
				}
				x := copies(m, fraction(plus(4), 1))
				wantBool(t, "RowHolds", impl.RowHolds(w, x), n <= m && m <= 40, w, x)
				wantRat(t, "RowSlack", impl.RowSlack(w, x), slack, w, x)
			}
		}
	}
	for _, s := range []string{"", "0:1", "1:1", "2:1", "0:1 1:1 2:1"} {
		for _, w := range everySense(impl.Row{Terms: termList(s), Rhs: fraction(plus(), 1)}) {
			points := [][]impl.Rat{{{}}, make([]impl.Rat, 3), make([]impl.Rat, 41), copies(100000, fraction(plus(), 1))}
			for i := range 3 {
				for _, bad := range invalidRats() {
					points = append(points, withElement(vector("0 0 0"), i, bad))
				}
			}
			for _, x := range points {
				wantBool(t, "RowHolds", impl.RowHolds(w, x), false, w, x)
				wantRat(t, "RowSlack", impl.RowSlack(w, x), impl.Rat{}, w, x)
			}
			wantBool(t, "RowHolds", impl.RowHolds(w, nil), s == "", w, nil)
			wantBool(t, "RowHolds", impl.RowHolds(w, []impl.Rat{}), s == "", w, "an empty point")
		}
	}
}

// A value of 24 limbs is compared, also where its difference to Rhs has 25. One of 25 limbs counts as equal to Rhs.
func TestRowHoldsAndSlackLimits(t *testing.T) {
	none, zero, one, minusOne, two := impl.Rat{}, fraction(plus(), 1), fraction(plus(1), 1), fraction(minus(1), 1), fraction(plus(2), 1)
	most, least, tiny, half := greatest(), smallest(), fraction(plus(1), limbs(24, top)...), fraction(plus(1), 2)
	cases := []struct {
		coefs, x []impl.Rat
		rhs      impl.Rat
		holds    [3]bool
		slack    impl.Rat
	}{
		{[]impl.Rat{one}, []impl.Rat{most}, most, [3]bool{true, true, true}, zero}, {[]impl.Rat{one}, []impl.Rat{most}, zero, [3]bool{false, true, false}, most}, {[]impl.Rat{one}, []impl.Rat{least}, zero, [3]bool{true, false, false}, least}, {[]impl.Rat{one}, []impl.Rat{zero}, most, [3]bool{true, false, false}, least},
		{[]impl.Rat{one}, []impl.Rat{most}, least, [3]bool{false, true, false}, none}, {[]impl.Rat{one}, []impl.Rat{most}, minusOne, [3]bool{false, true, false}, none}, {[]impl.Rat{one}, []impl.Rat{least}, one, [3]bool{true, false, false}, none}, {[]impl.Rat{one}, []impl.Rat{tiny}, half, [3]bool{true, false, false}, none}, {[]impl.Rat{one}, []impl.Rat{half}, tiny, [3]bool{false, true, false}, none},
		{nil, nil, most, [3]bool{true, false, false}, least}, {nil, nil, least, [3]bool{false, true, false}, most}, {nil, nil, tiny, [3]bool{true, false, false}, fraction(minus(1), limbs(24, top)...)},
		{[]impl.Rat{two}, []impl.Rat{most}, zero, [3]bool{true, true, true}, none}, {[]impl.Rat{two}, []impl.Rat{least}, zero, [3]bool{true, true, true}, none}, {[]impl.Rat{most}, []impl.Rat{two}, most, [3]bool{true, true, true}, none}, {[]impl.Rat{half}, []impl.Rat{tiny}, one, [3]bool{true, true, true}, none}, {[]impl.Rat{half}, []impl.Rat{tiny}, minusOne, [3]bool{true, true, true}, none},
		{[]impl.Rat{one, one}, []impl.Rat{most, one}, zero, [3]bool{true, true, true}, none}, {[]impl.Rat{one, one, one}, []impl.Rat{most, one, minusOne}, zero, [3]bool{true, true, true}, none}, {[]impl.Rat{one, one, one}, []impl.Rat{most, minusOne, one}, zero, [3]bool{false, true, false}, most}, {[]impl.Rat{two, one}, []impl.Rat{most, one}, most, [3]bool{true, true, true}, none},
	}
	for _, c := range cases {
		for _, w := range everySense(impl.Row{Terms: termsOf(c.coefs), Rhs: c.rhs}) {
			slack := c.slack
			if w.Sense == 1 && !isZeroRat(slack) {
				slack = negatives([]impl.Rat{slack})[0]
			}
			wantBool(t, "RowHolds", impl.RowHolds(w, c.x), c.holds[w.Sense-1], w, c.x)
			wantRat(t, "RowSlack", impl.RowSlack(w, c.x), slack, w, c.x)
			checkRow(t, w, c.x, fraction(minus(1), 2))
		}
	}
}

func TestP3RowOperations(t *testing.T) {
	random := rand.New(rand.NewSource(40))
	for n := range 41 {
		for range 40 {
			w, x, r := smallRow(random, n), smallVec(random, n), smallVec(random, 1)[0]
			checkRow(t, w, x, r)
			// At the same value, a row holds with each sense.
			for _, v := range everySense(withRhs(w, rowValueOf(w, x))) {
				checkRow(t, v, x, r)
			}
		}
		for range 400 / (n + 10) {
			most := random.Intn(24) + 1
			w := impl.Row{Terms: termsOf(sparse(random, randomVec(random, n, most))), Sense: random.Intn(3) + 1, Rhs: randomRat(random, most)}
			checkRow(t, w, randomVec(random, n, 24-most/2), randomRat(random, most))
		}
	}
}

func TestRowLimitsOfManyRows(t *testing.T) {
	random := rand.New(rand.NewSource(41))
	tooLarge, fits := map[string]int{}, map[string]int{}
	count := func(name string, isTooLarge bool) {
		if isTooLarge {
			tooLarge[name]++
		} else {
			fits[name]++
		}
	}
	for range 6000 {
		v := edgeMat(random, 1, random.Intn(5)+1)[0]
		n := len(v) - 1
		w, x, r := edgeRow(random, n), v[:n], v[n]
		checkRow(t, w, x, r)
		count("value", isZeroRat(rowValueOf(w, x)))
		count("slack", isZeroRat(slackOf(w, x)))
		count("multiple", isZeroRow(multipleOf(w, r)))
	}
	for _, name := range []string{"value", "slack", "multiple"} {
		if tooLarge[name] < 300 || fits[name] < 300 {
			t.Errorf("%d times a %s is too large, %d times not", tooLarge[name], name, fits[name])
		}
	}
}

func TestRowScaleEdges(t *testing.T) {
	cases := []struct{ w, r, want string }{
		{"0:1 <= 5", "2", "0:2 <= 10"}, {"0:1 >= 5", "2", "0:2 >= 10"}, {"0:1 = 5", "2", "0:2 = 10"}, {"0:1 <= 5", "-2", "0:-2 >= -10"}, {"0:1 >= 5", "-2", "0:-2 <= -10"}, {"0:1 = 5", "-2", "0:-2 = -10"}, {"0:1 <= 5", "1", "0:1 <= 5"}, {"0:1 >= 5", "1", "0:1 >= 5"}, {"0:1 = 5", "1", "0:1 = 5"},
		{"0:1 <= 0", "-3", "0:-3 >= 0"}, {"0:1 >= 0", "3", "0:3 >= 0"}, {"<= 0", "7", "<= 0"}, {"<= 0", "-7", ">= 0"}, {">= 0", "-7", "<= 0"}, {"= 0", "-7", "= 0"}, {"<= 3", "1/3", "<= 1"}, {"<= 3", "-1/3", ">= -1"}, {"= -3", "-1/3", "= 1"},
		{"0:3 5:-1/2 39:7 <= 1/2", "-2/3", "0:-2 5:1/3 39:-14/3 >= -1/3"}, {"0:2 1:1 <= 7", "-1/2", "0:-1 1:-1/2 >= -7/2"}, {"1:1 2:1 3:1 = 1", "1/1000000000", "1:1/1000000000 2:1/1000000000 3:1/1000000000 = 1/1000000000"}, {"39:4/3 >= -4/3", "3/4", "39:1 >= -1"},
	}
	for _, c := range cases {
		wantRow(t, "RowScale", impl.RowScale(row(c.w), vector(c.r)[0]), row(c.want), c.w, c.r)
	}
	for _, s := range []string{"<= 0", ">= 0", "= 0", "<= 1", "0:1 <= 5", "0:3 5:-1/2 39:7 >= 1/2", "0:1 1:1 = 0"} {
		for _, bad := range append(invalidRats(), fraction(plus(), 1)) {
			wantRow(t, "RowScale", impl.RowScale(row(s), bad), impl.Row{}, s, bad)
		}
	}
}

func TestRowNegateEdges(t *testing.T) {
	cases := []struct{ w, want string }{
		{"0:1 <= 5", "0:-1 >= -5"}, {"0:1 = 5", "0:-1 = -5"}, {"0:1 <= 0", "0:-1 >= 0"}, {"<= 0", ">= 0"}, {"= 0", "= 0"}, {"<= -1/2", ">= 1/2"}, {"= 7", "= -7"}, {"0:2 1:1 <= 7", "0:-2 1:-1 >= -7"}, {"0:-3 5:1/2 39:-7 <= 1/2", "0:3 5:-1/2 39:7 >= -1/2"}, {"39:" + nines + " <= -" + nines, "39:-" + nines + " >= " + nines}, {"39:1/" + nines + " = -1/" + nines, "39:-1/" + nines + " = 1/" + nines},
	}
	for _, c := range cases {
		wantRow(t, "RowNegate", impl.RowNegate(row(c.w)), row(c.want), c.w)
		wantRow(t, "RowNegate", impl.RowNegate(row(c.want)), row(c.w), c.want)
	}
	for n := range 41 {
		for _, w := range everySense(impl.Row{Terms: fullTerms(n, greatest()), Rhs: fraction(plus(), 1)}) {
			want := impl.Row{Terms: fullTerms(n, smallest()), Sense: []int{0, 2, 1, 3}[w.Sense], Rhs: fraction(plus(), 1)}
			wantRow(t, "RowNegate", impl.RowNegate(w), want, w)
			wantRow(t, "RowNegate", impl.RowNegate(impl.RowNegate(w)), w, w)
		}
	}
}

// One coefficient, at every place, or Rhs has 25 limbs: then there is no multiple.
func TestRowScaleLimitsAtEveryPlace(t *testing.T) {
	one, two, half, tiny := fraction(plus(1), 1), fraction(plus(2), 1), fraction(minus(1), 2), fraction(plus(1), limbs(24, top)...)
	for _, n := range []int{0, 1, 2, 3, 40} {
		for _, w := range everySense(impl.Row{Terms: fullTerms(n, one), Rhs: one}) {
			checkRow(t, withRhs(w, greatest()), copies(n, one), fraction(minus(1), 1))
			wantRow(t, "RowScale", impl.RowScale(withRhs(w, greatest()), two), impl.Row{}, n, "the greatest Rhs")
			wantRow(t, "RowScale", impl.RowScale(withRhs(w, smallest()), fraction(minus(2), 1)), impl.Row{}, n, "the smallest Rhs")
			wantRow(t, "RowScale", impl.RowScale(withRhs(w, tiny), half), impl.Row{}, n, "a tiny Rhs")
			for i := range n {
				for _, coef := range []impl.Rat{greatest(), smallest(), tiny} {
					v := withTerms(w, withTerm(w.Terms, i, impl.Term{Col: i, Coef: coef}))
					for _, r := range []impl.Rat{two, half, one, fraction(minus(1), 1), fraction(minus(2), 1)} {
						wantRow(t, "RowScale", impl.RowScale(v, r), multipleOf(v, r), v, r)
					}
					by := two
					if sameRat(coef, tiny) {
						by = half
					}
					wantRow(t, "RowScale", impl.RowScale(v, by), impl.Row{}, v, by)
				}
			}
		}
	}
}

// A row holds at the same points as its multiples, and the slack is multiplied by the factor's magnitude.
func TestP3MultiplesHoldAtTheSamePoints(t *testing.T) {
	random := rand.New(rand.NewSource(42))
	factors, holds := vector("1 -1 2 7/5 -3/7 1000000000 -1000000001/6 1/999999999"), map[bool]int{}
	for n := range 41 {
		for range 40 {
			w, x := smallRow(random, n), smallVec(random, n)
			if random.Intn(2) == 0 {
				w = withRhs(w, rowValueOf(w, x))
			}
			r := factors[random.Intn(len(factors))]
			checkMultiple(t, w, impl.RowScale(w, r), r, x)
			checkMultiple(t, w, impl.RowNegate(w), fraction(minus(1), 1), x)
			holds[impl.RowHolds(w, x)]++
		}
	}
	if holds[true] < 300 || holds[false] < 300 {
		t.Errorf("%d rows hold, %d do not", holds[true], holds[false])
	}
}

func checkMultiple(t *testing.T, w impl.Row, scaled impl.Row, r impl.Rat, x []impl.Rat) {
	t.Helper()
	factor := r
	if w.Sense != 3 {
		factor = impl.RatMax(r, impl.RatNeg(r))
	}
	checkLaws(t, map[string]bool{
		"multiples are valid":                    impl.RowOk(scaled, len(x)),
		"multiples hold at the same points":      impl.RowHolds(scaled, x) == impl.RowHolds(w, x) && impl.RowHolds(w, x) == holdsOf(w, x),
		"the slack of a multiple":                sameRat(impl.RowSlack(scaled, x), impl.RatMul(impl.RowSlack(w, x), factor)),
		"1/r times r times a row is the row":     sameRow(impl.RowScale(scaled, impl.RatDiv(fraction(plus(1), 1), r)), w),
		"r times minus a row is -r times a row":  sameRow(impl.RowScale(impl.RowNegate(w), r), impl.RowScale(w, impl.RatNeg(r))),
		"minus minus a row is the row":           sameRow(impl.RowNegate(impl.RowNegate(w)), w),
		"-1 times a row is minus the row":        sameRow(impl.RowScale(w, fraction(minus(1), 1)), impl.RowNegate(w)),
		"a multiple is infeasible as the row is": impl.RowInfeasible(scaled) == impl.RowInfeasible(w),
		"a multiple is trivial as the row is":    impl.RowTrivial(scaled) == impl.RowTrivial(w),
		"a row holds if its slack is right":      impl.RowHolds(w, x) == (impl.RatSign(impl.RowSlack(w, x)) == 0 || w.Sense != 3 && impl.RatSign(impl.RowSlack(w, x)) > 0),
	}, w, scaled, r, x)
}

func TestRowInfeasibleAndTrivial(t *testing.T) {
	cases := []struct {
		w          string
		infeasible bool
	}{
		{"<= -1", true}, {"<= 0", false}, {"<= 1", false}, {">= -1", false}, {">= 0", false}, {">= 1", true}, {"= -1", true}, {"= 0", false}, {"= 1", true}, {"<= -1/1000000000", true}, {">= 1/1000000000", true}, {"= 1/" + nines, true}, {"= -1/" + nines, true}, {"<= -" + nines, true}, {"<= " + nines, false}, {">= -" + nines, false}, {">= " + nines, true},
	}
	for _, c := range cases {
		wantBool(t, "RowInfeasible", impl.RowInfeasible(row(c.w)), c.infeasible, c.w)
		wantBool(t, "RowTrivial", impl.RowTrivial(row(c.w)), !c.infeasible, c.w)
		w := row(c.w)
		wantBool(t, "RowInfeasible", impl.RowInfeasible(withTerms(w, []impl.Term{})), c.infeasible, c.w, "terms that are not nil")
		for _, terms := range [][]impl.Term{termList("0:1"), termList("0:-1 39:1"), termList("39:1"), fullTerms(40, smallest()), termList("0:0"), termList("40:1"), fullTerms(41, greatest()), {{}}} {
			wantBool(t, "RowInfeasible", impl.RowInfeasible(withTerms(w, terms)), false, c.w, terms)
			wantBool(t, "RowTrivial", impl.RowTrivial(withTerms(w, terms)), false, c.w, terms)
		}
	}
}

// For each pair of senses, the orders of the first Rhs and the second one for which the first row implies the second one.
func TestRowImpliesOfEveryPairOfSenses(t *testing.T) {
	orders := map[[2]int]string{{1, 1}: "<=", {2, 2}: ">=", {3, 3}: "=", {3, 1}: "<=", {3, 2}: ">="}
	sides := vector("-" + nines + " -3 -1/2 -1/1000000000 0 1/" + nines + " 1/3 1/2 7 " + nines)
	for _, terms := range [][]impl.Term{termList("0:1"), termList("0:-1/2 3:7"), termList("39:1"), fullTerms(40, smallest())} {
		for first := 1; first <= 3; first++ {
			for second := 1; second <= 3; second++ {
				for i, r := range sides {
					for j, s := range sides {
						order := orders[[2]int{first, second}]
						want := i < j && order == "<=" || i > j && order == ">=" || i == j && order != ""
						w, v := impl.Row{Terms: terms, Sense: first, Rhs: r}, impl.Row{Terms: slices.Clone(terms), Sense: second, Rhs: s}
						wantBool(t, "RowImplies", impl.RowImplies(w, v), want, w, v)
					}
				}
			}
		}
	}
}

// Rows without terms imply as the other ones do, but an infeasible one implies every valid row.
func TestRowImpliesWithoutTerms(t *testing.T) {
	others := []impl.Row{row("<= -1"), row(">= 1"), row("= 7"), row("<= 0"), row(">= -1"), row("= 0"), row("0:1 <= 5"), row("0:-1 39:1/2 >= -1"), row("39:1 = 0"), {Terms: fullTerms(40, greatest()), Sense: 2, Rhs: smallest()}}
	for _, s := range []string{"<= -1", ">= 1", "= 1", "= -1/2", "<= -" + nines, ">= 1/" + nines} {
		for _, v := range others {
			wantBool(t, "RowImplies", impl.RowImplies(row(s), v), true, s, v)
		}
		for _, v := range []impl.Row{row("40:1 <= 5"), row("0:0 <= 5"), row("1:1 0:1 <= 5"), withSense(others[0], 4), withSense(others[6], 0), withRhs(others[6], impl.Rat{}), {}} {
			wantBool(t, "RowImplies", impl.RowImplies(row(s), v), false, s, v)
		}
	}
	cases := []struct {
		w, v string
		want bool
	}{
		{"<= 0", "<= 0", true}, {"<= 0", "<= 1", true}, {"<= 1", "<= 0", false}, {"<= 0", "<= -1", false}, {">= 0", ">= -1", true}, {">= -1", ">= 0", false}, {"= 0", "= 0", true}, {"= 0", "<= 0", true}, {"= 0", ">= 0", true}, {"= 0", "<= 1", true}, {"= 0", ">= -1", true}, {"= 0", ">= 1", false}, {"<= 0", ">= 0", false}, {"<= 0", "= 0", false}, {">= 0", "= 0", false}, {">= 0", "<= 0", false},
		{"<= 0", "0:1 <= 0", false}, {"0:1 <= 0", "<= 0", false}, {"0:1 = 0", "<= 0", false}, {"= 0", "0:1 >= 0", false}, {"0:1 <= 0", "<= 1", false}, {"0:1 <= -1", "1:1 <= -1", false},
	}
	for _, c := range cases {
		wantBool(t, "RowImplies", impl.RowImplies(row(c.w), row(c.v)), c.want, c.w, c.v)
	}
}

func TestRowImpliesOfDifferentTerms(t *testing.T) {
	lists := []string{"0:1", "1:1", "0:2", "0:-1", "0:1/2", "0:1 1:1", "0:1 2:1", "0:1 1:2", "0:1 1:1 2:1", "39:1", ""}
	for i, l := range lists {
		for j, m := range lists {
			for _, w := range everySense(impl.Row{Terms: termList(l), Rhs: fraction(plus(), 1)}) {
				for _, v := range []impl.Row{withTerms(w, termList(m)), {Terms: termList(m), Sense: w.Sense, Rhs: fraction([]impl.BigInt{plus(), plus(5), minus(5), plus()}[w.Sense], 1)}} {
					want := i == j && (v.Sense != 3 || sameRat(v.Rhs, w.Rhs))
					wantBool(t, "RowImplies", impl.RowImplies(w, v), want, w, v)
				}
			}
		}
	}
	// A multiple holds at the same points, but is not implied: its terms differ.
	wantBool(t, "RowImplies", impl.RowImplies(row("0:1 <= 1"), row("0:2 <= 2")), false, "a row", "twice the row")
	for _, n := range []int{1, 2, 3, 40} {
		w := impl.Row{Terms: fullTerms(n, fraction(plus(3), 2)), Sense: 1, Rhs: fraction(plus(), 1)}
		for i := range n {
			for _, v := range []impl.Row{withTerms(w, withTerm(w.Terms, i, impl.Term{Col: i, Coef: fraction(plus(5), 2)})), withTerms(w, slices.Delete(slices.Clone(w.Terms), i, i+1))} {
				wantBool(t, "RowImplies", impl.RowImplies(w, v) || impl.RowImplies(v, w), false, w, v)
			}
		}
	}
}

func TestP3ImpliedRowsHoldWhereTheRowDoes(t *testing.T) {
	random := rand.New(rand.NewSource(43))
	implied, both := 0, 0
	for range 30000 {
		n := random.Intn(4)
		w, x := smallRow(random, n), smallVec(random, n)
		rhs := []impl.Rat{w.Rhs, rowValueOf(w, x), smallVec(random, 1)[0]}
		v := withRhs(withSense(w, random.Intn(3)+1), rhs[random.Intn(3)])
		w = withRhs(w, rhs[random.Intn(3)])
		if random.Intn(8) == 0 {
			v = smallRow(random, n)
		}
		if !impl.RowImplies(w, v) {
			continue
		}
		implied++
		if holdsOf(w, x) {
			both++
			wantBool(t, "RowHolds", impl.RowHolds(v, x) && holdsOf(v, x), true, w, v, x)
		}
		if impl.RowTrivial(w) && !impl.RowTrivial(v) || impl.RowInfeasible(v) && !impl.RowInfeasible(w) {
			t.Fatalf("RowImplies(%v, %v) = true", w, v)
		}
	}
	if implied < 3000 || both < 1000 {
		t.Errorf("%d rows are implied, %d times both hold", implied, both)
	}
}

func TestP3ImpliesIsTransitive(t *testing.T) {
	var rows []impl.Row
	for _, s := range []string{"", "0:1", "0:-1"} {
		for _, r := range vector("-1 0 1") {
			rows = append(rows, everySense(impl.Row{Terms: termList(s), Rhs: r})...)
		}
	}
	for _, w := range rows {
		for _, v := range rows {
			for _, u := range rows {
				if impl.RowImplies(w, v) && impl.RowImplies(v, u) && !impl.RowImplies(w, u) {
					t.Fatalf("%v implies %v, and that %v, which the first one does not imply", w, v, u)
				}
			}
			if impl.RowImplies(w, v) && impl.RowImplies(v, w) && !impl.RowInfeasible(w) && !impl.RowEqual(w, v) {
				t.Fatalf("%v and %v imply each other", w, v)
			}
		}
	}
}

// differentRows returns rows that differ from one with terms in one thing each.
func differentRows(w impl.Row) []impl.Row {
	var out []impl.Row
	for _, sense := range append(badSenses(), 1, 2, 3) {
		if sense != w.Sense {
			out = append(out, withSense(w, sense))
		}
	}
	for _, r := range append(invalidRats(), fraction(plus(55), 1), fraction(minus(1), 55)) {
		out = append(out, withRhs(w, r))
		for i, term := range w.Terms {
			out = append(out, withTerms(w, withTerm(w.Terms, i, impl.Term{Col: term.Col, Coef: r})))
		}
	}
	for i, term := range w.Terms {
		for _, col := range []int{-1, -term.Col - 1, term.Col + 1, 50, math.MinInt, math.MaxInt} {
			out = append(out, withTerms(w, withTerm(w.Terms, i, impl.Term{Col: col, Coef: term.Coef})))
		}
		out = append(out, withTerms(w, slices.Delete(slices.Clone(w.Terms), i, i+1)), withTerms(w, slices.Insert(slices.Clone(w.Terms), i, term)))
	}
	return append(out, impl.Row{}, withTerms(w, nil), impl.Row{Terms: w.Terms})
}

func cloneRat(r impl.Rat) impl.Rat {
	return fraction(impl.BigInt{Neg: r.Num.Neg, Mag: slices.Clone(r.Num.Mag)}, slices.Clone(r.Den)...)
}

func cloneRow(w impl.Row) impl.Row {
	out := impl.Row{Sense: w.Sense, Rhs: cloneRat(w.Rhs)}
	for _, term := range w.Terms {
		out.Terms = append(out.Terms, impl.Term{Col: term.Col, Coef: cloneRat(term.Coef)})
	}
	return out
}

// RowEqual compares any two rows, also those that are not valid.
func TestRowEqual(t *testing.T) {
	for _, w := range []impl.Row{row("0:1 <= 7"), row("0:-1/2 1:3 >= 0"), row("0:1 1:1 2:1 = -5/2"), row("1:1 0:2 0:0 <= 1"), withSense(row("7:1 41:1 = 1"), 9), {Terms: fullTerms(41, greatest()), Sense: 1, Rhs: smallest()}} {
		different := differentRows(w)
		for i, v := range different {
			wantBool(t, "RowEqual", impl.RowEqual(w, v) || impl.RowEqual(v, w), false, w, v)
			wantBool(t, "RowEqual", impl.RowEqual(v, cloneRow(v)), true, v, v)
			u := different[(i+1)%len(different)]
			wantBool(t, "RowEqual", impl.RowEqual(v, u), sameRow(v, u), v, u)
		}
		wantBool(t, "RowEqual", impl.RowEqual(w, cloneRow(w)), true, w, w)
	}
	pairs := [][2]impl.Row{{{}, {}}, {{}, {Terms: []impl.Term{}, Rhs: impl.Rat{Den: []int{}}}}, {row("<= 0"), {Terms: []impl.Term{}, Sense: 1, Rhs: fraction(plus([]int{}...), 1)}}, {{Terms: []impl.Term{{}}, Sense: -1}, {Terms: []impl.Term{{}}, Sense: -1}}}
	for _, pair := range pairs {
		wantBool(t, "RowEqual", impl.RowEqual(pair[0], pair[1]) && impl.RowEqual(pair[1], pair[0]), true, pair)
	}
	wantBool(t, "RowEqual", impl.RowEqual(row("<= 1"), row("<= -1")) || impl.RowEqual(row("<= 0"), row(">= 0")) || impl.RowEqual(row("<= 1/2"), withRhs(row("<= 1/2"), fraction(plus(2), 4))), false, "rows without terms")
}

func TestFormatRow(t *testing.T) {
	names := []string{"x", "y", "a1b2c3d4", "z9"}
	cases := []struct{ w, want string }{
		{"<= 0", "0 <= 0"}, {">= 1", "0 >= 1"}, {"= -1/2", "0 = -1/2"}, {"0:1 <= 5", "1*x <= 5"}, {"0:1 >= 5", "1*x >= 5"}, {"0:1 = 5", "1*x = 5"}, {"0:2 1:1 <= 7", "2*x + 1*y <= 7"}, {"1:-1/2 2:1000000000 >= -7/2", "-1/2*y + 1000000000*a1b2c3d4 >= -7/2"}, {"0:1 1:2 2:3 3:4 = 0", "1*x + 2*y + 3*a1b2c3d4 + 4*z9 = 0"}, {"3:1 <= " + nines, "1*z9 <= " + nines}, {"3:-1/" + nines + " = -1/" + nines, "-1/" + nines + "*z9 = -1/" + nines},
	}
	for _, c := range cases {
		if got := impl.FormatRow(row(c.w), names); got != c.want {
			t.Errorf("FormatRow of %q = %q, want %q", c.w, got, c.want)
		}
		if got, ok := impl.ParseRow(c.want, names); !ok || !sameRow(got, row(c.w)) {
			t.Errorf("ParseRow(%q) = %v, %v", c.want, got, ok)
		}
	}
}

// FormatRow asks only how many names there are.
func TestFormatRowNames(t *testing.T) {
	cases := []struct {
		w     string
		names []string
		want  string
	}{
		{"<= 1", nil, "0 <= 1"}, {"= 1", []string{}, "0 = 1"}, {">= 1", []string{""}, "0 >= 1"}, {"0:1 <= 1", nil, ""}, {"0:1 <= 1", []string{}, ""}, {"0:1 <= 1", []string{"x"}, "1*x <= 1"}, {"1:1 <= 1", []string{"x"}, ""}, {"0:1 2:1 <= 1", []string{"x", "y"}, ""}, {"0:1 2:1 <= 1", []string{"x", "y", "z"}, "1*x + 1*z <= 1"},
		{"0:1 = 1", []string{""}, "1* = 1"}, {"0:1 1:2 >= 1", []string{"x", "x"}, "1*x + 2*x >= 1"}, {"0:1 1:2 = 1", []string{" <= 3", "="}, "1* <= 3 + 2*= = 1"}, {"1:-5 <= 0", []string{"\xff", "\u00e4\n"}, "-5*\u00e4\n <= 0"},
	}
	for _, c := range cases {
		if got := impl.FormatRow(row(c.w), c.names); got != c.want {
			t.Errorf("FormatRow of %q with %q = %q, want %q", c.w, c.names, got, c.want)
		}
	}
	for n := range 45 {
		for m := range 45 {
			var parts []string
			for i := range n {
				parts = append(parts, "3/2*c"+strconv.Itoa(i))
			}
			want := strings.Join(parts, " + ") + " >= -7"
			if n == 0 {
				want = "0 >= -7"
			}
			if n > m || m > 40 {
				want = ""
			}
			w := impl.Row{Terms: fullTerms(n, fraction(plus(3), 2)), Sense: 2, Rhs: fraction(minus(7), 1)}
			if got := impl.FormatRow(w, colNames(m)); got != want {
				t.Fatalf("FormatRow of %d terms with %d names = %q, want %q", n, m, got, want)
			}
		}
	}
}

func TestP12RowsAreRecovered(t *testing.T) {
	random := rand.New(rand.NewSource(44))
	for n := range 41 {
		names := colNames(n)
		random.Shuffle(n, func(i int, j int) { names[i], names[j] = names[j], names[i] })
		for range 10 {
			long := impl.Row{Terms: termsOf(randomVec(random, n, 24)), Rhs: randomRat(random, 24)}
			for _, w := range append(everySense(long), append(everySense(smallRow(random, n)), edgeRow(random, n))...) {
				s := impl.FormatRow(w, names)
				if got, ok := impl.ParseRow(s, names); !ok || !sameRow(got, w) {
					t.Fatalf("ParseRow(%q) = %v, %v", s, got, ok)
				}
			}
		}
	}
}

// noText parses texts that no row has.
func noText(t *testing.T, names []string, texts ...string) {
	t.Helper()
	for _, s := range texts {
		if w, ok := impl.ParseRow(s, names); ok || !isZeroRow(w) {
			t.Fatalf("ParseRow(%.200q) with %d names = %v, %v", s, len(names), w, ok)
		}
	}
}

func TestParseRowInvalid(t *testing.T) {
	names := []string{"x", "y", "z"}
	noText(t, names,
		"", " ", "0", "1", "1*x", "1*x 5", "1*x  5", "<=", " <= ", "=", " = ", "<= 5", " <= 5", "= 5", " = 5", "1*x <=", "1*x <= ", "1*x =", "1*x = ", "0 >= ", "0 >=", " >= 0", ">= 0", "x", "5 <= ", "<= <= <=",
		"1*x <= <= 5", "1*x <= 5 <= 5", "1*x = = 5", "1*x = 5 = 5", "1*x >= >= 5", "1*x >= 5 >= 6", "1*x <= >= 5", "1*x >= <= 5", "1*x <= = 5", "1*x = <= 5", "0 <= 1*x <= 5", "0 <= 0 <= 0", "0 = 0 = 0", "5 >= 1*x >= 0", "0 <= 1 >= 0", "0 >= 1 <= 0", "0 = 1 >= 0", "0 >= 1 = 0", "0 <= 1 = 0",
		"1*x<=5", "1*x <=5", "1*x<= 5", "1*x  <= 5", "1*x <=  5", "1*x  <=  5", "1*x< = 5", "1*x < = 5", "1*x > = 5", "1*x=5", "1*x =5", "1*x= 5", "1*x  = 5", "1*x =  5", "1*x>=5", "1*x >=5", "1*x>= 5", "1*x  >= 5", "1*x >=  5", " 1*x <= 5", "1*x <= 5 ", " 1*x = 5", "1*x = 5 ", "1*x\t<=\t5", "1*x\n<=\n5", "1*x <= 5\n", "\n1*x <= 5", "1*x\u00a0=\u00a05",
		"1*x < 5", "1*x > 5", "1*x == 5", "1*x =< 5", "1*x => 5", "1*x <> 5", "1*x != 5", "1*x <=> 5", "1*x <<= 5", "1*x >== 5", "1*x <== 5", "1*x \u2264 5", "1*x \u2265 5", "1*x ; 5", "1*x le 5", "1*x 1 5", "1*x \x00 5", "0 < 1", "0 == 0", "0 =< 1",
	)
	noText(t, names,
		"5 <= 1*x", "5 = 1*x", "0 = 1*x", "1*x <= 1*y", "1*x <= 0*y", "1*x + 1*y", "x <= 5", "1 <= 5", "1 = 1", "-1 <= 5", "00 <= 5", "-0 <= 5", "0*x <= 5", "1*x + 0 <= 5", "0 + 1*x <= 5", "1*x + 0*y <= 5", "2/4*x <= 5", "1/1*x = 5", "01*x >= 5", "+1*x <= 5", "1.5*x <= 5", "1*x + 1*x <= 5", "1*y + 1*x <= 5", "1*x+1*y <= 5", "1*x  + 1*y <= 5", "1*x - 1*y <= 5", "1*x + 1*y + = 5", "*x = 5", "1* = 5", "1 * x = 5",
		"1*w <= 5", "1*X <= 5", "1*xx <= 5", "1*x + 1*w <= 5", "1*x1 = 5", "1* <= 5",
		"1*x <= +5", "1*x <= 05", "1*x <= -0", "1*x <= 2/4", "1*x = 5/1", "1*x = 0/1", "1*x >= 1/0", "1*x >= 1/-2", "1*x >= --1", "1*x <= 5.0", "1*x <= 5/", "1*x <= /5", "1*x <= a", "1*x <= x", "1*x <= -", "1*x <= - 5", "1*x <= 5 + 1", "1*x <= 5*x", "1*x <= 1e3", "0 = 00", "0 = \u0660", "1*x <= \u22125", "1*x <= 5\x00", "1*x = 5;", "1*x = \xff", "\xff = 5",
		"1*x <= "+nines+"9", "1*x = 1/"+nines+"9", nines+"9*x <= 5", "1*x + 1/"+nines+"9*y >= 5", "0 <= -"+nines+"9",
		strings.Repeat("1", 200000)+"*x <= 5", "1*x <= "+strings.Repeat("1", 200000), strings.Repeat("1*x + ", 100000)+"1*x <= 5", strings.Repeat(" <= ", 100000), strings.Repeat("0 = ", 100000)+"0", strings.Repeat("<", 200000), strings.Repeat("=", 200000), strings.Repeat(" ", 200000), strings.Repeat("0 <= ", 100000),
	)
	noText(t, nil, "", "1*x <= 5", "1* <= 5", "x = 5", " = 0", "0 =0", "0  = 0", "0 = ", "1 = 1")
}

func TestParseRowNames(t *testing.T) {
	for _, names := range [][]string{nil, {}, {"x"}, {"b", "a"}, {"x", "x0", "xx", "x00"}, {"abcdefgh", "abcdefg"}, colNames(39), colNames(40)} {
		for sense, sign := range signs() {
			if w, ok := impl.ParseRow("0 "+sign+" -3/2", names); !ok || !sameRow(w, impl.Row{Sense: sense, Rhs: fraction(minus(3), 2)}) {
				t.Errorf("ParseRow of a row without terms with %q = %v, %v", names, w, ok)
			}
			for col, name := range names {
				want := impl.Row{Terms: []impl.Term{{Col: col, Coef: fraction(minus(1), 2)}}, Sense: sense, Rhs: fraction(plus(), 1)}
				if w, ok := impl.ParseRow("-1/2*"+name+" "+sign+" 0", names); !ok || !sameRow(w, want) {
					t.Errorf("ParseRow of a term of %s with %q = %v, %v", name, names, w, ok)
				}
			}
		}
	}
	refused := [][]string{
		{""}, {"X"}, {"1"}, {"x y"}, {"x "}, {" <= "}, {"="}, {"abcdefghi"}, {"\u00e4"}, {"x\n"}, {"x", ""}, {"x", "Y"}, {"x", "x"}, {"x", "y", "x"}, {"y", "x", "x"}, {"", ""},
		colNames(41), colNames(1000), append(colNames(39), "c0"), append(colNames(39), "C"), slices.Repeat([]string{"x"}, 100000),
	}
	for _, names := range refused {
		noText(t, names, "", "0 <= 0", "0 >= -1/2", "0 = 0", "1*x <= 5", "1*c0 = 5", "1*x + 1*y >= 5", "1*"+names[0]+" <= 5", "1*"+names[len(names)-1]+" = 5")
	}
}

// checkTexts parses all texts: a row has only those that are given.
func checkTexts(t *testing.T, texts []string, names []string, want map[string]impl.Row) {
	t.Helper()
	found := 0
	for _, s := range texts {
		w, isText := want[s]
		if got, ok := impl.ParseRow(s, names); ok != isText || !sameRow(got, w) {
			t.Fatalf("ParseRow(%q) = %v, %v, want %v, %v", s, got, ok, w, isText)
		}
		if isText {
			found++
		}
	}
	if found != len(want) {
		t.Errorf("%d texts are rows, not %d", found, len(want))
	}
}

func TestParseRowAcceptsOnlyFormattedRows(t *testing.T) {
	short, between, ends := map[string]impl.Row{}, map[string]impl.Row{}, map[string]impl.Row{}
	for sense, sign := range signs() {
		for _, rhs := range vector("0 1 -1 10 11") {
			if s := "0 " + sign + " " + ratValue(rhs).RatString(); len(s) <= 6 {
				short[s] = impl.Row{Sense: sense, Rhs: rhs}
			}
		}
		between["2*a "+sign+" 2"] = impl.Row{Terms: termList("0:2"), Sense: sense, Rhs: fraction(plus(2), 1)}
		for _, rhs := range []string{"0", "1", "-1", "10", "11", "100", "101", "110", "111", "-10", "-11"} {
			ends["-1*b "+sign+" "+rhs] = impl.Row{Terms: termList("1:-1"), Sense: sense, Rhs: vector(rhs)[0]}
		}
	}
	names := []string{"a", "b"}
	checkTexts(t, textsUpTo(6, "01<=> -"), names, short)
	var middles, tails []string
	for _, s := range textsUpTo(5, "<>= 0*a") {
		middles = append(middles, "2*a"+s+"2")
	}
	for sign := range maps.Values(signs()) {
		for _, s := range textsUpTo(3, "01 -/=<+b") {
			tails = append(tails, "-1*b "+sign+" "+s)
		}
	}
	checkTexts(t, middles, names, between)
	checkTexts(t, tails, names, ends)
}

// rowCalls calls every function of the chapter, and returns the rows it gets. Fractions are the Rhs of rows of their own.
func rowCalls(w impl.Row, v impl.Row, x []impl.Rat, r impl.Rat, names []string) map[string]impl.Row {
	impl.RowOk(w, len(x))
	impl.RowHolds(w, x)
	impl.RowInfeasible(w)
	impl.RowTrivial(w)
	impl.RowImplies(w, v)
	impl.RowEqual(w, v)
	parsed, _ := impl.ParseRow(impl.FormatRow(w, names), names)
	return map[string]impl.Row{"RowNegate": impl.RowNegate(w), "RowScale": impl.RowScale(w, r), "RowScale by 1": impl.RowScale(w, fraction(plus(1), 1)), "RowSlack": {Rhs: impl.RowSlack(w, x)}, "RowSlack of the other row": {Rhs: impl.RowSlack(v, x)}, "ParseRow": parsed}
}

// rowParts returns the slices of all fractions: those of the terms, and Rhs behind them.
func rowParts(rows map[string]impl.Row) map[string][]int {
	vecs := map[string][]impl.Rat{}
	for name, w := range rows {
		for _, term := range w.Terms {
			vecs[name] = append(vecs[name], term.Coef)
		}
		vecs[name] = append(vecs[name], w.Rhs)
	}
	return vecParts(vecs)
}

// guardedRow returns a row whose fractions lie in guarded arrays, and which has another term behind its terms.
func guardedRow(w impl.Row) (impl.Row, []guarded) {
	terms, guards := guardedTerms(w.Terms)
	rhs, more := guardedVec([]impl.Rat{w.Rhs})
	return impl.Row{Terms: terms, Sense: w.Sense, Rhs: rhs[0]}, slices.Concat(guards, more)
}

// isGuardedRow reports whether a guarded row is as it was made from another one.
func isGuardedRow(w impl.Row, before impl.Row) bool {
	n := len(before.Terms)
	behind := impl.Term{Col: 100 + n, Coef: fraction(plus(5), 6)}
	return sameRow(w, before) && sameTerms(w.Terms[:n+1], append(slices.Clone(before.Terms), behind))
}

func TestRowArgumentsStayAndResultsAreNew(t *testing.T) {
	rows := []impl.Row{
		{}, row("<= 0"), row(">= 1"), row("= -1/2"), row("0:1 <= 5"), row("0:-1 >= -5"), row("2:-3/2 = 1/1000000001"), row("0:1 1:1/2 2:-7 <= 1000000000"), row("1:1000000000 2:-1/1000000001 >= -1/2"), {Terms: []impl.Term{{Col: 0, Coef: greatest()}, {Col: 2, Coef: smallest()}}, Sense: 3, Rhs: greatest()},
		row("3:1 <= 0"), row("1:1 0:1 <= 0"), row("0:1 1:0 <= 0"), withSense(row("0:1 <= 5"), 4), withRhs(row("0:1 <= 5"), impl.Rat{}), withRhs(row("0:1 <= 5"), fraction(plus(2), 4)), {Terms: []impl.Term{{Col: 1}}, Sense: 2, Rhs: fraction(plus(1), 1)},
	}
	points := [][]impl.Rat{nil, vector("0 0 0"), vector("1 -1/2 1000000000"), {greatest(), smallest(), fraction(plus(1), 1)}, vector("1"), {fraction(plus(1), 1), {}, fraction(plus(2), 4)}}
	for _, w := range rows {
		for _, v := range rows {
			for _, x := range points {
				for _, r := range []impl.Rat{fraction(plus(), 1), fraction(minus(1), 1), fraction(plus(2), 3), {}} {
					checkRowMemory(t, w, v, x, r)
				}
			}
		}
	}
}

func checkRowMemory(t *testing.T, w impl.Row, v impl.Row, x []impl.Rat, r impl.Rat) {
	t.Helper()
	first, guards := guardedRow(w)
	second, more := guardedRow(v)
	point, most := guardedVec(append(slices.Clone(x), r))
	names := []string{"x", "y", "z", "behind"}
	results, wanted := rowCalls(first, second, point[:len(x)], point[len(x)], names[:3]), rowCalls(w, v, x, r, []string{"x", "y", "z"})
	checkPartsAreNew(t, rowParts(results), rowParts(wanted), slices.Concat(guards, more, most))
	for name, result := range results {
		if !sameRow(result, wanted[name]) {
			t.Fatalf("%s = %v, want %v", name, result, wanted[name])
		}
		clear(result.Terms[:cap(result.Terms)])
		isPointSame := sameVec(point[:len(x)+2], append(slices.Clone(x), r, fraction(plus(5), 6)))
		if !isGuardedRow(first, w) || !isGuardedRow(second, v) || !isPointSame || !slices.Equal(names, []string{"x", "y", "z", "behind"}) {
			t.Fatalf("%v, %v, %v or the names were changed, or %s shares memory with them", w, v, x, name)
		}
	}
}
