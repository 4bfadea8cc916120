package tests

import (
	"fmt"
	"math"
	"math/big"
	"math/rand"
	"slices"
	"strconv"
	"strings"
	"testing"

	"loop.example/g00802/impl"
)

// termList returns the terms of texts COL:COEF between spaces, in any order and with any columns.
func termList(s string) []impl.Term {
	var out []impl.Term
	for _, text := range strings.Fields(s) {
		number, coef, _ := strings.Cut(text, ":")
		col, err := strconv.Atoi(number)
		if err != nil {
			panic("no column: " + text)
		}
		out = append(out, impl.Term{Col: col, Coef: vector(coef)[0]})
	}
	return out
}

func sameTerms(l []impl.Term, m []impl.Term) bool {
	return slices.EqualFunc(l, m, func(t impl.Term, u impl.Term) bool { return t.Col == u.Col && sameRat(t.Coef, u.Coef) })
}

func wantTerms(t *testing.T, label string, got []impl.Term, want []impl.Term, args ...any) {
	t.Helper()
	if !sameTerms(got, want) {
		t.Fatalf("%s of %v = %v, want %v", label, args, got, want)
	}
}

// termsOf returns the terms of a vector without those that are 0. It returns nil if an element is the zero value.
func termsOf(v []impl.Rat) []impl.Term {
	var out []impl.Term
	for col, r := range unlessTooLarge(v) {
		if ratValue(r).Sign() != 0 {
			out = append(out, impl.Term{Col: col, Coef: r})
		}
	}
	return out
}

// denseOf returns the coefficients of n columns. The terms must be valid for them.
func denseOf(l []impl.Term, n int) []impl.Rat {
	out := copies(n, fraction(plus(), 1))
	for _, term := range l {
		out[term.Col] = term.Coef
	}
	return out
}

// sparse returns a copy of a vector in which about as many elements are 0 as are not.
func sparse(random *rand.Rand, v []impl.Rat) []impl.Rat {
	out := slices.Clone(v)
	for i := range out {
		if random.Intn(2) == 0 {
			out[i] = fraction(plus(), 1)
		}
	}
	return out
}

func smallTerms(random *rand.Rand, n int) []impl.Term {
	return termsOf(sparse(random, smallVec(random, n)))
}

// fullTerms returns a term with the same coefficient for each of n columns.
func fullTerms(n int, r impl.Rat) []impl.Term {
	var out []impl.Term
	for col := range n {
		out = append(out, impl.Term{Col: col, Coef: r})
	}
	return out
}

func withTerm(l []impl.Term, i int, term impl.Term) []impl.Term {
	out := slices.Clone(l)
	out[i] = term
	return out
}

// brokenTerms returns lists that are not valid for any number of columns because of the term at one place of a valid one.
func brokenTerms(l []impl.Term, i int) [][]impl.Term {
	term := l[i]
	out := [][]impl.Term{
		withTerm(l, i, impl.Term{Col: term.Col, Coef: fraction(plus(), 1)}), withTerm(l, i, impl.Term{Col: term.Col}),
		withTerm(l, i, impl.Term{Col: -1, Coef: term.Coef}), withTerm(l, i, impl.Term{Col: math.MinInt, Coef: term.Coef}),
		withTerm(l, i, impl.Term{Col: 40, Coef: term.Coef}), withTerm(l, i, impl.Term{Col: math.MaxInt, Coef: term.Coef}),
		slices.Insert(slices.Clone(l), i, term), slices.Insert(slices.Clone(l), i+1, impl.Term{Col: term.Col, Coef: fraction(minus(3), 7)}),
	}
	if i > 0 {
		swapped := withTerm(withTerm(l, i, l[i-1]), i-1, term)
		out = append(out, swapped, withTerm(l, i, impl.Term{Col: l[i-1].Col, Coef: term.Coef}))
	}
	for j, bad := range invalidRats() {
		// Long lists take only some of them, in turn.
		if len(l) < 4 || (i+j)%20 == 0 {
			out = append(out, withTerm(l, i, impl.Term{Col: term.Col, Coef: bad}))
		}
	}
	return out
}

func colNames(n int) []string {
	var out []string
	for i := range n {
		out = append(out, "c"+strconv.Itoa(i))
	}
	return out
}

func TestTermsOk(t *testing.T) {
	cases := []struct {
		l    string
		n    int
		want bool
	}{
		{"", 0, true}, {"", 1, true}, {"", 39, true}, {"", 40, true}, {"", 41, false}, {"", 42, false}, {"", -1, false}, {"", math.MinInt, false}, {"", math.MaxInt, false},
		{"0:1", -1, false}, {"0:1", 0, false}, {"0:1", 1, true}, {"0:1", 2, true}, {"0:1", 40, true}, {"0:1", 41, false}, {"0:1", math.MaxInt, false}, {"-1:1", 40, false}, {"-1:1", 0, false}, {"-1:1", -1, false},
		{"4:1", 4, false}, {"4:1", 5, true}, {"5:1", 5, false}, {"6:1", 5, false}, {"39:1", 39, false}, {"39:1", 40, true}, {"39:1", 41, false}, {"40:1", 40, false}, {"40:1", 41, false}, {"41:1", 42, false},
		{"0:-1", 1, true}, {"0:1/2", 1, true}, {"0:-7/3", 1, true}, {"0:0", 1, false}, {"0:1 1:0", 2, false}, {"0:0 1:1", 2, false}, {"0:1 1:0 2:1", 3, false},
		{"0:1 1:1", 2, true}, {"0:1 1:1", 1, false}, {"0:1 4:1", 5, true}, {"0:1 4:1", 4, false}, {"0:1 0:1", 2, false}, {"0:1 0:-1", 2, false}, {"1:1 0:1", 2, false}, {"1:1 1:1", 2, false}, {"-1:1 0:1", 2, false},
		{"0:1 1:1 1:1", 3, false}, {"0:1 2:1 1:1", 3, false}, {"0:1 2:1 0:1", 3, false}, {"2:1 1:1 0:1", 3, false}, {"0:1 1:1 3:1", 3, false}, {"0:1 1:1 3:1", 4, true}, {"0:1 3:1 1:1 2:1", 4, false}, {"-2:1 -1:1", 4, false},
	}
	for _, c := range cases {
		if got := impl.TermsOk(termList(c.l), c.n); got != c.want {
			t.Errorf("TermsOk of %q, %d = %v", c.l, c.n, got)
		}
	}
	if !impl.TermsOk([]impl.Term{}, 0) || !impl.TermsOk([]impl.Term{}, 40) || impl.TermsOk([]impl.Term{}, 41) {
		t.Error("TermsOk of an empty list that is not nil is wrong")
	}
}

func TestTermsOkOfEveryColumn(t *testing.T) {
	for _, n := range append(intSamples(), 2, 3, 20, 38, 39, 40, 41, 42) {
		for _, col := range append(intSamples(), n-2, n-1, n, n+1, 38, 39, 40, 41) {
			want := n <= 40 && col >= 0 && col < n
			if got := impl.TermsOk([]impl.Term{{Col: col, Coef: fraction(minus(2), 3)}}, n); got != want {
				t.Fatalf("TermsOk of a term of %d, %d = %v", col, n, got)
			}
		}
	}
	for n := range 45 {
		for m := range 45 {
			if got := impl.TermsOk(fullTerms(n, greatest()), m); got != (n <= m && m <= 40) {
				t.Fatalf("TermsOk of %d terms, %d = %v", n, m, got)
			}
		}
	}
	if impl.TermsOk(slices.Repeat(termList("0:1"), 100000), 40) || impl.TermsOk(fullTerms(100000, fraction(plus(1), 1)), 40) {
		t.Error("TermsOk of a long list = true")
	}
}

func TestTermsOkLooksAtEveryTerm(t *testing.T) {
	for _, n := range []int{1, 2, 3, 40} {
		l := fullTerms(n, fraction(minus(3), 2))
		for i := range l {
			for _, bad := range brokenTerms(l, i) {
				if impl.TermsOk(bad, n) || impl.TermsOk(bad, 40) {
					t.Fatalf("TermsOk of %v = true", bad)
				}
			}
		}
	}
}

// checkTermsOperations compares the operations of terms of n columns with those of their coefficients by math/big.
func checkTermsOperations(t *testing.T, v []impl.Rat, w []impl.Rat, r impl.Rat) {
	t.Helper()
	var sum, scaled []impl.Rat
	for i := range v {
		a, b := ratValue(v[i]), ratValue(w[i])
		sum = append(sum, ratOf(new(big.Rat).Add(a, b)))
		scaled = append(scaled, ratOf(new(big.Rat).Mul(a, ratValue(r))))
	}
	l, m := termsOf(v), termsOf(w)
	wantTerms(t, "TermsAdd", impl.TermsAdd(l, m), termsOf(sum), l, m)
	wantTerms(t, "TermsScale", impl.TermsScale(l, r), termsOf(scaled), l, r)
	wantRat(t, "TermsValue", impl.TermsValue(l, w), dotOf(v, w), l, w)
	wantTerms(t, "TermsFromVec", impl.TermsFromVec(v), l, v)
	wantVec(t, "TermsToVec", impl.TermsToVec(l, len(v)), v, l)
	if got := impl.TermsEqual(l, m); got != sameVec(v, w) {
		t.Fatalf("TermsEqual(%v, %v) = %v", l, m, got)
	}
	var cols []int
	for col := range v {
		wantRat(t, "TermsCoef", impl.TermsCoef(l, col), v[col], l, col)
		if ratValue(v[col]).Sign() != 0 {
			cols = append(cols, col)
		}
	}
	if got := impl.TermsCols(l); !slices.Equal(got, cols) || !impl.TermsOk(l, len(v)) {
		t.Fatalf("TermsCols(%v) = %v, want %v", l, got, cols)
	}
}

func TestP2TermsOperations(t *testing.T) {
	random := rand.New(rand.NewSource(20))
	for n := range 41 {
		for range 12 {
			v, w, r := sparse(random, smallVec(random, n)), smallVec(random, n), ratOfInts(random.Intn(41)-20, random.Intn(12)+1)
			checkTermsOperations(t, v, sparse(random, w), r)
			checkTermsOperations(t, w, v, r)
			checkTermsOperations(t, v, v, r)
			checkTermsOperations(t, v, negatives(v), r)
			checkTermsOperations(t, sparse(random, randomVec(random, n, 1)), sparse(random, randomVec(random, n, 1)), randomRat(random, 2))
		}
		// With more terms, nearly no result of these is valid.
		for range 800 / (n*n + 10) {
			checkTermsOperations(t, sparse(random, randomVec(random, n, 12)), randomVec(random, n, 12), randomRat(random, 12))
			checkTermsOperations(t, sparse(random, randomVec(random, n, 24)), randomVec(random, n, 24), randomRat(random, 24))
		}
	}
}

func TestP2TermsLaws(t *testing.T) {
	random := rand.New(rand.NewSource(21))
	for n := range 41 {
		for range 10 {
			l, m, k := smallTerms(random, n), smallTerms(random, n), smallTerms(random, n)
			checkTermsSumLaws(t, l, m, k)
			checkTermsScaleLaws(t, l, m, ratOfInts(random.Intn(41)-20, random.Intn(12)+1), ratOfInts(random.Intn(41)-20, random.Intn(12)+1))
			checkTermsVecLaws(t, l, m, smallVec(random, n), smallVec(random, n))
		}
	}
}

func checkTermsSumLaws(t *testing.T, l []impl.Term, m []impl.Term, k []impl.Term) {
	t.Helper()
	sum, minusM := impl.TermsAdd(l, m), impl.TermsScale(m, fraction(minus(1), 1))
	checkLaws(t, map[string]bool{
		"l + m = m + l":              sameTerms(sum, impl.TermsAdd(m, l)),
		"(l + m) + k = l + (m + k)":  sameTerms(impl.TermsAdd(sum, k), impl.TermsAdd(l, impl.TermsAdd(m, k))),
		"l + 0 = l, 0 + l = l":       sameTerms(impl.TermsAdd(l, nil), l) && sameTerms(impl.TermsAdd(nil, l), l),
		"m - m = 0":                  len(impl.TermsAdd(m, minusM)) == 0,
		"(l + m) - m = l":            sameTerms(impl.TermsAdd(sum, minusM), l),
		"l = m if and only if equal": impl.TermsEqual(l, m) == (len(impl.TermsAdd(l, minusM)) == 0) && impl.TermsEqual(l, slices.Clone(l)),
		"sums are valid":             impl.TermsOk(sum, 40) && impl.TermsOk(minusM, 40) && len(minusM) == len(m),
	}, l, m, k)
}

func checkTermsScaleLaws(t *testing.T, l []impl.Term, m []impl.Term, r impl.Rat, s impl.Rat) {
	t.Helper()
	scaled := impl.TermsScale(l, r)
	checkLaws(t, map[string]bool{
		"1 * l = l":                 sameTerms(impl.TermsScale(l, fraction(plus(1), 1)), l),
		"0 * l = 0, r * 0 = 0":      len(impl.TermsScale(l, fraction(plus(), 1))) == 0 && len(impl.TermsScale(nil, r)) == 0,
		"2 * l = l + l":             sameTerms(impl.TermsScale(l, fraction(plus(2), 1)), impl.TermsAdd(l, l)),
		"r * (l + m) = r * l + r*m": sameTerms(impl.TermsScale(impl.TermsAdd(l, m), r), impl.TermsAdd(scaled, impl.TermsScale(m, r))),
		"(r + s) * l = r * l + s*l": sameTerms(impl.TermsScale(l, impl.RatAdd(r, s)), impl.TermsAdd(scaled, impl.TermsScale(l, s))),
		"s * (r * l) = (r * s) * l": sameTerms(impl.TermsScale(scaled, s), impl.TermsScale(l, impl.RatMul(r, s))),
		"multiples are valid":       impl.TermsOk(scaled, 40),
	}, l, m, r, s)
}

func checkTermsVecLaws(t *testing.T, l []impl.Term, m []impl.Term, x []impl.Rat, y []impl.Rat) {
	t.Helper()
	n, r := len(x), ratOfInts(-7, 3)
	v, w, value := impl.TermsToVec(l, n), impl.TermsToVec(m, n), impl.TermsValue(l, x)
	laws := map[string]bool{
		"the terms of the vector of l are l": sameTerms(impl.TermsFromVec(v), l) && len(v) == n,
		"the vector of l + m":                sameVec(impl.TermsToVec(impl.TermsAdd(l, m), n), impl.VecAdd(v, w)),
		"the vector of r * l":                sameVec(impl.TermsToVec(impl.TermsScale(l, r), n), impl.VecScale(v, r)),
		"l at x = the vector of l times x":   sameRat(value, impl.VecDot(v, x)),
		"(l + m) at x = l at x + m at x":     sameRat(impl.TermsValue(impl.TermsAdd(l, m), x), impl.RatAdd(value, impl.TermsValue(m, x))),
		"(r * l) at x = r * (l at x)":        sameRat(impl.TermsValue(impl.TermsScale(l, r), x), impl.RatMul(value, r)),
		"l at (x + y) = l at x + l at y":     sameRat(impl.TermsValue(l, impl.VecAdd(x, y)), impl.RatAdd(value, impl.TermsValue(l, y))),
		"l at 0 = 0":                         sameRat(impl.TermsValue(l, impl.VecZero(n)), fraction(plus(), 1)),
	}
	for col := range x {
		laws[fmt.Sprintf("l at unit vector %d", col)] = sameRat(impl.TermsValue(l, impl.VecUnit(n, col)), impl.TermsCoef(l, col)) && sameRat(impl.TermsCoef(l, col), v[col])
	}
	checkLaws(t, laws, l, m, x, y)
}

func TestTermsAddEdges(t *testing.T) {
	cases := []struct{ l, m, want string }{
		{"", "", ""}, {"0:1", "", "0:1"}, {"39:-2/3", "", "39:-2/3"}, {"0:1", "0:1", "0:2"}, {"0:1", "0:-1", ""}, {"0:1/2", "0:1/2", "0:1"}, {"0:1", "1:1", "0:1 1:1"}, {"1:1", "0:1", "0:1 1:1"}, {"0:1", "39:1", "0:1 39:1"},
		{"0:1 1:2 2:3", "0:-1 1:-2 2:-3", ""}, {"0:1 1:2 2:3", "0:-1", "1:2 2:3"}, {"0:1 1:2 2:3", "1:-2", "0:1 2:3"}, {"0:1 1:2 2:3", "2:-3", "0:1 1:2"}, {"0:1 2:3", "1:5", "0:1 1:5 2:3"}, {"1:1 3:1", "0:1 2:1 4:1", "0:1 1:1 2:1 3:1 4:1"},
		{"0:1/2 1:-3", "0:1 1:3", "0:3/2"}, {"3:999999999 9:1/3", "3:1 9:1/6", "3:1000000000 9:1/2"}, {"10:1 11:1 12:1", "2:1 9:1", "2:1 9:1 10:1 11:1 12:1"}, {"0:1 39:1", "0:1 38:1 39:-1", "0:2 38:1"},
	}
	for _, c := range cases {
		wantTerms(t, "TermsAdd", impl.TermsAdd(termList(c.l), termList(c.m)), termList(c.want), c.l, c.m)
		wantTerms(t, "TermsAdd", impl.TermsAdd(termList(c.m), termList(c.l)), termList(c.want), c.m, c.l)
	}
}

func TestTermsScaleEdges(t *testing.T) {
	cases := []struct{ l, r, want string }{
		{"", "0", ""}, {"", "1", ""}, {"", "-5/3", ""}, {"0:1", "0", ""}, {"0:3 5:-1/2 39:7", "0", ""}, {"0:3 5:-1/2 39:7", "1", "0:3 5:-1/2 39:7"}, {"0:3 5:-1/2 39:7", "-1", "0:-3 5:1/2 39:-7"}, {"0:3 5:-1/2 39:7", "-2/3", "0:-2 5:1/3 39:-14/3"},
		{"2:1/3", "3", "2:1"}, {"2:4/3", "3/4", "2:1"}, {"1:1 2:1 3:1", "1/1000000000", "1:1/1000000000 2:1/1000000000 3:1/1000000000"},
	}
	for _, c := range cases {
		wantTerms(t, "TermsScale", impl.TermsScale(termList(c.l), vector(c.r)[0]), termList(c.want), c.l, c.r)
	}
	for _, s := range []string{"", "0:1", "0:3 5:-1/2 39:7"} {
		for _, bad := range invalidRats() {
			wantTerms(t, "TermsScale", impl.TermsScale(termList(s), bad), nil, s, bad)
		}
	}
	for n := range 41 {
		wantTerms(t, "TermsScale", impl.TermsScale(fullTerms(n, fraction(plus(3), 2)), fraction(plus(), 1)), nil, n)
		wantTerms(t, "TermsScale", impl.TermsScale(fullTerms(n, fraction(plus(3), 2)), fraction(plus(2), 1)), fullTerms(n, fraction(plus(3), 1)), n)
	}
}

func TestTermsValueEdges(t *testing.T) {
	cases := []struct{ l, x, want string }{
		{"", "", "0"}, {"", "5", "0"}, {"", "5 -1/2 7", "0"}, {"0:1", "5", "5"}, {"0:-2/3", "3/2", "-1"}, {"0:1/2 1:-3", "4 1", "-1"}, {"0:1 1:1", "7 -7", "0"}, {"1:3", "100 2", "6"}, {"1:3", "100 2 100", "6"},
		{"0:1 2:1", "1 1000 2", "3"}, {"2:5", "0 0 0", "0"}, {"0:1/2 1:1/3 2:1/6", "1 1 1", "1"}, {"0:999999999 1:1", "1000000001 1", "1000000000000000000"},
	}
	for _, c := range cases {
		wantRat(t, "TermsValue", impl.TermsValue(termList(c.l), vector(c.x)), vector(c.want)[0], c.l, c.x)
	}
	for n := range 45 {
		for m := range 45 {
			want := impl.Rat{}
			if n <= m && m <= 40 {
				want = ratOfInts(2*n, 1)
			}
			wantRat(t, "TermsValue", impl.TermsValue(fullTerms(n, fraction(plus(1), 2)), copies(m, fraction(plus(4), 1))), want, n, m)
		}
		want := impl.Rat{}
		if n <= 40 {
			want = fraction(plus(), 1)
		}
		wantRat(t, "TermsValue", impl.TermsValue(nil, copies(n, fraction(plus(4), 1))), want, nil, n)
		wantRat(t, "TermsValue", impl.TermsValue([]impl.Term{}, copies(n, fraction(plus(4), 1))), want, nil, n)
	}
}

// An element of x that is not valid fails also where no term names its column.
func TestTermsValueInvalidPoint(t *testing.T) {
	for _, s := range []string{"", "0:1", "1:1", "2:1", "0:1 1:1 2:1", "0:1 2:-3"} {
		for i := range 3 {
			for _, bad := range invalidRats() {
				x := withElement(vector("1 2 3"), i, bad)
				wantRat(t, "TermsValue", impl.TermsValue(termList(s), x), impl.Rat{}, s, x)
			}
		}
		wantRat(t, "TermsValue", impl.TermsValue(termList(s), []impl.Rat{{}}), impl.Rat{}, s, "a list of one zero value")
		wantRat(t, "TermsValue", impl.TermsValue(termList(s), make([]impl.Rat, 41)), impl.Rat{}, s, "a list of 41 zero values")
	}
}

// What TermsValue computes on the way must be valid, even if the whole sum is: first the products, then the partial sums.
func TestTermsValueLimits(t *testing.T) {
	none, zero, one, minusOne, two := impl.Rat{}, fraction(plus(), 1), fraction(plus(1), 1), fraction(minus(1), 1), fraction(plus(2), 1)
	most, least, tiny := greatest(), smallest(), fraction(plus(1), limbs(24, top)...)
	cases := []struct {
		coefs, x []impl.Rat
		want     impl.Rat
	}{
		{[]impl.Rat{most}, []impl.Rat{one}, most}, {[]impl.Rat{most}, []impl.Rat{two}, none}, {[]impl.Rat{two}, []impl.Rat{most}, none}, {[]impl.Rat{most}, []impl.Rat{zero}, zero}, {[]impl.Rat{two, two}, []impl.Rat{most, least}, none},
		{[]impl.Rat{one, minusOne}, []impl.Rat{most, most}, zero}, {[]impl.Rat{most, minusOne, one}, copies(3, one), most}, {[]impl.Rat{most, one, minusOne}, copies(3, one), none}, {[]impl.Rat{one, most, minusOne}, copies(3, one), none},
		{[]impl.Rat{minusOne, one, most}, copies(3, one), most}, {[]impl.Rat{least, one, one}, []impl.Rat{one, minusOne, one}, none}, {[]impl.Rat{most, least, most, least}, copies(4, one), zero}, {[]impl.Rat{most, most, least, least}, copies(4, one), none},
		{[]impl.Rat{most, most, least}, []impl.Rat{one, zero, one}, zero}, {[]impl.Rat{tiny, tiny}, []impl.Rat{fraction(plus(1), 2), zero}, none}, {[]impl.Rat{tiny, one, tiny}, []impl.Rat{one, one, minusOne}, none}, {[]impl.Rat{tiny, tiny, one}, []impl.Rat{one, minusOne, one}, one},
		{[]impl.Rat{most, most}, []impl.Rat{tiny, tiny}, two}, {append(copies(39, one), most), append(copies(39, zero), one), most}, {append(copies(39, one), most), copies(40, one), none}, {append([]impl.Rat{most}, copies(39, one)...), append([]impl.Rat{two}, copies(39, zero)...), none},
	}
	for _, c := range cases {
		wantRat(t, "TermsValue", impl.TermsValue(termsOf(c.coefs), c.x), c.want, c.coefs, c.x)
	}
}

// One coefficient of the result has 25 limbs, at every place: then there is no result.
func TestTermsLimitsAtEveryPlace(t *testing.T) {
	one, two, tiny := fraction(plus(1), 1), fraction(plus(2), 1), fraction(plus(1), limbs(24, top)...)
	below := fraction(plus(append([]int{top - 1}, limbs(23, top)...)...), 1)
	for _, n := range []int{1, 2, 3, 40} {
		ones := fullTerms(n, one)
		for i := range n {
			most, least := withTerm(ones, i, impl.Term{Col: i, Coef: greatest()}), withTerm(ones, i, impl.Term{Col: i, Coef: smallest()})
			twos := fullTerms(n, two)
			wantTerms(t, "TermsAdd", impl.TermsAdd(most, ones), nil, n, i)
			wantTerms(t, "TermsAdd", impl.TermsAdd(ones, most), nil, n, i)
			wantTerms(t, "TermsAdd", impl.TermsAdd(least, impl.TermsScale(ones, fraction(minus(1), 1))), nil, n, i)
			wantTerms(t, "TermsAdd", impl.TermsAdd(most, most), nil, n, i)
			wantTerms(t, "TermsAdd", impl.TermsAdd(withTerm(ones, i, impl.Term{Col: i, Coef: below}), ones), withTerm(twos, i, impl.Term{Col: i, Coef: greatest()}), n, i)
			wantTerms(t, "TermsAdd", impl.TermsAdd(most, least), slices.Delete(slices.Clone(twos), i, i+1), n, i)
			wantTerms(t, "TermsAdd", impl.TermsAdd(most, slices.Delete(slices.Clone(ones), i, i+1)), withTerm(twos, i, impl.Term{Col: i, Coef: greatest()}), n, i)
			wantTerms(t, "TermsScale", impl.TermsScale(most, two), nil, n, i)
			wantTerms(t, "TermsScale", impl.TermsScale(most, fraction(minus(1), 1)), withTerm(fullTerms(n, fraction(minus(1), 1)), i, impl.Term{Col: i, Coef: smallest()}), n, i)
			wantTerms(t, "TermsScale", impl.TermsScale(most, fraction(plus(), 1)), nil, n, i)
			wantTerms(t, "TermsScale", impl.TermsScale(withTerm(ones, i, impl.Term{Col: i, Coef: tiny}), fraction(plus(1), 2)), nil, n, i)
			wantTerms(t, "TermsScale", impl.TermsScale(withTerm(ones, i, impl.Term{Col: i, Coef: tiny}), fraction(minus(1), 1)), withTerm(fullTerms(n, fraction(minus(1), 1)), i, impl.Term{Col: i, Coef: fraction(minus(1), limbs(24, top)...)}), n, i)
		}
	}
}

func TestTermsFromVecEdges(t *testing.T) {
	cases := []struct{ v, want string }{
		{"", ""}, {"0", ""}, {"1", "0:1"}, {"-1/2", "0:-1/2"}, {"0 0 0", ""}, {"0 0 7", "2:7"}, {"7 0 0", "0:7"}, {"0 -7/3 0", "1:-7/3"}, {"1 0 -1 0 2", "0:1 2:-1 4:2"}, {"0 1 0 1 0", "1:1 3:1"}, {"3 2 1", "0:3 1:2 2:1"},
	}
	for _, c := range cases {
		wantTerms(t, "TermsFromVec", impl.TermsFromVec(vector(c.v)), termList(c.want), c.v)
	}
	for n := range 45 {
		zeros := copies(n, fraction(plus(), 1))
		wantTerms(t, "TermsFromVec", impl.TermsFromVec(zeros), nil, zeros)
		var want []impl.Term
		if n <= 40 {
			want = fullTerms(n, fraction(minus(2), 5))
		}
		wantTerms(t, "TermsFromVec", impl.TermsFromVec(copies(n, fraction(minus(2), 5))), want, n)
		for i := range n {
			want = nil
			if n <= 40 {
				want = []impl.Term{{Col: i, Coef: greatest()}}
			}
			wantTerms(t, "TermsFromVec", impl.TermsFromVec(withElement(zeros, i, greatest())), want, n, i)
		}
	}
}

func TestTermsFromVecInvalidElementAtEveryPlace(t *testing.T) {
	for _, n := range []int{1, 2, 3, 40, 41} {
		for _, r := range []impl.Rat{fraction(plus(), 1), fraction(plus(1), 2)} {
			for i := range n {
				for j, bad := range invalidRats() {
					if n < 4 || (i+j)%20 == 0 {
						v := withElement(copies(n, r), i, bad)
						wantTerms(t, "TermsFromVec", impl.TermsFromVec(v), nil, v)
					}
				}
			}
		}
	}
}

func TestTermsToVecOfEveryLength(t *testing.T) {
	for _, s := range []string{"", "0:1", "0:-1/2 3:7", "5:1 6:1 7:1", "39:4/3", "0:1 39:1", "40:1", "-1:1"} {
		l := termList(s)
		for _, n := range append(intSamples(), 2, 3, 4, 5, 6, 7, 38, 39, 40, 41, 42) {
			var want []impl.Rat
			if n >= 0 && n <= 40 && (len(l) == 0 || l[0].Col >= 0 && l[len(l)-1].Col < n) {
				want = denseOf(l, n)
			}
			wantVec(t, "TermsToVec", impl.TermsToVec(l, n), want, s, n)
		}
	}
	for n := range 45 {
		for m := range 45 {
			var want []impl.Rat
			if n <= m && m <= 40 {
				want = append(copies(n, smallest()), copies(m-n, fraction(plus(), 1))...)
			}
			wantVec(t, "TermsToVec", impl.TermsToVec(fullTerms(n, smallest()), m), want, n, m)
		}
	}
}

// noTerms calls every function that takes valid terms, with a list that is not valid.
func noTerms(t *testing.T, bad []impl.Term, other []impl.Term) {
	t.Helper()
	wantTerms(t, "TermsAdd", impl.TermsAdd(bad, other), nil, bad, other)
	wantTerms(t, "TermsAdd", impl.TermsAdd(other, bad), nil, other, bad)
	wantTerms(t, "TermsAdd", impl.TermsAdd(bad, nil), nil, bad, nil)
	wantTerms(t, "TermsAdd", impl.TermsAdd(nil, bad), nil, nil, bad)
	wantTerms(t, "TermsAdd", impl.TermsAdd(bad, bad), nil, bad, bad)
	for _, r := range []impl.Rat{fraction(plus(), 1), fraction(plus(1), 1), fraction(minus(7), 3), {}} {
		wantTerms(t, "TermsScale", impl.TermsScale(bad, r), nil, bad, r)
	}
	for _, n := range []int{0, 1, 3, 40, 41} {
		wantVec(t, "TermsToVec", impl.TermsToVec(bad, n), nil, bad, n)
		for _, r := range []impl.Rat{fraction(plus(), 1), fraction(plus(1), 1)} {
			wantRat(t, "TermsValue", impl.TermsValue(bad, copies(n, r)), impl.Rat{}, bad, n)
		}
		if got := impl.FormatTerms(bad, colNames(n)); got != "" {
			t.Fatalf("FormatTerms(%v) with %d names = %q", bad, n, got)
		}
	}
}

func TestTermsInvalidTermAtEveryPlace(t *testing.T) {
	for _, n := range []int{1, 2, 3, 7, 40} {
		for _, r := range []impl.Rat{fraction(plus(1), 2), fraction(minus(3), 1)} {
			l := fullTerms(n, r)
			for i := range n {
				for _, bad := range brokenTerms(l, i) {
					noTerms(t, bad, l)
				}
			}
		}
	}
	for _, n := range []int{41, 42, 5000} {
		noTerms(t, fullTerms(n, fraction(plus(1), 1)), fullTerms(40, fraction(plus(1), 1)))
	}
}

func TestEmptyTerms(t *testing.T) {
	zero := fraction(plus(), 1)
	for _, l := range [][]impl.Term{nil, {}} {
		for _, m := range [][]impl.Term{nil, {}} {
			wantTerms(t, "TermsAdd", impl.TermsAdd(l, m), nil, l, m)
			if !impl.TermsEqual(l, m) {
				t.Errorf("TermsEqual(%#v, %#v) = false", l, m)
			}
		}
		wantTerms(t, "TermsScale", impl.TermsScale(l, fraction(plus(1), 1)), nil, l)
		wantTerms(t, "TermsScale", impl.TermsScale(l, impl.Rat{}), nil, l, "no fraction")
		wantVec(t, "TermsToVec", impl.TermsToVec(l, 0), nil, l, 0)
		wantVec(t, "TermsToVec", impl.TermsToVec(l, 3), copies(3, zero), l, 3)
		wantRat(t, "TermsValue", impl.TermsValue(l, nil), zero, l, nil)
		wantRat(t, "TermsValue", impl.TermsValue(l, []impl.Rat{}), zero, l, "an empty point")
		wantRat(t, "TermsCoef", impl.TermsCoef(l, 0), zero, l, 0)
		if got := impl.TermsCols(l); len(got) != 0 {
			t.Errorf("TermsCols(%#v) = %v", l, got)
		}
		for _, names := range [][]string{nil, {}, {"x"}, colNames(40)} {
			if got := impl.FormatTerms(l, names); got != "0" {
				t.Errorf("FormatTerms(%#v, %v) = %q", l, names, got)
			}
		}
	}
	wantTerms(t, "TermsFromVec", impl.TermsFromVec([]impl.Rat{}), nil, "an empty vector")
}

// TermsCoef and TermsCols ask nothing of the list: there may be columns twice, in any order, and any Coef.
func TestTermsCoefAndColsOfAnyList(t *testing.T) {
	bad := fraction(plus(2), 4)
	cases := []struct {
		l    []impl.Term
		want map[int]impl.Rat
		cols []int
	}{
		{termList("0:1/2 1:-3"), map[int]impl.Rat{0: fraction(plus(1), 2), 1: fraction(minus(3), 1)}, []int{0, 1}},
		{termList("1:5 0:7"), map[int]impl.Rat{1: fraction(plus(5), 1), 0: fraction(plus(7), 1)}, []int{1, 0}},
		{termList("1:5 1:7 1:5"), map[int]impl.Rat{1: fraction(plus(5), 1)}, []int{1, 1, 1}},
		{termList("3:1 1:5 3:2 1:7"), map[int]impl.Rat{3: fraction(plus(1), 1), 1: fraction(plus(5), 1)}, []int{3, 1, 3, 1}},
		{termList("0:0 0:1"), map[int]impl.Rat{0: fraction(plus(), 1)}, []int{0, 0}},
		{termList("-1:3 40:4 41:5 -7:6"), map[int]impl.Rat{-1: fraction(plus(3), 1), 40: fraction(plus(4), 1), 41: fraction(plus(5), 1), -7: fraction(plus(6), 1)}, []int{-1, 40, 41, -7}},
		{[]impl.Term{{Col: 2}, {Col: 2, Coef: fraction(plus(1), 1)}}, map[int]impl.Rat{2: {}}, []int{2, 2}},
		{[]impl.Term{{Col: 2, Coef: bad}, {Col: 9, Coef: fraction(minus(), 1)}}, map[int]impl.Rat{2: bad, 9: fraction(minus(), 1)}, []int{2, 9}},
		{[]impl.Term{{Col: math.MaxInt, Coef: greatest()}, {Col: math.MinInt, Coef: smallest()}}, map[int]impl.Rat{math.MaxInt: greatest(), math.MinInt: smallest()}, []int{math.MaxInt, math.MinInt}},
	}
	for _, c := range cases {
		for _, col := range append(intSamples(), 2, 3, 39, 40, 41, -7) {
			want, ok := c.want[col]
			if !ok {
				want = fraction(plus(), 1)
			}
			wantRat(t, "TermsCoef", impl.TermsCoef(c.l, col), want, c.l, col)
		}
		if got := impl.TermsCols(c.l); !slices.Equal(got, c.cols) {
			t.Errorf("TermsCols(%v) = %v, want %v", c.l, got, c.cols)
		}
	}
	long := fullTerms(1000, fraction(plus(9), 1))
	wantRat(t, "TermsCoef", impl.TermsCoef(long, 999), fraction(plus(9), 1), "1000 terms", 999)
	if got := impl.TermsCols(long); len(got) != 1000 || got[0] != 0 || got[999] != 999 {
		t.Errorf("TermsCols of 1000 terms has %d elements", len(got))
	}
}

// TermsEqual compares lists of any length and with any terms, also those that are not valid.
func TestTermsEqual(t *testing.T) {
	values := [][]impl.Term{
		nil, termList("0:1"), termList("1:1"), termList("-1:1"), termList("0:-1"), termList("0:2"), termList("0:1/2"), termList("0:0"), termList("0:1 1:1"), termList("1:1 0:1"), termList("0:1 0:1"), termList("0:1 2:1"), termList("0:1 1:2"), termList("0:2 1:1"),
		termList("0:1 1:1 2:1"), termList("0:1 1:1 2:3"), termList("0:1 1:1 3:1"), termList("40:1"), termList("41:1"), {{}}, {{}, {}}, {{Col: 1}}, {{Col: 0, Coef: fraction(plus(2), 2)}}, {{Col: 0, Coef: fraction(minus(), 1)}}, {{Col: 0, Coef: fraction(plus(0), 1)}},
		fullTerms(40, greatest()), fullTerms(41, greatest()), fullTerms(1000, greatest()), withTerm(fullTerms(1000, greatest()), 999, impl.Term{Col: 999, Coef: smallest()}), withTerm(fullTerms(1000, greatest()), 500, impl.Term{Col: 499, Coef: greatest()}),
	}
	for i, l := range values {
		for j, m := range values {
			var other []impl.Term
			for _, term := range m {
				coef := fraction(impl.BigInt{Neg: term.Coef.Num.Neg, Mag: slices.Clone(term.Coef.Num.Mag)}, slices.Clone(term.Coef.Den)...)
				other = append(other, impl.Term{Col: term.Col, Coef: coef})
			}
			if got := impl.TermsEqual(l, other); got != (i == j) {
				t.Errorf("TermsEqual(%v, %v) = %v", l, other, got)
			}
		}
	}
}

func TestTermsEqualLooksAtEveryTerm(t *testing.T) {
	for _, n := range []int{1, 2, 3, 40, 41} {
		l := fullTerms(n, fraction(plus(5), 3))
		for i := range l {
			for _, term := range []impl.Term{{Col: i, Coef: fraction(minus(5), 3)}, {Col: i, Coef: fraction(plus(5), 2)}, {Col: i, Coef: fraction(plus(10), 6)}, {Col: i}, {Col: i + 1, Coef: l[i].Coef}, {Col: -i - 1, Coef: l[i].Coef}} {
				if m := withTerm(l, i, term); impl.TermsEqual(l, m) || impl.TermsEqual(m, l) || !impl.TermsEqual(m, slices.Clone(m)) {
					t.Fatalf("TermsEqual of %d terms that differ at %d is wrong", n, i)
				}
			}
			if m := slices.Delete(slices.Clone(l), i, i+1); impl.TermsEqual(l, m) || impl.TermsEqual(m, l) {
				t.Fatalf("TermsEqual of %d terms and the same without %d = true", n, i)
			}
		}
	}
}

func TestFormatTerms(t *testing.T) {
	digits := strings.Repeat("9", 216)
	names := []string{"x", "y", "a1b2c3d4", "z9"}
	cases := []struct{ l, want string }{
		{"", "0"}, {"0:1", "1*x"}, {"1:1", "1*y"}, {"2:-1", "-1*a1b2c3d4"}, {"3:1/2", "1/2*z9"}, {"0:-7/3", "-7/3*x"}, {"0:1/2 1:-3", "1/2*x + -3*y"}, {"0:1 3:1", "1*x + 1*z9"}, {"1:-1/2 2:1000000000", "-1/2*y + 1000000000*a1b2c3d4"},
		{"0:1 1:2 2:3 3:4", "1*x + 2*y + 3*a1b2c3d4 + 4*z9"}, {"0:" + digits + " 1:-1/" + digits, digits + "*x + -1/" + digits + "*y"},
	}
	for _, c := range cases {
		if got := impl.FormatTerms(termList(c.l), names); got != c.want {
			t.Errorf("FormatTerms of %q = %q, want %q", c.l, got, c.want)
		}
		if got, ok := impl.ParseTerms(c.want, names); !ok || !sameTerms(got, termList(c.l)) {
			t.Errorf("ParseTerms(%q) = %v, %v", c.want, got, ok)
		}
	}
}

// FormatTerms asks only how many names there are.
func TestFormatTermsNames(t *testing.T) {
	cases := []struct {
		l     string
		names []string
		want  string
	}{
		{"", nil, "0"}, {"", []string{""}, "0"}, {"0:1", nil, ""}, {"0:1", []string{}, ""}, {"0:1", []string{"x"}, "1*x"}, {"1:1", []string{"x"}, ""}, {"0:1 1:1", []string{"x"}, ""}, {"0:1 2:1", []string{"x", "y"}, ""}, {"0:1 2:1", []string{"x", "y", "z"}, "1*x + 1*z"},
		{"0:1", []string{""}, "1*"}, {"0:1 1:2", []string{"x", "x"}, "1*x + 2*x"}, {"0:1 1:2", []string{"X Y", "*"}, "1*X Y + 2**"}, {"0:1", []string{"toolonganame"}, "1*toolonganame"}, {"1:-5", []string{"\xff", "\u00e4\n"}, "-5*\u00e4\n"},
	}
	for _, c := range cases {
		if got := impl.FormatTerms(termList(c.l), c.names); got != c.want {
			t.Errorf("FormatTerms of %q with %q = %q, want %q", c.l, c.names, got, c.want)
		}
	}
	for n := range 45 {
		for m := range 45 {
			var parts []string
			for i := range n {
				parts = append(parts, "3/2*c"+strconv.Itoa(i))
			}
			want := strings.Join(parts, " + ")
			if n == 0 {
				want = "0"
			}
			if n > m || m > 40 {
				want = ""
			}
			if got := impl.FormatTerms(fullTerms(n, fraction(plus(3), 2)), colNames(m)); got != want {
				t.Fatalf("FormatTerms of %d terms with %d names = %q, want %q", n, m, got, want)
			}
		}
	}
}

func TestP12TermsAreRecovered(t *testing.T) {
	random := rand.New(rand.NewSource(22))
	for n := range 41 {
		names := colNames(n)
		random.Shuffle(n, func(i int, j int) { names[i], names[j] = names[j], names[i] })
		for range 10 {
			for _, l := range [][]impl.Term{smallTerms(random, n), termsOf(smallVec(random, n)), termsOf(sparse(random, randomVec(random, n, 2))), termsOf(randomVec(random, n, 24))} {
				s := impl.FormatTerms(l, names)
				if got, ok := impl.ParseTerms(s, names); !ok || !sameTerms(got, l) {
					t.Fatalf("ParseTerms(%q) = %v, %v", s, got, ok)
				}
			}
		}
	}
}

func TestParseTermsInvalid(t *testing.T) {
	digits := strings.Repeat("9", 217)
	cases := []string{
		"", " ", "-", "+", "*", " + ", "x", "y", "*x", "1*", "1", "-1", "00", "-0", "0 ", " 0", "0\n", "0 + 0", "0 + 1*x", "1*x + 0", "0*x", "0*x + 1*y", "1*x + 0*y", "1*x + 0*y + 1*z", "-0*x", "0", "0/1*x",
		"1*x + 1*x", "1*x + 2*x", "1*x + -1*x", "1*x + 1*y + 1*y", "1*x + 1*y + 1*x", "1*y + 1*x", "1*z + 1*y", "1*x + 1*z + 1*y", "1*z + 1*y + 1*x", "1*y + 1*x + 1*z",
		"2/4*x", "1/1*x", "4/2*x", "1*x + 2/4*y", "-2/4*x", "01*x", "1/02*x", "+1*x", "1*x + +1*y", "1/0*x", "1/-2*x", "1.5*x", "--1*x", "a*x", "x*1", "1*x*y", "1*x*", "1**x", "2*3*x",
		"1*x  + 1*y", "1*x +  1*y", "1*x  +  1*y", "1*x +1*y", "1*x+ 1*y", "1*x+1*y", " 1*x", "1*x ", "1*x + 1*y ", "1 *x", "1* x", "1 * x", "- 1*x", "1*x - 1*y", "1*x + - 1*y", "1*x + ", " + 1*x", "1*x + + 1*y", "1*x +  + 1*y", "1*x + 1*y + ", "1*x,1*y", "1*x\n+ 1*y", "1*x\n", "1*x + 1*y\n", "1*x\t+\t1*y",
		"1x", "x1", "1*w", "1*X", "1*xx", "1*x1", "1*", "1*1", "1*x + 1*w", "1*w + 1*x", "1*x + y", "x + 1*y", "1*x + 1", "1 + 1*x", "1\u00d7x", "\u22121*x", "\u00bd*x", "1*x\x00", "1*\xff", "\xff*x", "1*x\u00a0+\u00a01*y",
		digits + "*x", "1*x + " + digits + "*y", "1/" + digits + "*x", strings.Repeat("1", 200000) + "*x", strings.Repeat("1*x + ", 100000), strings.Repeat("1*x + ", 100000) + "1*x", strings.Repeat(" + ", 100000), strings.Repeat("*", 200000), strings.Repeat("0", 200000),
	}
	names := []string{"x", "y", "z"}
	for _, s := range cases {
		// "0" alone is the text of no terms.
		if l, ok := impl.ParseTerms(s, names); ok != (s == "0") || len(l) != 0 {
			t.Errorf("ParseTerms(%q) = %v, %v", s, l, ok)
		}
	}
	for _, s := range []string{"", "1*x", "1*", "x", " "} {
		if l, ok := impl.ParseTerms(s, nil); ok || len(l) != 0 {
			t.Errorf("ParseTerms(%q) without names = %v, %v", s, l, ok)
		}
	}
}

func TestParseTermsLooksAtEveryTerm(t *testing.T) {
	for _, n := range []int{1, 2, 3, 40} {
		names := colNames(n)
		for i := range n {
			for _, bad := range []string{"", "0", "1", "*", "0*" + names[i], "2/4*" + names[i], "7/2*d", "7/2*", names[i], "7/2 *" + names[i], "7/2*" + names[i] + " ", "-0*" + names[i], "7/2*" + names[i] + " + 1*" + names[i]} {
				var parts []string
				for _, name := range names {
					parts = append(parts, "7/2*"+name)
				}
				parts[i] = bad
				s := strings.Join(parts, " + ")
				if l, ok := impl.ParseTerms(s, names); ok != (s == "0") || len(l) != 0 {
					t.Fatalf("ParseTerms(%q) = %v, %v", s, l, ok)
				}
			}
		}
	}
}

func TestParseTermsNames(t *testing.T) {
	accepted := [][]string{nil, {}, {"x"}, {"a", "b"}, {"b", "a"}, {"x", "x0", "xx", "x00"}, {"abcdefgh", "abcdefg"}, {"a1234567"}, colNames(39), colNames(40)}
	for _, names := range accepted {
		if l, ok := impl.ParseTerms("0", names); !ok || len(l) != 0 {
			t.Errorf("ParseTerms of 0 with %q = %v, %v", names, l, ok)
		}
		for col, name := range names {
			if l, ok := impl.ParseTerms("-1/2*"+name, names); !ok || !sameTerms(l, []impl.Term{{Col: col, Coef: fraction(minus(1), 2)}}) {
				t.Errorf("ParseTerms of a term of %s with %q = %v, %v", name, names, l, ok)
			}
		}
	}
	refused := [][]string{
		{""}, {"X"}, {"1"}, {"1x"}, {"x y"}, {"x "}, {" x"}, {"x*"}, {"x+"}, {"-"}, {"abcdefghi"}, {"\u00e4"}, {"x\n"}, {"x\x00"}, {"x", ""}, {"", "x"}, {"x", "Y"}, {"x", "y", "9"}, {"x", "abcdefghi"}, {"x", "x"}, {"x", "y", "x"}, {"y", "x", "x"}, {"x", "y", "y"}, {"", ""},
		colNames(41), colNames(42), colNames(1000), append(colNames(39), "c0"), append(colNames(39), "c38"), append(colNames(39), "C"), append([]string{"c39"}, colNames(40)...), append([]string{"-"}, colNames(39)...), slices.Repeat([]string{"x"}, 100000),
	}
	for _, names := range refused {
		for _, s := range []string{"0", "", "1*x", "1*c0", "1*" + names[0], "1*" + names[len(names)-1], "1*x + 1*y"} {
			if l, ok := impl.ParseTerms(s, names); ok || len(l) != 0 {
				t.Errorf("ParseTerms(%q) with %d names %q = %v, %v", s, len(names), names[:min(len(names), 5)], l, ok)
			}
		}
	}
}

// formattedTerms returns the terms of all texts of one term that have at most six bytes, with names of one.
func formattedTerms(names []string) map[string][]impl.Term {
	out := map[string][]impl.Term{"0": nil}
	for n := -999; n < 10000; n++ {
		for d := 1; n != 0 && d < 100 && (d == 1 || n > -10 && n < 100); d++ {
			r := big.NewRat(int64(n), int64(d))
			for col, name := range names {
				if s := r.RatString() + "*" + name; len(s) <= 6 {
					out[s] = []impl.Term{{Col: col, Coef: ratOf(r)}}
				}
			}
		}
	}
	return out
}

func TestParseTermsAcceptsOnlyFormattedTerms(t *testing.T) {
	names := []string{"a", "b"}
	want := formattedTerms(names)
	for _, s := range textsUpTo(6, "012-/*a+ ") {
		l, isText := want[s]
		if got, ok := impl.ParseTerms(s, names); ok != isText || !sameTerms(got, l) {
			t.Fatalf("ParseTerms(%q) = %v, %v, want %v, %v", s, got, ok, l, isText)
		}
	}
	// Between two terms, only a space, a plus sign and a space.
	for _, between := range textsUpTo(4, "0+* ab") {
		s := "2*a" + between + "2*b"
		var l []impl.Term
		if between == " + " {
			l = termList("0:2 1:2")
		}
		if got, ok := impl.ParseTerms(s, names); ok != (l != nil) || !sameTerms(got, l) {
			t.Fatalf("ParseTerms(%q) = %v, %v", s, got, ok)
		}
	}
}

// The order in which a map gives its columns differs from call to call, and must not be seen.
func TestTermsResultsDoNotDependOnTheCall(t *testing.T) {
	random := rand.New(rand.NewSource(23))
	v, w := smallVec(random, 40), smallVec(random, 40)
	l, m := termsOf(v), termsOf(w)
	sum, scaled := impl.TermsAdd(l, m), impl.TermsScale(l, fraction(plus(3), 7))
	for range 50 {
		wantTerms(t, "TermsAdd", impl.TermsAdd(l, m), sum, l, m)
		wantTerms(t, "TermsScale", impl.TermsScale(l, fraction(plus(3), 7)), scaled, l)
		wantTerms(t, "TermsFromVec", impl.TermsFromVec(v), l, v)
	}
}

// termsCalls calls every function of the chapter, and returns the terms it gets. Fractions are in terms of their own.
func termsCalls(l []impl.Term, m []impl.Term, x []impl.Rat, r impl.Rat, names []string) map[string][]impl.Term {
	impl.TermsOk(l, len(names))
	impl.TermsEqual(l, m)
	parsed, _ := impl.ParseTerms(impl.FormatTerms(l, names), names)
	out := map[string][]impl.Term{
		"TermsAdd": impl.TermsAdd(l, m), "TermsAdd of a list and itself": impl.TermsAdd(l, l), "TermsAdd of a list and nothing": impl.TermsAdd(l, nil), "TermsScale": impl.TermsScale(l, r), "TermsFromVec": impl.TermsFromVec(x),
		"TermsValue": {{Coef: impl.TermsValue(l, x)}}, "ParseTerms": parsed,
	}
	for col, coef := range impl.TermsToVec(l, len(names)) {
		out[fmt.Sprintf("TermsToVec[%d]", col)] = []impl.Term{{Coef: coef}}
	}
	for _, col := range impl.TermsCols(l) {
		out[fmt.Sprintf("TermsCoef of %d", col)] = []impl.Term{{Coef: impl.TermsCoef(l, col)}}
	}
	return out
}

// termsParts returns the slices of all coefficients, each under the name of its list, its index and its field.
func termsParts(lists map[string][]impl.Term) map[string][]int {
	vecs := map[string][]impl.Rat{}
	for name, l := range lists {
		for _, term := range l {
			vecs[name] = append(vecs[name], term.Coef)
		}
	}
	return vecParts(vecs)
}

// guardedTerms returns terms whose coefficients lie in guarded arrays, and which have another term behind their end.
func guardedTerms(l []impl.Term) ([]impl.Term, []guarded) {
	var coefs []impl.Rat
	for _, term := range l {
		coefs = append(coefs, term.Coef)
	}
	v, guards := guardedVec(coefs)
	var out []impl.Term
	for i, r := range v[:len(l)+1] {
		out = append(out, impl.Term{Col: i + 100, Coef: r})
		if i < len(l) {
			out[i].Col = l[i].Col
		}
	}
	return out[:len(l)], guards
}

func TestTermsArgumentsStayAndResultsAreNew(t *testing.T) {
	lists := [][]impl.Term{
		nil, termList("0:1"), termList("2:-3/2"), termList("0:1 1:1/2 2:-7"), termList("0:-1 1:1/2"), termList("1:1000000000 2:-1/1000000001"), {{Col: 0, Coef: greatest()}, {Col: 2, Coef: smallest()}}, {{Col: 1, Coef: fraction(plus(1), limbs(24, top)...)}},
		{{Col: 0, Coef: fraction(plus(1), 1)}, {Col: 1}}, {{Col: 1, Coef: fraction(plus(2), 4)}}, termList("2:1 1:5 1:7"), termList("0:0 3:1"),
	}
	points := [][]impl.Rat{vector("0 0 0"), vector("1 -1/2 1000000000"), {greatest(), smallest(), fraction(plus(1), 1)}, vector("1"), {fraction(plus(1), 1), {}, fraction(plus(2), 4)}}
	for _, l := range lists {
		for _, m := range lists {
			for _, x := range points {
				for _, r := range []impl.Rat{fraction(plus(), 1), fraction(plus(1), 1), fraction(minus(2), 3), {}} {
					checkTermsMemory(t, l, m, x, r)
				}
			}
		}
	}
}

func checkTermsMemory(t *testing.T, l []impl.Term, m []impl.Term, x []impl.Rat, r impl.Rat) {
	t.Helper()
	first, guards := guardedTerms(l)
	second, more := guardedTerms(m)
	point, most := guardedVec(append(slices.Clone(x), r))
	guards = slices.Concat(guards, more, most)
	names := []string{"x", "y", "z", "behind"}
	results, wanted := termsCalls(first, second, point[:len(x)], point[len(x)], names[:3]), termsCalls(l, m, x, r, []string{"x", "y", "z"})
	checkPartsAreNew(t, termsParts(results), termsParts(wanted), guards)
	cols := impl.TermsCols(first)
	fill(cols[:cap(cols)], 77)
	v := impl.TermsToVec(first, 3)
	for i := range v[:cap(v)] {
		v[:cap(v)][i] = fraction(plus(123), 7)
	}
	for name, result := range results {
		for i := range result[:cap(result)] {
			result[:cap(result)][i] = impl.Term{Col: 55, Coef: fraction(plus(123), 7)}
		}
		behindL, behindM := impl.Term{Col: 100 + len(l), Coef: fraction(plus(5), 6)}, impl.Term{Col: 100 + len(m), Coef: fraction(plus(5), 6)}
		areTermsSame := sameTerms(first[:len(l)+1], append(slices.Clone(l), behindL)) && sameTerms(second[:len(m)+1], append(slices.Clone(m), behindM))
		isPointSame := sameVec(point[:len(x)+2], append(slices.Clone(x), r, fraction(plus(5), 6)))
		if !areTermsSame || !isPointSame || !slices.Equal(names, []string{"x", "y", "z", "behind"}) {
			t.Fatalf("%v, %v or %v was changed, or %s shares memory with it", l, m, x, name)
		}
	}
}
