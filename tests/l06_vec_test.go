package tests

import (
	"fmt"
	"math"
	"math/big"
	"math/rand"
	"slices"
	"strings"
	"testing"

	"loop.example/g00802/impl"
)

// vector returns the fractions of texts between spaces.
func vector(s string) []impl.Rat {
	var out []impl.Rat
	for _, text := range strings.Fields(s) {
		value, ok := new(big.Rat).SetString(text)
		if !ok {
			panic("no fraction: " + text)
		}
		out = append(out, ratOf(value))
	}
	return out
}

func sameVec(v []impl.Rat, w []impl.Rat) bool { return slices.EqualFunc(v, w, sameRat) }

func wantVec(t *testing.T, label string, got []impl.Rat, want []impl.Rat, args ...any) {
	t.Helper()
	if !sameVec(got, want) {
		t.Fatalf("%s of %v = %v, want %v", label, args, got, want)
	}
}

// unlessTooLarge returns nil if ratOf returned the zero value for an element.
func unlessTooLarge(v []impl.Rat) []impl.Rat {
	if slices.ContainsFunc(v, isZeroRat) {
		return nil
	}
	return v
}

func copies(n int, r impl.Rat) []impl.Rat { return slices.Repeat([]impl.Rat{r}, n) }

// withElement returns a copy of a list that has another element at one place.
func withElement(v []impl.Rat, i int, r impl.Rat) []impl.Rat {
	out := slices.Clone(v)
	out[i] = r
	return out
}

func randomVec(random *rand.Rand, n int, most int) []impl.Rat {
	var out []impl.Rat
	for range n {
		out = append(out, randomRat(random, most))
	}
	return out
}

// smallVec returns a vector whose sums and products of a few factors are always valid.
func smallVec(random *rand.Rand, n int) []impl.Rat {
	var out []impl.Rat
	for range n {
		out = append(out, ratOfInts(random.Intn(41)-20, random.Intn(12)+1))
	}
	return out
}

// negatives returns the elements with the opposite sign.
func negatives(v []impl.Rat) []impl.Rat {
	var out []impl.Rat
	for _, r := range v {
		out = append(out, ratOf(new(big.Rat).Neg(ratValue(r))))
	}
	return out
}

func TestMaxDim(t *testing.T) {
	if impl.MaxDim != 40 {
		t.Errorf("MaxDim = %d", impl.MaxDim)
	}
}

func TestVecOkOfEveryLength(t *testing.T) {
	for n := range 90 {
		for _, r := range append(ratSamples()[:20], greatest(), smallest()) {
			if got := impl.VecOk(copies(n, r)); got != (n <= 40) {
				t.Fatalf("VecOk of %d times %v = %v", n, r, got)
			}
		}
	}
	if !impl.VecOk(nil) || !impl.VecOk([]impl.Rat{}) || !impl.VecOk(ratSamples()[:40]) || impl.VecOk(copies(100000, fraction(plus(), 1))) {
		t.Error("VecOk of a nil list, an empty one, samples or a long list is wrong")
	}
}

func TestVecOkLooksAtEveryElement(t *testing.T) {
	for _, n := range []int{1, 2, 3, 40} {
		v := copies(n, fraction(minus(3), 2))
		for i := range v {
			for _, bad := range invalidRats() {
				if impl.VecOk(withElement(v, i, bad)) {
					t.Fatalf("VecOk of %d elements, %v at %d, = true", n, bad, i)
				}
			}
		}
	}
}

func TestVecZero(t *testing.T) {
	for n := -50; n <= 100; n++ {
		var want []impl.Rat
		if n >= 0 && n <= 40 {
			want = copies(n, fraction(plus(), 1))
		}
		wantVec(t, "VecZero", impl.VecZero(n), want, n)
	}
	for _, n := range intSamples() {
		if n < 0 || n > 40 {
			wantVec(t, "VecZero", impl.VecZero(n), nil, n)
		}
	}
}

func TestVecUnit(t *testing.T) {
	for n := -3; n <= 45; n++ {
		for _, i := range append(intSamples(), n-2, n-1, n, n+1, 0, 1, 2, 20, 38, 39, 40, 41) {
			var want []impl.Rat
			if n <= 40 && i >= 0 && i < n {
				want = withElement(copies(n, fraction(plus(), 1)), i, fraction(plus(1), 1))
			}
			wantVec(t, "VecUnit", impl.VecUnit(n, i), want, n, i)
		}
	}
	for _, n := range []int{math.MinInt, math.MaxInt, 1 << 32, -1 << 32} {
		wantVec(t, "VecUnit", impl.VecUnit(n, 0), nil, n, 0)
	}
}

// dotOf returns the zero value if a product or a partial sum, from the first element on, is too large.
func dotOf(v []impl.Rat, w []impl.Rat) impl.Rat {
	sum := new(big.Rat)
	for i := range v {
		product := new(big.Rat).Mul(ratValue(v[i]), ratValue(w[i]))
		sum.Add(sum, product)
		if isZeroRat(ratOf(product)) || isZeroRat(ratOf(sum)) {
			return impl.Rat{}
		}
	}
	return ratOf(sum)
}

// checkVecOperations compares the operations of two vectors of the same length with math/big.
func checkVecOperations(t *testing.T, v []impl.Rat, w []impl.Rat, r impl.Rat) {
	t.Helper()
	var sum, difference, scaled []impl.Rat
	for i := range v {
		a, b := ratValue(v[i]), ratValue(w[i])
		sum = append(sum, ratOf(new(big.Rat).Add(a, b)))
		difference = append(difference, ratOf(new(big.Rat).Sub(a, b)))
		scaled = append(scaled, ratOf(new(big.Rat).Mul(a, ratValue(r))))
	}
	wantVec(t, "VecAdd", impl.VecAdd(v, w), unlessTooLarge(sum), v, w)
	wantVec(t, "VecSub", impl.VecSub(v, w), unlessTooLarge(difference), v, w)
	wantVec(t, "VecScale", impl.VecScale(v, r), unlessTooLarge(scaled), v, r)
	wantRat(t, "VecDot", impl.VecDot(v, w), dotOf(v, w), v, w)
	if got := impl.VecEqual(v, w); got != sameVec(v, w) {
		t.Fatalf("VecEqual(%v, %v) = %v", v, w, got)
	}
	least := -1
	for i := range v {
		if least < 0 || ratValue(v[i]).Cmp(ratValue(v[least])) < 0 {
			least = i
		}
	}
	if got := impl.VecArgMin(v); got != least {
		t.Fatalf("VecArgMin(%v) = %d, want %d", v, got, least)
	}
}

func TestP2VecOperations(t *testing.T) {
	random := rand.New(rand.NewSource(17))
	for n := range 41 {
		for range 12 {
			v, w, r := smallVec(random, n), smallVec(random, n), ratOfInts(random.Intn(41)-20, random.Intn(12)+1)
			checkVecOperations(t, v, w, r)
			checkVecOperations(t, v, v, r)
			checkVecOperations(t, randomVec(random, n, 1), randomVec(random, n, 1), randomRat(random, 2))
		}
		// With more elements, nearly no result of these is valid.
		for range 1200 / (n*n + 10) {
			checkVecOperations(t, randomVec(random, n, 12), randomVec(random, n, 12), randomRat(random, 12))
			checkVecOperations(t, randomVec(random, n, 24), randomVec(random, n, 24), randomRat(random, 24))
		}
	}
}

func TestP2VecLaws(t *testing.T) {
	random := rand.New(rand.NewSource(18))
	for n := range 41 {
		for range 10 {
			v, w, u := smallVec(random, n), smallVec(random, n), smallVec(random, n)
			checkVecSumLaws(t, v, w, u)
			checkVecScaleLaws(t, v, w, ratOfInts(random.Intn(41)-20, random.Intn(12)+1), ratOfInts(random.Intn(41)-20, random.Intn(12)+1))
			checkVecDotLaws(t, v, w, u)
		}
	}
}

func checkLaws(t *testing.T, laws map[string]bool, args ...any) {
	t.Helper()
	for law, holds := range laws {
		if !holds {
			t.Fatalf("%s: does not hold for %v", law, args)
		}
	}
}

func checkVecSumLaws(t *testing.T, v []impl.Rat, w []impl.Rat, u []impl.Rat) {
	t.Helper()
	zero, sum, difference := impl.VecZero(len(v)), impl.VecAdd(v, w), impl.VecSub(v, w)
	checkLaws(t, map[string]bool{
		"v + w = w + v":                 sameVec(sum, impl.VecAdd(w, v)),
		"(v + w) + u = v + (w + u)":     sameVec(impl.VecAdd(sum, u), impl.VecAdd(v, impl.VecAdd(w, u))),
		"v + 0 = v, v - 0 = v":          sameVec(impl.VecAdd(v, zero), v) && sameVec(impl.VecSub(v, zero), v),
		"v - v = 0":                     sameVec(impl.VecSub(v, v), zero),
		"(v + w) - w = v":               sameVec(impl.VecSub(sum, w), v),
		"v - w = -(w - v)":              sameVec(difference, negatives(impl.VecSub(w, v))),
		"v - w = v + (-w)":              sameVec(difference, impl.VecAdd(v, negatives(w))),
		"v = w if and only if equal":    impl.VecEqual(v, w) == impl.VecEqual(difference, zero) && impl.VecEqual(v, v),
		"sums are vectors of n numbers": impl.VecOk(sum) && impl.VecOk(difference) && len(sum) == len(v) && len(difference) == len(v),
	}, v, w, u)
}

func checkVecScaleLaws(t *testing.T, v []impl.Rat, w []impl.Rat, r impl.Rat, s impl.Rat) {
	t.Helper()
	zero, scaled := impl.VecZero(len(v)), impl.VecScale(v, r)
	checkLaws(t, map[string]bool{
		"1 * v = v":                 sameVec(impl.VecScale(v, fraction(plus(1), 1)), v),
		"0 * v = 0, r * 0 = 0":      sameVec(impl.VecScale(v, fraction(plus(), 1)), zero) && sameVec(impl.VecScale(zero, r), zero),
		"-1 * v = -v":               sameVec(impl.VecScale(v, fraction(minus(1), 1)), negatives(v)),
		"r * (v + w) = r * v + r*w": sameVec(impl.VecScale(impl.VecAdd(v, w), r), impl.VecAdd(scaled, impl.VecScale(w, r))),
		"(r + s) * v = r * v + s*v": sameVec(impl.VecScale(v, impl.RatAdd(r, s)), impl.VecAdd(scaled, impl.VecScale(v, s))),
		"s * (r * v) = (r * s) * v": sameVec(impl.VecScale(scaled, s), impl.VecScale(v, impl.RatMul(r, s))),
		"(r * v) w = r * (v w)":     sameRat(impl.VecDot(scaled, w), impl.RatMul(impl.VecDot(v, w), r)),
	}, v, w, r, s)
}

func checkVecDotLaws(t *testing.T, v []impl.Rat, w []impl.Rat, u []impl.Rat) {
	t.Helper()
	zero, dot, square := impl.VecZero(len(v)), impl.VecDot(v, w), impl.VecDot(v, v)
	laws := map[string]bool{
		"v w = w v":             sameRat(dot, impl.VecDot(w, v)),
		"v (w + u) = v w + v u": sameRat(impl.VecDot(v, impl.VecAdd(w, u)), impl.RatAdd(dot, impl.VecDot(v, u))),
		"v (w - u) = v w - v u": sameRat(impl.VecDot(v, impl.VecSub(w, u)), impl.RatSub(dot, impl.VecDot(v, u))),
		"v 0 = 0":               sameRat(impl.VecDot(v, zero), fraction(plus(), 1)),
		"v v > 0 unless v = 0":  impl.RatSign(square) > 0 && !impl.VecEqual(v, zero) || impl.RatSign(square) == 0 && impl.VecEqual(v, zero),
	}
	sum := zero
	for i, r := range v {
		unit := impl.VecUnit(len(v), i)
		laws[fmt.Sprintf("v times unit vector %d", i)] = sameRat(impl.VecDot(v, unit), r) && sameRat(impl.VecDot(unit, v), r)
		sum = impl.VecAdd(sum, impl.VecScale(unit, r))
	}
	laws["v is the sum of its elements times unit vectors"] = sameVec(sum, v)
	checkLaws(t, laws, v, w, u)
}

func TestVecEdges(t *testing.T) {
	cases := []struct{ v, w, sum, difference, dot string }{
		{"", "", "", "", "0"}, {"0", "0", "0", "0", "0"}, {"5", "-5", "0", "10", "-25"}, {"1/2", "1/2", "1", "0", "1/4"}, {"-1/2", "2", "3/2", "-5/2", "-1"}, {"2/3", "3/2", "13/6", "-5/6", "1"},
		{"1 1/2 -3", "2 4 1", "3 9/2 -2", "-1 -7/2 -4", "1"}, {"1 0", "0 1", "1 1", "1 -1", "0"}, {"1/2 1/3", "1/3 1/2", "5/6 5/6", "1/6 -1/6", "1/3"}, {"1/2 1/2", "1 -1", "3/2 -1/2", "-1/2 3/2", "0"},
		{"0 0 0", "7 8 9", "7 8 9", "-7 -8 -9", "0"}, {"999999999 1", "1 999999999", "1000000000 1000000000", "999999998 -999999998", "1999999998"}, {"1/1000000000 0", "1 1", "1000000001/1000000000 1", "-999999999/1000000000 -1", "1/1000000000"},
	}
	for _, c := range cases {
		v, w := vector(c.v), vector(c.w)
		wantVec(t, "VecAdd", impl.VecAdd(v, w), vector(c.sum), c.v, c.w)
		wantVec(t, "VecSub", impl.VecSub(v, w), vector(c.difference), c.v, c.w)
		wantRat(t, "VecDot", impl.VecDot(v, w), vector(c.dot)[0], c.v, c.w)
	}
	scaled := []struct{ v, r, want string }{
		{"", "0", ""}, {"", "7", ""}, {"3 -1/2 0", "0", "0 0 0"}, {"3 -1/2 0", "1", "3 -1/2 0"}, {"3 -1/2 0", "-1", "-3 1/2 0"}, {"3 -1/2 0", "-2/3", "-2 1/3 0"}, {"1 1/2 -3", "2", "2 1 -6"}, {"0 0", "5/7", "0 0"},
	}
	for _, c := range scaled {
		wantVec(t, "VecScale", impl.VecScale(vector(c.v), vector(c.r)[0]), vector(c.want), c.v, c.r)
	}
}

func TestEmptyVecs(t *testing.T) {
	one := fraction(plus(1), 1)
	for _, v := range [][]impl.Rat{nil, {}} {
		for _, w := range [][]impl.Rat{nil, {}} {
			wantVec(t, "VecAdd", impl.VecAdd(v, w), nil, v, w)
			wantVec(t, "VecSub", impl.VecSub(v, w), nil, v, w)
			wantRat(t, "VecDot", impl.VecDot(v, w), fraction(plus(), 1), v, w)
			if !impl.VecEqual(v, w) {
				t.Errorf("VecEqual(%#v, %#v) = false", v, w)
			}
		}
		wantVec(t, "VecScale", impl.VecScale(v, one), nil, v, one)
		wantVec(t, "VecScale", impl.VecScale(v, impl.Rat{}), nil, v, "no fraction")
		if got := impl.VecArgMin(v); got != -1 {
			t.Errorf("VecArgMin(%#v) = %d", v, got)
		}
		if got := impl.FormatVec(v); got != "-" {
			t.Errorf("FormatVec(%#v) = %q", v, got)
		}
	}
}

// One element of the result has 25 limbs, at every place: then there is no result.
func TestVecLimitsAtEveryPlace(t *testing.T) {
	one, two, zero := fraction(plus(1), 1), fraction(plus(2), 1), fraction(plus(), 1)
	below := fraction(plus(append([]int{top - 1}, limbs(23, top)...)...), 1)
	for _, n := range []int{1, 2, 3, 40} {
		ones := copies(n, one)
		for i := range n {
			v := withElement(ones, i, greatest())
			w := withElement(ones, i, smallest())
			wantVec(t, "VecAdd", impl.VecAdd(v, ones), nil, n, i)
			wantVec(t, "VecAdd", impl.VecAdd(v, withElement(ones, i, zero)), withElement(copies(n, two), i, greatest()), n, i)
			wantVec(t, "VecAdd", impl.VecAdd(withElement(ones, i, below), ones), withElement(copies(n, two), i, greatest()), n, i)
			wantVec(t, "VecSub", impl.VecSub(w, ones), nil, n, i)
			wantVec(t, "VecSub", impl.VecSub(v, ones), withElement(copies(n, zero), i, below), n, i)
			wantVec(t, "VecSub", impl.VecSub(v, w), nil, n, i)
			wantVec(t, "VecAdd", impl.VecAdd(v, w), withElement(copies(n, two), i, zero), n, i)
			wantVec(t, "VecScale", impl.VecScale(v, two), nil, n, i)
			wantVec(t, "VecScale", impl.VecScale(v, fraction(plus(1), 2)), withElement(copies(n, fraction(plus(1), 2)), i, fraction(plus(limbs(24, top)...), 2)), n, i)
			wantVec(t, "VecScale", impl.VecScale(v, fraction(minus(1), 1)), withElement(copies(n, fraction(minus(1), 1)), i, smallest()), n, i)
			tiny := withElement(ones, i, fraction(plus(1), limbs(24, top)...))
			wantVec(t, "VecScale", impl.VecScale(tiny, fraction(plus(1), 2)), nil, n, i)
			wantVec(t, "VecScale", impl.VecScale(tiny, zero), copies(n, zero), n, i)
			wantRat(t, "VecDot", impl.VecDot(v, withElement(ones, i, two)), impl.Rat{}, n, i)
			wantRat(t, "VecDot", impl.VecDot(v, impl.VecUnit(n, i)), greatest(), n, i)
		}
	}
}

// What VecDot computes on the way must be valid, even if the whole sum is: first the products, then the partial sums.
func TestVecDotLimits(t *testing.T) {
	none, zero, one, minusOne, two := impl.Rat{}, fraction(plus(), 1), fraction(plus(1), 1), fraction(minus(1), 1), fraction(plus(2), 1)
	most, least, tiny := greatest(), smallest(), fraction(plus(1), limbs(24, top)...)
	cases := []struct {
		v, w []impl.Rat
		want impl.Rat
	}{
		{[]impl.Rat{most}, []impl.Rat{one}, most},
		{[]impl.Rat{most}, []impl.Rat{two}, none},
		{[]impl.Rat{most, most}, []impl.Rat{two, zero}, none},
		{[]impl.Rat{most, most}, []impl.Rat{two, fraction(minus(2), 1)}, none},
		{[]impl.Rat{most, least}, []impl.Rat{two, two}, none},
		{[]impl.Rat{least, most}, []impl.Rat{one, two}, none},
		{[]impl.Rat{zero, most, zero}, []impl.Rat{one, two, one}, none},
		{[]impl.Rat{most, most}, []impl.Rat{one, minusOne}, zero},
		{[]impl.Rat{most, one, minusOne}, []impl.Rat{one, one, one}, none},
		{[]impl.Rat{most, minusOne, one}, []impl.Rat{one, one, one}, most},
		{[]impl.Rat{one, most, minusOne}, []impl.Rat{one, one, one}, none},
		{[]impl.Rat{one, minusOne, most}, []impl.Rat{one, one, one}, most},
		{[]impl.Rat{minusOne, most, one}, []impl.Rat{one, one, one}, most},
		{[]impl.Rat{minusOne, one, most, one, minusOne}, copies(5, one), none},
		{[]impl.Rat{least, one, one}, []impl.Rat{one, minusOne, one}, none},
		{[]impl.Rat{most, least, most, least}, []impl.Rat{one, one, one, one}, zero},
		{[]impl.Rat{most, most, least, least}, []impl.Rat{one, one, one, one}, none},
		{[]impl.Rat{most, least, most}, []impl.Rat{one, one, one}, most},
		{[]impl.Rat{most, most}, []impl.Rat{tiny, tiny}, two},
		{[]impl.Rat{tiny, one}, []impl.Rat{one, one}, none},
		{[]impl.Rat{tiny, tiny}, []impl.Rat{fraction(plus(1), 2), zero}, none},
		{[]impl.Rat{tiny, one, tiny}, []impl.Rat{one, one, minusOne}, none},
		{[]impl.Rat{tiny, tiny, one}, []impl.Rat{one, minusOne, one}, one},
		{append(copies(39, one), most), append(copies(39, zero), one), most},
		{append(copies(39, one), most), copies(40, one), none},
		{append([]impl.Rat{most}, append(copies(38, zero), two)...), copies(40, one), none},
	}
	for _, c := range cases {
		wantRat(t, "VecDot", impl.VecDot(c.v, c.w), c.want, c.v, c.w)
		wantRat(t, "VecDot", impl.VecDot(c.w, c.v), c.want, c.w, c.v)
	}
}

// noVec calls every function that takes a vector, with one that is none, and other arguments that would do.
func noVec(t *testing.T, bad []impl.Rat, other []impl.Rat) {
	t.Helper()
	for _, pair := range [][2][]impl.Rat{{bad, other}, {other, bad}, {bad, bad}} {
		wantVec(t, "VecAdd", impl.VecAdd(pair[0], pair[1]), nil, pair)
		wantVec(t, "VecSub", impl.VecSub(pair[0], pair[1]), nil, pair)
		wantRat(t, "VecDot", impl.VecDot(pair[0], pair[1]), impl.Rat{}, pair[0], pair[1])
	}
	for _, r := range []impl.Rat{fraction(plus(), 1), fraction(plus(1), 1), fraction(minus(7), 3), {}} {
		wantVec(t, "VecScale", impl.VecScale(bad, r), nil, bad, r)
	}
	if got := impl.VecArgMin(bad); got != -1 {
		t.Fatalf("VecArgMin(%v) = %d", bad, got)
	}
	if got := impl.FormatVec(bad); got != "" {
		t.Fatalf("FormatVec(%v) = %q", bad, got)
	}
}

func TestVecInvalidElementAtEveryPlace(t *testing.T) {
	for _, n := range []int{1, 2, 3, 7, 40} {
		for _, r := range []impl.Rat{fraction(plus(), 1), fraction(plus(1), 2), fraction(minus(3), 1)} {
			v := copies(n, r)
			for i := range n {
				for j, bad := range invalidRats() {
					// Long lists take only some of them, in turn.
					if n < 4 || (i+j)%20 == 0 || len(bad.Den) == 0 {
						noVec(t, withElement(v, i, bad), v)
					}
				}
			}
		}
	}
}

func TestVecTooLong(t *testing.T) {
	for _, n := range []int{41, 42, 80, 5000} {
		for _, r := range []impl.Rat{fraction(plus(), 1), fraction(plus(1), 1), fraction(minus(1), 3)} {
			noVec(t, copies(n, r), copies(n, fraction(plus(), 1)))
			noVec(t, copies(n, r), copies(40, r))
			noVec(t, copies(n, r), nil)
		}
	}
	v, w := copies(40, fraction(plus(1), 2)), copies(40, fraction(plus(3), 1))
	wantVec(t, "VecAdd", impl.VecAdd(v, w), copies(40, fraction(plus(7), 2)), v, w)
	wantVec(t, "VecSub", impl.VecSub(v, w), copies(40, fraction(minus(5), 2)), v, w)
	wantVec(t, "VecScale", impl.VecScale(v, w[0]), copies(40, fraction(plus(3), 2)), v, w[0])
	wantRat(t, "VecDot", impl.VecDot(v, w), fraction(plus(60), 1), v, w)
	if got := impl.VecArgMin(v); got != 0 {
		t.Errorf("VecArgMin of 40 elements = %d", got)
	}
	if got, want := impl.FormatVec(v), strings.Repeat("1/2 ", 39)+"1/2"; got != want {
		t.Errorf("FormatVec of 40 elements = %q", got)
	}
}

func TestVecLengthsDiffer(t *testing.T) {
	for n := range 43 {
		for m := range 43 {
			if n == m {
				continue
			}
			for _, r := range []impl.Rat{fraction(plus(), 1), fraction(plus(1), 1)} {
				v, w := copies(n, r), copies(m, r)
				wantVec(t, "VecAdd", impl.VecAdd(v, w), nil, n, m)
				wantVec(t, "VecSub", impl.VecSub(v, w), nil, n, m)
				wantRat(t, "VecDot", impl.VecDot(v, w), impl.Rat{}, n, m)
				if impl.VecEqual(v, w) {
					t.Fatalf("VecEqual of %d and %d elements = true", n, m)
				}
			}
		}
	}
}

func TestVecScaleByInvalid(t *testing.T) {
	for _, v := range [][]impl.Rat{nil, {}, vector("0"), vector("1"), vector("0 0 0"), vector("3 -1/2 0"), copies(40, fraction(plus(1), 1))} {
		for _, bad := range invalidRats() {
			wantVec(t, "VecScale", impl.VecScale(v, bad), nil, v, bad)
		}
	}
}

// VecEqual compares lists of any length and with any elements, also those that are not vectors.
func TestVecEqual(t *testing.T) {
	values := [][]impl.Rat{
		nil, vector("0"), vector("1"), vector("-1"), vector("1/2"), vector("0 0"), vector("1 2"), vector("2 1"), vector("1 2 3"), vector("1 2 4"), vector("0 2 3"), vector("1 -2 3"), vector("1 1/2 3"),
		{{}}, {{}, {}}, {fraction(plus(2), 4)}, {fraction(plus(1), 1), fraction(plus(2), 2)}, {fraction(minus(), 1)}, {fraction(plus(0), 1)}, {fraction(plus(-1), 1)}, {fraction(plus(limbs(25, 1)...), 1)},
		{fraction(plus(1), 1), {}, fraction(plus(3), 1)}, copies(40, fraction(plus(1), 1)), copies(41, fraction(plus(1), 1)), copies(42, fraction(plus(1), 1)), copies(41, impl.Rat{}), copies(1000, fraction(minus(1), 3)),
		withElement(copies(41, fraction(plus(1), 1)), 40, fraction(plus(2), 1)), withElement(copies(41, fraction(plus(1), 1)), 0, fraction(minus(1), 1)), withElement(copies(1000, fraction(minus(1), 3)), 500, impl.Rat{}),
	}
	for i, v := range values {
		for j, w := range values {
			var other []impl.Rat
			for _, r := range w {
				other = append(other, fraction(impl.BigInt{Neg: r.Num.Neg, Mag: slices.Clone(r.Num.Mag)}, slices.Clone(r.Den)...))
			}
			if got := impl.VecEqual(v, other); got != (i == j) {
				t.Errorf("VecEqual(%v, %v) = %v", v, other, got)
			}
		}
	}
	if !impl.VecEqual([]impl.Rat{{Num: impl.BigInt{Mag: []int{}}, Den: []int{1}}}, []impl.Rat{{Den: []int{1}}}) {
		t.Error("elements with a nil slice and with an empty one are not equal")
	}
}

func TestVecEqualLooksAtEveryElement(t *testing.T) {
	for _, n := range []int{1, 2, 3, 40, 41} {
		v := copies(n, fraction(plus(5), 3))
		for i := range v {
			for _, r := range []impl.Rat{fraction(minus(5), 3), fraction(plus(5), 2), fraction(plus(5), 1), fraction(plus(10), 6), {}} {
				if w := withElement(v, i, r); impl.VecEqual(v, w) || impl.VecEqual(w, v) || !impl.VecEqual(w, slices.Clone(w)) {
					t.Fatalf("VecEqual of %d elements that differ at %d is wrong", n, i)
				}
			}
		}
	}
}

func TestVecArgMin(t *testing.T) {
	cases := []struct {
		v    string
		want int
	}{
		{"", -1}, {"0", 0}, {"-7/3", 0}, {"0 0", 0}, {"1 0", 1}, {"0 1", 0}, {"1 1 1", 0}, {"2 1 1", 1}, {"2 1 3 1 1", 1}, {"3 2 1", 2}, {"1 2 1", 0}, {"-1 -2 -3", 2}, {"-3 -2 -1", 0}, {"-3 2 -3", 0},
		{"1/2 1/3 2/3", 1}, {"1/3 1/2 1/3", 0}, {"-1/2 -1/3 -2/3", 2}, {"1 1/2 -3", 2}, {"0 -1/1000000000 0", 1}, {"1/1000000000 0 1/1000000000", 1}, {"1000000000 999999999 1000000001", 1}, {"-1000000000 -999999999 -1000000001", 2},
		{"1/999999999999 1/1000000000000 1/999999999999", 1}, {"0 0 0 0 -1 -1", 4}, {"5 4 4 5 3 3 4 3", 4},
	}
	for _, c := range cases {
		if got := impl.VecArgMin(vector(c.v)); got != c.want {
			t.Errorf("VecArgMin of %s = %d, want %d", c.v, got, c.want)
		}
	}
	long := []impl.Rat{greatest(), fraction(plus(1), limbs(24, top)...), fraction(minus(1), limbs(24, top)...), smallest(), smallest(), greatest()}
	for n, want := range []int{-1, 0, 1, 2, 3, 3, 3} {
		if got := impl.VecArgMin(long[:n]); got != want {
			t.Errorf("VecArgMin of the first %d = %d, want %d", n, got, want)
		}
	}
}

func TestVecArgMinAtEveryPlace(t *testing.T) {
	for n := 1; n <= 40; n++ {
		v := copies(n, fraction(minus(1), 2))
		for i := range n {
			w := withElement(v, i, fraction(minus(2), 3))
			if got := impl.VecArgMin(w); got != i {
				t.Fatalf("VecArgMin of %d elements, the smallest at %d, = %d", n, i, got)
			}
			for j := i + 1; j < n; j += 5 {
				if got := impl.VecArgMin(withElement(w, j, fraction(minus(2), 3))); got != i {
					t.Fatalf("VecArgMin of %d elements, the smallest at %d and %d, = %d", n, i, j, got)
				}
			}
		}
	}
}

func TestFormatVec(t *testing.T) {
	digits := strings.Repeat("9", 216)
	cases := []string{
		"0", "1", "-1", "1/2", "-1/2", "0 0", "1 2 3", "-1 -2 -3", "1 1/2 -3", "-7/3 0 7/3", "1000000000 -1/1000000000", "-9223372036854775808 9223372036854775807", "1/2 1/2 1/2", digits + " -" + digits, "1/" + digits + " -1/" + digits + " 0",
		strings.Repeat("0 ", 39) + "0", strings.Repeat("-12/5 ", 39) + "8", strings.Repeat(digits+" ", 39) + "-1/" + digits,
	}
	for _, s := range cases {
		if got := impl.FormatVec(vector(s)); got != s {
			t.Errorf("FormatVec of %q = %q", s, got)
		}
		if got, ok := impl.ParseVec(s); !ok || !sameVec(got, vector(s)) {
			t.Errorf("ParseVec(%q) = %v, %v", s, got, ok)
		}
	}
	if got, ok := impl.ParseVec("-"); !ok || len(got) != 0 {
		t.Errorf("ParseVec of - = %v, %v", got, ok)
	}
}

func TestP12VecsAreRecovered(t *testing.T) {
	random := rand.New(rand.NewSource(19))
	for n := range 41 {
		for range 10 {
			for _, v := range [][]impl.Rat{smallVec(random, n), randomVec(random, n, 2), randomVec(random, n, 24)} {
				s := impl.FormatVec(v)
				if got, ok := impl.ParseVec(s); !ok || !sameVec(got, v) {
					t.Fatalf("ParseVec(%q) = %v, %v", s, got, ok)
				}
			}
		}
	}
}

func TestParseVecOfEveryLength(t *testing.T) {
	for n := 1; n < 100; n++ {
		for _, text := range []string{"0", "-1/2", strings.Repeat("9", 216)} {
			s := strings.Repeat(" "+text, n)[1:]
			var want []impl.Rat
			if n <= 40 {
				want = vector(s)
			}
			if got, ok := impl.ParseVec(s); ok != (n <= 40) || !sameVec(got, want) {
				t.Errorf("ParseVec of %d times %s = %v, %v", n, text, got, ok)
			}
		}
	}
}

func TestParseVecInvalid(t *testing.T) {
	cases := []string{
		"", " ", "  ", "--", "- ", " -", "- -", "-\n", "- 1", "1 -", "1 - 2", "1  2", "1   2", "1 2  3", " 1", "1 ", " 1 2", "1 2 ", " 1 2 ", "1 2\n", "\n1 2", "1\n2", "1\t2", "1,2", "1, 2", "1;2", "[1 2]", "(1 2)",
		"2/4", "1 2/4", "2/4 1", "1 2 4/2", "1/1", "1 3/1 2", "0/1", "1 0/5", "1 1/0", "0/0 0", "-0", "1 -0", "-0 1", "00", "1 01", "01 1", "1 -01", "1/02 1", "1 1/-2", "+1", "1 +1", "1 1/+2", "a", "1 a", "a 1", "1 a 2", "1/2/3 1", "1 //", "1 1/", "1 /2",
		"1 2 3.5", "1e3 1", "0x1", "1\u00a02", "1\u20032", "\u2212", "\u2013", "\u22121 2", "\u00bd 1", "1 2\x00", "\x00", "\xff", "1 \xff", "nil", "[]", "0 0 ?",
		strings.Repeat("0 ", 40), " " + strings.Repeat("0 ", 39) + "0", strings.Repeat("0 ", 40) + "0", strings.Repeat("0 ", 39) + " 0", strings.Repeat("0 ", 39) + "2/4", "2/4 " + strings.Repeat("0 ", 38) + "0",
		strings.Repeat("9", 217), "1 " + strings.Repeat("9", 217), "1 1/1" + strings.Repeat("0", 216) + " 2", strings.Repeat(" ", 39), strings.Repeat(" ", 40), strings.Repeat(" ", 200000), strings.Repeat("1 ", 200000), strings.Repeat("1", 200000), strings.Repeat("-", 200000),
	}
	for _, s := range cases {
		if v, ok := impl.ParseVec(s); ok || len(v) != 0 {
			t.Errorf("ParseVec(%q) = %v, %v", s, v, ok)
		}
	}
}

func TestParseVecLooksAtEveryElement(t *testing.T) {
	for _, n := range []int{1, 2, 3, 40} {
		for i := range n {
			for _, bad := range []string{"", "-", "2/4", "1/1", "-0", "01", "x", strings.Repeat("9", 217)} {
				parts := slices.Repeat([]string{"7/2"}, n)
				parts[i] = bad
				s := strings.Join(parts, " ")
				// A single "-" is the empty vector.
				if v, ok := impl.ParseVec(s); ok != (s == "-") || len(v) != 0 {
					t.Fatalf("ParseVec(%q) = %v, %v", s, v, ok)
				}
			}
		}
	}
}

func TestParseVecAcceptsOnlyFormattedVecs(t *testing.T) {
	for _, s := range textsUpTo(6, "024-/ ") {
		var want []impl.Rat
		isText := true
		for _, part := range strings.Split(s, " ") {
			r, ok := impl.ParseRat(part)
			isText = isText && ok
			want = append(want, r)
		}
		if !isText {
			want = nil
		}
		if got, ok := impl.ParseVec(s); ok != (isText || s == "-") || !sameVec(got, want) {
			t.Errorf("ParseVec(%q) = %v, %v", s, got, ok)
		}
	}
}

// vecCalls calls every function of the chapter, and returns the vectors it gets.
func vecCalls(v []impl.Rat, w []impl.Rat, r impl.Rat) map[string][]impl.Rat {
	impl.VecOk(v)
	impl.VecEqual(v, w)
	parsed, _ := impl.ParseVec(impl.FormatVec(v))
	least := impl.VecArgMin(v)
	return map[string][]impl.Rat{
		"VecAdd": impl.VecAdd(v, w), "VecSub": impl.VecSub(v, w), "VecScale": impl.VecScale(v, r), "VecDot": {impl.VecDot(v, w)}, "ParseVec": parsed,
		"VecZero": impl.VecZero(len(v)), "VecUnit": impl.VecUnit(len(v), least), "VecAdd of a vector and itself": impl.VecAdd(v, v), "VecSub of a vector and itself": impl.VecSub(v, v),
	}
}

// vecParts returns the slices of all elements, each under the name of its vector, its index and its field.
func vecParts(vecs map[string][]impl.Rat) map[string][]int {
	rats := map[string]impl.Rat{}
	for name, v := range vecs {
		for i, r := range v {
			rats[fmt.Sprintf("%s[%d]", name, i)] = r
		}
	}
	return ratParts(rats)
}

// guardedVec returns a vector whose elements lie in guarded arrays, and which has another fraction behind its end.
func guardedVec(v []impl.Rat) ([]impl.Rat, []guarded) {
	var out []impl.Rat
	var guards []guarded
	for _, r := range append(slices.Clone(v), fraction(plus(5), 6)) {
		num, den := guard(r.Num.Mag, 11, 12), guard(r.Den, 21, 22)
		guards = append(guards, num, den)
		out = append(out, impl.Rat{Num: impl.BigInt{Neg: r.Num.Neg, Mag: num.list}, Den: den.list})
	}
	return out[:len(v)], guards
}

func TestVecArgumentsStayAndResultsAreNew(t *testing.T) {
	vecs := [][]impl.Rat{
		nil, vector("0"), vector("-3/2"), vector("1 0 -1"), vector("1/2 1000000000 1"), vector("0 0 0"), vector("-1/1000000001 7 -1000000007/2"), {greatest(), smallest(), fraction(plus(1), limbs(24, top)...)},
		{fraction(plus(1), 1), {}, fraction(plus(2), 4)}, {fraction(plus(7), 1), fraction(plus(0), 1), fraction(minus(1), -1)},
	}
	for _, v := range vecs {
		for _, w := range vecs {
			for _, r := range []impl.Rat{fraction(plus(), 1), fraction(plus(1), 1), fraction(minus(2), 3), {}} {
				checkVecMemory(t, v, w, r)
			}
		}
	}
}

func checkVecMemory(t *testing.T, v []impl.Rat, w []impl.Rat, r impl.Rat) {
	t.Helper()
	first, guards := guardedVec(v)
	second, more := guardedVec(w)
	scalar, most := guardedVec([]impl.Rat{r})
	guards = slices.Concat(guards, more, most)
	results, wanted := vecCalls(first, second, scalar[0]), vecCalls(v, w, r)
	got, want := vecParts(results), vecParts(wanted)
	checkPartsAreNew(t, got, want, guards)
	for name, result := range results {
		for i := range result[:cap(result)] {
			result[:cap(result)][i] = fraction(plus(123), 7)
		}
		behind := fraction(plus(5), 6)
		if !sameVec(first[:len(v)+1], append(slices.Clone(v), behind)) || !sameVec(second[:len(w)+1], append(slices.Clone(w), behind)) {
			t.Fatalf("%v or %v was changed, or %s shares memory with it", v, w, name)
		}
	}
}
