package tests

import (
	"math/big"
	"math/rand"
	"slices"
	"testing"

	"loop.example/g00802/impl"
)

// greatest and smallest return the fractions at the ends of what is valid.
func greatest() impl.Rat { return fraction(plus(limbs(24, top)...), 1) }

func smallest() impl.Rat { return fraction(minus(limbs(24, top)...), 1) }

func parsedRat(t *testing.T, s string) impl.Rat {
	t.Helper()
	r, ok := impl.ParseRat(s)
	if !ok {
		t.Fatalf("ParseRat(%q) fails", s)
	}
	return r
}

func integerOf(value *big.Int) impl.Rat { return ratOf(new(big.Rat).SetInt(value)) }

func bigFloor(value *big.Rat) *big.Int {
	// Div rounds down, because the denominator is positive.
	return new(big.Int).Div(value.Num(), value.Denom())
}

func bigCeil(value *big.Rat) *big.Int {
	floor := bigFloor(new(big.Rat).Neg(value))
	return floor.Neg(floor)
}

// roundSamples adds fractions near integers and near halves.
func roundSamples() []impl.Rat {
	out := ratSamples()
	out = append(out, reducedRats([][]int{nil, {1}, {2}, {3}, {5}, {7}, {8}, {11}}, [][]int{{1}, {2}, {3}, {4}, {5}, {8}})...)
	return append(out, reducedRats([][]int{{top}, limbs(23, top), limbs(24, top)}, [][]int{{2}, {4}, {0, 2}, append(limbs(23, 1), 2)})...)
}

// checkRounding compares all roundings of a fraction with math/big.
func checkRounding(t *testing.T, r impl.Rat) {
	t.Helper()
	value := ratValue(r)
	floor := bigFloor(value)
	wantRat(t, "RatFloor", impl.RatFloor(r), integerOf(floor), r, nil)
	wantRat(t, "RatCeil", impl.RatCeil(r), integerOf(bigCeil(value)), r, nil)
	wantRat(t, "RatFrac", impl.RatFrac(r), ratOf(new(big.Rat).Sub(value, new(big.Rat).SetInt(floor))), r, nil)
	if got := impl.RatIsInt(r); got != value.IsInt() {
		t.Fatalf("RatIsInt(%v) = %v", r, got)
	}
	nearest, distance := impl.Rat{}, impl.Rat{}
	if sum := new(big.Rat).Add(value, big.NewRat(1, 2)); !isZeroRat(ratOf(sum)) {
		nearest = integerOf(bigFloor(sum))
		difference := new(big.Rat).Sub(value, new(big.Rat).SetInt(bigFloor(sum)))
		distance = ratOf(difference.Abs(difference))
	}
	wantRat(t, "RatNearest", impl.RatNearest(r), nearest, r, nil)
	wantRat(t, "RatDistance", impl.RatDistance(r), distance, r, nil)
}

func TestP1Roundings(t *testing.T) {
	for _, r := range roundSamples() {
		checkRounding(t, r)
	}
	random := rand.New(rand.NewSource(12))
	for range 2000 {
		checkRounding(t, randomRat(random, 2))
		checkRounding(t, randomRat(random, 24))
	}
}

func TestP1RoundingChangesByLessThanOne(t *testing.T) {
	samples := roundSamples()
	random := rand.New(rand.NewSource(13))
	for range 500 {
		samples = append(samples, randomRat(random, 3), randomRat(random, 24))
	}
	for _, r := range samples {
		checkRoundingLaws(t, r)
	}
}

func checkRoundingLaws(t *testing.T, r impl.Rat) {
	t.Helper()
	one, half := fraction(plus(1), 1), fraction(plus(1), 2)
	floor, ceil, rest, isInt := impl.RatFloor(r), impl.RatCeil(r), impl.RatFrac(r), impl.RatIsInt(r)
	laws := map[string]bool{
		"floor and ceil are integers":     impl.RatIsInt(floor) && impl.RatIsInt(ceil),
		"floor <= r <= ceil":              impl.RatCmp(floor, r) <= 0 && impl.RatCmp(r, ceil) <= 0,
		"r - floor < 1, ceil - r < 1":     impl.RatCmp(impl.RatSub(r, floor), one) < 0 && impl.RatCmp(impl.RatSub(ceil, r), one) < 0,
		"0 <= frac < 1, floor + frac = r": impl.RatSign(rest) >= 0 && impl.RatCmp(rest, one) < 0 && sameRat(impl.RatAdd(floor, rest), r),
		"an integer is its own rounding":  sameRat(floor, r) == isInt && sameRat(ceil, r) == isInt && (impl.RatSign(rest) == 0) == isInt,
		"rounding twice changes nothing":  sameRat(impl.RatFloor(ceil), ceil) && sameRat(impl.RatCeil(floor), floor),
		"ceil - floor = 1 if not integer": sameRat(impl.RatSub(ceil, floor), one) == !isInt,
		"floor of -r is -ceil":            sameRat(impl.RatFloor(impl.RatNeg(r)), impl.RatNeg(ceil)),
	}
	if nearest, distance := impl.RatNearest(r), impl.RatDistance(r); impl.RatOk(nearest) {
		laws["nearest is floor or ceil"] = sameRat(nearest, floor) || sameRat(nearest, ceil)
		laws["0 <= distance <= 1/2"] = impl.RatSign(distance) >= 0 && impl.RatCmp(distance, half) <= 0
		laws["r + distance or r - distance is nearest"] = sameRat(impl.RatAdd(nearest, distance), r) || sameRat(impl.RatSub(nearest, distance), r)
		laws["the greater of two that are near"] = impl.RatCmp(distance, half) != 0 || sameRat(nearest, ceil)
	} else {
		laws["a nearest that fails makes distance fail"] = isZeroRat(nearest) && isZeroRat(distance)
	}
	for law, holds := range laws {
		if !holds {
			t.Fatalf("%s: does not hold for r = %v", law, r)
		}
	}
}

func TestRoundingEdges(t *testing.T) {
	cases := []struct{ r, floor, ceil, frac, nearest, distance string }{
		{"0", "0", "0", "0", "0", "0"}, {"1", "1", "1", "0", "1", "0"}, {"-1", "-1", "-1", "0", "-1", "0"}, {"7", "7", "7", "0", "7", "0"}, {"-7", "-7", "-7", "0", "-7", "0"},
		{"1/2", "0", "1", "1/2", "1", "1/2"}, {"-1/2", "-1", "0", "1/2", "0", "1/2"}, {"3/2", "1", "2", "1/2", "2", "1/2"}, {"-3/2", "-2", "-1", "1/2", "-1", "1/2"},
		{"5/2", "2", "3", "1/2", "3", "1/2"}, {"-5/2", "-3", "-2", "1/2", "-2", "1/2"}, {"7/2", "3", "4", "1/2", "4", "1/2"}, {"-7/2", "-4", "-3", "1/2", "-3", "1/2"},
		{"1/3", "0", "1", "1/3", "0", "1/3"}, {"-1/3", "-1", "0", "2/3", "0", "1/3"}, {"2/3", "0", "1", "2/3", "1", "1/3"}, {"-2/3", "-1", "0", "1/3", "-1", "1/3"},
		{"7/3", "2", "3", "1/3", "2", "1/3"}, {"-7/3", "-3", "-2", "2/3", "-2", "1/3"}, {"8/3", "2", "3", "2/3", "3", "1/3"}, {"-8/3", "-3", "-2", "1/3", "-3", "1/3"},
		{"999999999", "999999999", "999999999", "0", "999999999", "0"}, {"-1000000000", "-1000000000", "-1000000000", "0", "-1000000000", "0"},
		{"999999999/2", "499999999", "500000000", "1/2", "500000000", "1/2"}, {"-999999999/2", "-500000000", "-499999999", "1/2", "-499999999", "1/2"},
		{"1999999999/2", "999999999", "1000000000", "1/2", "1000000000", "1/2"}, {"-1999999999/2", "-1000000000", "-999999999", "1/2", "-999999999", "1/2"},
		{"499999999/1000000000", "0", "1", "499999999/1000000000", "0", "499999999/1000000000"}, {"500000001/1000000000", "0", "1", "500000001/1000000000", "1", "499999999/1000000000"},
		{"-499999999/1000000000", "-1", "0", "500000001/1000000000", "0", "499999999/1000000000"}, {"-500000001/1000000000", "-1", "0", "499999999/1000000000", "-1", "499999999/1000000000"},
	}
	for _, c := range cases {
		r := parsedRat(t, c.r)
		got := []string{impl.FormatRat(impl.RatFloor(r)), impl.FormatRat(impl.RatCeil(r)), impl.FormatRat(impl.RatFrac(r)), impl.FormatRat(impl.RatNearest(r)), impl.FormatRat(impl.RatDistance(r))}
		if want := []string{c.floor, c.ceil, c.frac, c.nearest, c.distance}; !slices.Equal(got, want) {
			t.Errorf("floor, ceil, frac, nearest and distance of %s = %q, want %q", c.r, got, want)
		}
		if got := impl.RatIsInt(r); got != (c.frac == "0") {
			t.Errorf("RatIsInt(%s) = %v", c.r, got)
		}
	}
}

// The sum of r and 1/2 decides whether RatNearest fails: one that is valid has up to 24 limbs without the common divisor.
func TestRoundingLimits(t *testing.T) {
	none, zero, one, half := impl.Rat{}, fraction(plus(), 1), fraction(plus(1), 1), fraction(plus(1), 2)
	above, below := fraction(plus(append(limbs(23, 0), impl.Base/2)...), 1), fraction(plus(append(limbs(23, top), impl.Base/2-1)...), 1)
	tiny, nearOne := fraction(plus(1), limbs(24, top)...), fraction(plus(append([]int{top - 1}, limbs(23, top)...)...), limbs(24, top)...)
	even := fraction(plus(1), append(limbs(23, 0), impl.Base/2)...)
	cases := []struct{ r, floor, ceil, frac, nearest, distance impl.Rat }{
		// The numerator of the sum has 25 limbs.
		{greatest(), greatest(), greatest(), zero, none, none},
		{smallest(), smallest(), smallest(), zero, none, none},
		{above, above, above, zero, none, none},
		{fraction(plus(limbs(24, top)...), power(23)...), fraction(plus(top), 1), fraction(plus(0, 1), 1), fraction(plus(limbs(23, top)...), power(23)...), none, none},
		// The denominator of the sum has 25 limbs.
		{tiny, zero, one, tiny, none, none},
		{nearOne, zero, one, nearOne, none, none},
		{impl.RatNeg(tiny), fraction(minus(1), 1), zero, nearOne, none, none},
		// They have 25 limbs before the common divisor is removed, and 24 after.
		{fraction(plus(limbs(24, top)...), 2), below, above, half, above, half},
		{fraction(minus(limbs(24, top)...), 2), impl.RatNeg(above), impl.RatNeg(below), half, impl.RatNeg(below), half},
		{even, zero, one, even, zero, even},
		// They have 24 limbs at most.
		{below, below, below, zero, below, zero},
		{impl.RatNeg(above), impl.RatNeg(above), impl.RatNeg(above), zero, impl.RatNeg(above), zero},
		{fraction(minus(limbs(24, top)...), power(23)...), fraction(minus(0, 1), 1), fraction(minus(top), 1), fraction(plus(1), power(23)...), fraction(minus(0, 1), 1), fraction(plus(1), power(23)...)},
	}
	for _, c := range cases {
		wantRat(t, "RatFloor", impl.RatFloor(c.r), c.floor, c.r, nil)
		wantRat(t, "RatCeil", impl.RatCeil(c.r), c.ceil, c.r, nil)
		wantRat(t, "RatFrac", impl.RatFrac(c.r), c.frac, c.r, nil)
		wantRat(t, "RatNearest", impl.RatNearest(c.r), c.nearest, c.r, nil)
		wantRat(t, "RatDistance", impl.RatDistance(c.r), c.distance, c.r, nil)
	}
}

func TestRoundingInvalidArguments(t *testing.T) {
	ofOne := map[string]func(r impl.Rat) impl.Rat{
		"RatFloor": impl.RatFloor, "RatCeil": impl.RatCeil, "RatFrac": impl.RatFrac, "RatNearest": impl.RatNearest, "RatDistance": impl.RatDistance,
	}
	ofTwo := map[string]func(lo impl.Rat, hi impl.Rat) impl.Rat{"SimplestBetween": impl.SimplestBetween, "CountInts": impl.CountInts}
	others := append(invalidRats(), fraction(plus(), 1), fraction(plus(1), 1), fraction(minus(1), 1), fraction(minus(7), 3), greatest(), smallest())
	for _, bad := range invalidRats() {
		for name, operation := range ofOne {
			if got := operation(bad); !isZeroRat(got) {
				t.Errorf("%s(%v) = %v", name, bad, got)
			}
		}
		if impl.RatIsInt(bad) {
			t.Errorf("RatIsInt(%v) = true", bad)
		}
		for _, other := range others {
			for name, operation := range ofTwo {
				if got, turned := operation(bad, other), operation(other, bad); !isZeroRat(got) || !isZeroRat(turned) {
					t.Errorf("%s of %v and %v = %v, turned %v", name, bad, other, got, turned)
				}
			}
		}
	}
}

func TestListsWithInvalidFractions(t *testing.T) {
	valid := [][]impl.Rat{
		nil, {fraction(plus(), 1)}, {fraction(plus(1), 2)}, {fraction(minus(3), 4), fraction(plus(6), 1)}, {fraction(plus(), 1), fraction(plus(), 1), fraction(plus(), 1)},
		{fraction(plus(1), power(23)...), fraction(plus(1), 1, 1)}, slices.Repeat([]impl.Rat{fraction(plus(4), 3)}, 50),
	}
	for _, bad := range invalidRats() {
		for _, others := range valid {
			for i := range len(others) + 1 {
				l := slices.Insert(slices.Clone(others), i, bad)
				if common, divisor := impl.CommonDenominator(l), impl.NumeratorGcd(l); len(common) != 0 || len(divisor) != 0 {
					t.Fatalf("CommonDenominator of %v = %v, NumeratorGcd = %v", l, common, divisor)
				}
			}
		}
	}
}

// checkList compares both functions of a list with math/big.
func checkList(t *testing.T, l ...impl.Rat) {
	t.Helper()
	common, divisor := big.NewInt(1), new(big.Int)
	for _, r := range l {
		den := bigOf(r.Den)
		common.Div(common, new(big.Int).GCD(nil, nil, common, den)).Mul(common, den)
	}
	for _, r := range l {
		product := new(big.Rat).Mul(ratValue(r), new(big.Rat).SetInt(common))
		divisor.GCD(nil, nil, divisor, product.Num())
	}
	if common.Cmp(bigOf(power(24))) >= 0 {
		common, divisor = new(big.Int), new(big.Int)
	}
	if got := impl.CommonDenominator(l); !slices.Equal(got, limbsOf(common)) {
		t.Fatalf("CommonDenominator(%v) = %v, want %v", l, got, limbsOf(common))
	}
	if got := impl.NumeratorGcd(l); !slices.Equal(got, limbsOf(divisor)) {
		t.Fatalf("NumeratorGcd(%v) = %v, want %v", l, got, limbsOf(divisor))
	}
}

func TestLists(t *testing.T) {
	samples := roundSamples()
	for i, r := range samples {
		checkList(t, r)
		for _, s := range samples[i:] {
			checkList(t, r, s)
		}
	}
	random := rand.New(rand.NewSource(14))
	for n := range 400 {
		var scaled, small []impl.Rat
		factor := randomRat(random, 4)
		for range n % 90 {
			scaled = append(scaled, impl.RatMul(factor, ratOfInts(random.Intn(4001)-2000, random.Intn(60)+1)))
			small = append(small, ratOfInts(6*random.Intn(50), random.Intn(12)+1))
		}
		checkList(t, scaled...)
		checkList(t, small...)
		checkList(t, randomRat(random, 8), randomRat(random, 8), randomRat(random, 8))
		checkList(t, randomRat(random, 9), randomRat(random, 9), randomRat(random, 9))
	}
}

func TestListEdges(t *testing.T) {
	zero, longest := fraction(plus(), 1), limbs(24, top)
	cases := []struct {
		l               []impl.Rat
		common, divisor []int
	}{
		{nil, []int{1}, nil},
		{[]impl.Rat{}, []int{1}, nil},
		{[]impl.Rat{zero}, []int{1}, nil},
		{slices.Repeat([]impl.Rat{zero}, 500), []int{1}, nil},
		{[]impl.Rat{fraction(plus(1), 1)}, []int{1}, []int{1}},
		{[]impl.Rat{fraction(minus(6), 1), fraction(plus(4), 1)}, []int{1}, []int{2}},
		{[]impl.Rat{fraction(plus(6), 1), zero, fraction(minus(9), 1)}, []int{1}, []int{3}},
		{[]impl.Rat{zero, fraction(minus(7), 1)}, []int{1}, []int{7}},
		{[]impl.Rat{fraction(minus(7), 3)}, []int{3}, []int{7}},
		{[]impl.Rat{fraction(plus(4), 3), fraction(plus(2), 1)}, []int{3}, []int{2}},
		{[]impl.Rat{fraction(plus(1), 2), fraction(plus(3), 4)}, []int{4}, []int{1}},
		{[]impl.Rat{fraction(plus(3), 2), fraction(minus(9), 4)}, []int{4}, []int{3}},
		{[]impl.Rat{zero, fraction(plus(5), 6), fraction(plus(5), 4)}, []int{12}, []int{5}},
		{[]impl.Rat{fraction(plus(2), 3), fraction(plus(3), 2)}, []int{6}, []int{1}},
		{[]impl.Rat{fraction(plus(10), 3), fraction(plus(14), 5), fraction(minus(6), 7)}, []int{105}, []int{2}},
		{slices.Repeat([]impl.Rat{fraction(plus(15), 4), fraction(minus(10), 3)}, 400), []int{12}, []int{5}},
		{[]impl.Rat{greatest(), smallest()}, []int{1}, longest},
		{[]impl.Rat{fraction(plus(1), longest...)}, longest, []int{1}},
		{[]impl.Rat{fraction(plus(1), longest...), fraction(minus(2), longest...), fraction(plus(5), 3), greatest()}, longest, []int{1}},
		// 24 limbs from shorter denominators, and 25.
		{[]impl.Rat{fraction(plus(17), power(12)...), fraction(minus(34), limbs(12, top)...)}, append(limbs(12, 0), limbs(12, top)...), []int{17}},
		{[]impl.Rat{fraction(plus(17), power(12)...), fraction(minus(34), limbs(13, top)...)}, nil, nil},
		{[]impl.Rat{fraction(plus(1), power(23)...), fraction(plus(1), top)}, append(limbs(23, 0), top), []int{1}},
		{[]impl.Rat{fraction(plus(1), power(23)...), fraction(plus(1), 1, 1)}, nil, nil},
		{[]impl.Rat{fraction(plus(1), append(limbs(22, 0), impl.Base/2)...), fraction(plus(1), 1, 1)}, append(limbs(22, 0), impl.Base/2, impl.Base/2), []int{1}},
		{[]impl.Rat{fraction(plus(1), append(limbs(23, 0), impl.Base/2)...), fraction(plus(1), 2)}, append(limbs(23, 0), impl.Base/2), []int{1}},
		{[]impl.Rat{fraction(plus(17), longest...), fraction(plus(17), 2)}, nil, nil},
		{[]impl.Rat{fraction(plus(17), 2), fraction(plus(17), longest...), fraction(plus(17), 1), zero}, nil, nil},
		{append(slices.Repeat([]impl.Rat{zero}, 100), fraction(plus(1), longest...), fraction(plus(1), power(23)...)), nil, nil},
	}
	for _, c := range cases {
		if got := impl.CommonDenominator(c.l); !slices.Equal(got, c.common) {
			t.Errorf("CommonDenominator(%v) = %v, want %v", c.l, got, c.common)
		}
		if got := impl.NumeratorGcd(c.l); !slices.Equal(got, c.divisor) {
			t.Errorf("NumeratorGcd(%v) = %v, want %v", c.l, got, c.divisor)
		}
	}
}

// triedSimplest finds the simplest fraction by trying one denominator after the other.
func triedSimplest(lo *big.Rat, hi *big.Rat) impl.Rat {
	if lo.Cmp(hi) > 0 {
		return impl.Rat{}
	}
	for den := int64(1); ; den++ {
		scale := new(big.Rat).SetInt64(den)
		first, last := bigCeil(new(big.Rat).Mul(lo, scale)), bigFloor(new(big.Rat).Mul(hi, scale))
		switch {
		case first.Cmp(last) > 0:
			continue
		case last.Sign() < 0:
			first = last
		case first.Sign() < 0:
			first.SetInt64(0)
		}
		return ratOf(new(big.Rat).SetFrac(first, big.NewInt(den)))
	}
}

func TestSimplestBetweenSmall(t *testing.T) {
	var values []impl.Rat
	for d := 1; d <= 9; d++ {
		for n := -3 * d; n <= 3*d; n++ {
			values = append(values, ratOfInts(n, d))
		}
	}
	for _, lo := range values {
		for _, hi := range values {
			wantRat(t, "SimplestBetween", impl.SimplestBetween(lo, hi), triedSimplest(ratValue(lo), ratValue(hi)), lo, hi)
		}
	}
}

// isSimplest proves that no fraction from lo to hi is simpler than one of them. Between its two neighbours, whose
// denominators add up to its own, there is no other fraction whose denominator is as small.
func isSimplest(value *big.Rat, lo *big.Rat, hi *big.Rat) bool {
	one, num, den := big.NewInt(1), value.Num(), value.Denom()
	if value.Cmp(lo) < 0 || value.Cmp(hi) > 0 {
		return false
	}
	if value.IsInt() {
		nearer := new(big.Rat).Sub(value, big.NewRat(int64(value.Sign()), 1))
		return value.Sign() == 0 || nearer.Cmp(lo) < 0 || nearer.Cmp(hi) > 0
	}
	leftDen := new(big.Int).ModInverse(num, den)
	leftNum := new(big.Int).Mul(num, leftDen)
	leftNum.Sub(leftNum, one).Div(leftNum, den)
	left := new(big.Rat).SetFrac(leftNum, leftDen)
	right := new(big.Rat).SetFrac(new(big.Int).Sub(num, leftNum), new(big.Int).Sub(den, leftDen))
	return left.Cmp(lo) < 0 && right.Cmp(hi) > 0
}

func checkSimplest(t *testing.T, lo impl.Rat, hi impl.Rat) {
	t.Helper()
	got := impl.SimplestBetween(lo, hi)
	if ratValue(lo).Cmp(ratValue(hi)) > 0 {
		wantRat(t, "SimplestBetween", got, impl.Rat{}, lo, hi)
		return
	}
	if !impl.RatOk(got) || !isSimplest(ratValue(got), ratValue(lo), ratValue(hi)) {
		t.Fatalf("SimplestBetween(%v, %v) = %v", lo, hi, got)
	}
}

// fibonacciQuotient returns the quotient of two Fibonacci numbers: no fraction of that size needs more steps.
func fibonacciQuotient(n int) impl.Rat {
	a, b := big.NewInt(0), big.NewInt(1)
	for range n {
		a, b = b, a.Add(a, b)
	}
	return ratOf(new(big.Rat).SetFrac(b, a))
}

func TestSimplestBetween(t *testing.T) {
	samples := roundSamples()
	for _, n := range []int{2, 3, 50, 51, 1028, 1029, 1030, 1031} {
		samples = append(samples, fibonacciQuotient(n), impl.RatNeg(fibonacciQuotient(n)))
	}
	for _, lo := range samples {
		for _, hi := range samples {
			checkSimplest(t, lo, hi)
		}
	}
	random := rand.New(rand.NewSource(15))
	for range 1500 {
		checkSimplest(t, randomRat(random, 2), randomRat(random, 2))
		lo, width := randomRat(random, 10), impl.RatMul(randomRat(random, 2), fraction(plus(1), power(10)...))
		checkSimplest(t, lo, impl.RatAdd(lo, width))
		value := ratValue(randomRat(random, 11))
		near := new(big.Rat).Add(value, new(big.Rat).SetFrac(big.NewInt(1), bigOf(power(2))))
		checkSimplest(t, ratOf(value), ratOf(near))
	}
}

func TestSimplestBetweenEdges(t *testing.T) {
	cases := []struct{ lo, hi, want string }{
		{"0", "0", "0"}, {"1", "1", "1"}, {"-5", "-5", "-5"}, {"7/3", "7/3", "7/3"}, {"-7/3", "-7/3", "-7/3"}, {"1/1000000000", "1/1000000000", "1/1000000000"},
		{"-1", "3", "0"}, {"-1/3", "1/2", "0"}, {"0", "1/2", "0"}, {"-1/2", "0", "0"}, {"0", "9", "0"}, {"-9", "0", "0"}, {"-1/1000000000", "1000000000", "0"},
		{"1", "9", "1"}, {"-9", "-1", "-1"}, {"1/2", "5", "1"}, {"-5", "-1/2", "-1"}, {"5/2", "9", "3"}, {"-9", "-5/2", "-3"}, {"2", "5/2", "2"}, {"5/2", "3", "3"}, {"-5/2", "-2", "-2"}, {"-3", "-5/2", "-3"},
		{"3/10", "1/2", "1/2"}, {"31/100", "7/20", "1/3"}, {"-7/20", "-31/100", "-1/3"}, {"1/3", "1/2", "1/2"}, {"1/3", "2/5", "1/3"}, {"3/8", "3/7", "2/5"}, {"-3/7", "-3/8", "-2/5"},
		{"1/3", "2/3", "1/2"}, {"1/5", "3/5", "1/2"}, {"11/5", "14/5", "5/2"}, {"-14/5", "-11/5", "-5/2"}, {"61/20", "37/12", "37/12"}, {"61/20", "40/13", "40/13"}, {"314/100", "315/100", "22/7"}, {"3141592/1000000", "3141593/1000000", "355/113"},
		{"1", "0", ""}, {"1/2", "1/3", ""}, {"-1/3", "-1/2", ""}, {"0", "-1", ""}, {"1/1000000000", "0", ""}, {"5", "-5", ""}, {"-1", "-2", ""},
	}
	for _, c := range cases {
		lo, _ := new(big.Rat).SetString(c.lo)
		hi, _ := new(big.Rat).SetString(c.hi)
		if got := impl.FormatRat(impl.SimplestBetween(ratOf(lo), ratOf(hi))); got != c.want {
			t.Errorf("SimplestBetween(%s, %s) = %q, want %q", c.lo, c.hi, got, c.want)
		}
	}
}

func TestSimplestBetweenLimits(t *testing.T) {
	below := fraction(plus(append([]int{top - 1}, limbs(23, top)...)...), 1)
	belowInverse := fraction(plus(1), below.Num.Mag...)
	cases := []struct{ lo, hi, want impl.Rat }{
		{greatest(), greatest(), greatest()}, {smallest(), smallest(), smallest()}, {smallest(), greatest(), fraction(plus(), 1)}, {greatest(), smallest(), impl.Rat{}},
		{below, greatest(), below}, {smallest(), impl.RatNeg(below), impl.RatNeg(below)}, {fraction(plus(1), limbs(24, top)...), belowInverse, belowInverse},
		{impl.RatNeg(belowInverse), fraction(minus(1), limbs(24, top)...), impl.RatNeg(belowInverse)}, {fraction(plus(1), limbs(24, top)...), greatest(), fraction(plus(1), 1)},
		{smallest(), fraction(minus(1), limbs(24, top)...), fraction(minus(1), 1)}, {fraction(plus(limbs(24, top)...), 2), fraction(plus(limbs(24, top)...), 2), fraction(plus(limbs(24, top)...), 2)},
		{fraction(plus(limbs(24, top)...), 2), greatest(), fraction(plus(append(limbs(23, 0), impl.Base/2)...), 1)},
	}
	for _, c := range cases {
		wantRat(t, "SimplestBetween", impl.SimplestBetween(c.lo, c.hi), c.want, c.lo, c.hi)
	}
}

// checkCount compares CountInts with math/big; the difference and the sum with 1 may be too large.
func checkCount(t *testing.T, lo impl.Rat, hi impl.Rat) {
	t.Helper()
	difference := new(big.Int).Sub(bigFloor(ratValue(hi)), bigCeil(ratValue(lo)))
	want := integerOf(difference)
	if impl.RatOk(want) {
		want = integerOf(difference.Add(difference, big.NewInt(1)))
	}
	if want.Num.Neg {
		want = fraction(plus(), 1)
	}
	wantRat(t, "CountInts", impl.CountInts(lo, hi), want, lo, hi)
}

func TestCountInts(t *testing.T) {
	samples := roundSamples()
	for _, lo := range samples {
		for _, hi := range samples {
			checkCount(t, lo, hi)
		}
	}
	random := rand.New(rand.NewSource(16))
	for range 2000 {
		checkCount(t, randomRat(random, 2), randomRat(random, 2))
	}
}

func TestCountIntsEdges(t *testing.T) {
	cases := []struct{ lo, hi, want string }{
		{"0", "0", "1"}, {"5", "5", "1"}, {"-5", "-5", "1"}, {"0", "9", "10"}, {"-3", "3", "7"}, {"-9", "-4", "6"}, {"1/2", "7/2", "3"}, {"-7/2", "-1/2", "3"}, {"-1/2", "1/2", "1"},
		{"1/2", "1", "1"}, {"1", "3/2", "1"}, {"-1", "-1/2", "1"}, {"-3/2", "-1", "1"}, {"1/2", "1/2", "0"}, {"-1/2", "-1/2", "0"}, {"1/3", "2/3", "0"}, {"-2/3", "-1/3", "0"}, {"7/3", "5/2", "0"},
		{"2", "1", "0"}, {"2/3", "1/3", "0"}, {"4/3", "2/3", "0"}, {"1", "-1", "0"}, {"9", "-9", "0"}, {"1/2", "-1/2", "0"}, {"1000000000", "-1000000000", "0"}, {"-1000000000", "1000000000", "2000000001"},
	}
	for _, c := range cases {
		if got := impl.FormatRat(impl.CountInts(parsedRat(t, c.lo), parsedRat(t, c.hi))); got != c.want {
			t.Errorf("CountInts(%s, %s) = %q, want %q", c.lo, c.hi, got, c.want)
		}
	}
}

func TestCountIntsLimits(t *testing.T) {
	none, zero, one, minusOne := impl.Rat{}, fraction(plus(), 1), fraction(plus(1), 1), fraction(minus(1), 1)
	below, half := fraction(plus(append([]int{top - 1}, limbs(23, top)...)...), 1), fraction(plus(append(limbs(23, 0), impl.Base/2)...), 1)
	cases := []struct{ lo, hi, want impl.Rat }{
		{one, greatest(), greatest()}, {zero, below, greatest()}, {smallest(), minusOne, greatest()}, {fraction(plus(1), 2), greatest(), greatest()},
		{fraction(minus(limbs(24, top)...), 2), fraction(plus(limbs(24, top)...), 2), greatest()},
		// The difference is valid, but not the sum with 1.
		{zero, greatest(), none}, {smallest(), zero, none}, {fraction(minus(1), 2), greatest(), none}, {impl.RatNeg(half), impl.RatSub(half, one), none},
		// The difference is not valid, also where the sum with 1 would be.
		{minusOne, greatest(), none}, {smallest(), greatest(), none}, {impl.RatNeg(half), half, none}, {greatest(), minusOne, none}, {one, smallest(), none}, {greatest(), smallest(), none},
		{greatest(), zero, zero}, {zero, smallest(), zero}, {greatest(), greatest(), one}, {smallest(), smallest(), one}, {greatest(), below, zero},
	}
	for _, c := range cases {
		wantRat(t, "CountInts", impl.CountInts(c.lo, c.hi), c.want, c.lo, c.hi)
	}
}

// roundParts calls every function of the chapter, and returns the slices of what it gets.
func roundParts(l []impl.Rat) map[string][]int {
	r, s := l[0], l[1]
	impl.RatIsInt(r)
	out := ratParts(map[string]impl.Rat{
		"RatFloor": impl.RatFloor(r), "RatCeil": impl.RatCeil(r), "RatFrac": impl.RatFrac(r), "RatNearest": impl.RatNearest(r), "RatDistance": impl.RatDistance(r),
		"SimplestBetween": impl.SimplestBetween(r, s), "SimplestBetween of equals": impl.SimplestBetween(r, r), "CountInts": impl.CountInts(r, s),
	})
	out["CommonDenominator"], out["NumeratorGcd"] = impl.CommonDenominator(l), impl.NumeratorGcd(l)
	out["CommonDenominator of one"], out["NumeratorGcd of one"] = impl.CommonDenominator(l[:1]), impl.NumeratorGcd(l[:1])
	return out
}

func TestRoundArgumentsStayAndResultsAreNew(t *testing.T) {
	rats := append(reducedRats([][]int{nil, {1}, {6}, {0, 1}, limbs(5, top), limbs(24, top)}, [][]int{{1}, {2}, {4, 2}, power(23)}), impl.Rat{}, fraction(plus(2), 4), fraction(plus(1), -1, 1))
	for _, r := range rats {
		for _, s := range rats {
			guards := []guarded{guard(r.Num.Mag, 11, 12), guard(r.Den, 21, 22), guard(s.Num.Mag, 31, 32), guard(s.Den, 41, 42)}
			first := impl.Rat{Num: impl.BigInt{Neg: r.Num.Neg, Mag: guards[0].list}, Den: guards[1].list}
			second := impl.Rat{Num: impl.BigInt{Neg: s.Num.Neg, Mag: guards[2].list}, Den: guards[3].list}
			array := []impl.Rat{first, second, fraction(plus(5), 6)}
			got, want := roundParts(array[:2]), roundParts([]impl.Rat{r, s})
			checkPartsAreNew(t, got, want, guards)
			if !slices.EqualFunc(array, []impl.Rat{r, s, fraction(plus(5), 6)}, sameRat) {
				t.Fatalf("the list %v, %v was changed to %v", r, s, array)
			}
		}
	}
}
