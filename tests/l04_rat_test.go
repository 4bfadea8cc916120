package tests

import (
	"math"
	"math/big"
	"math/rand"
	"slices"
	"strings"
	"testing"

	"loop.example/g00802/impl"
)

func fraction(num impl.BigInt, den ...int) impl.Rat { return impl.Rat{Num: num, Den: den} }

// ratOf returns the fraction of a value, or the zero value if it has too many limbs.
func ratOf(value *big.Rat) impl.Rat {
	num, den := wholeOf(value.Num()), limbsOf(value.Denom())
	isTooLarge := len(num.Mag) == 0 && value.Sign() != 0 || len(num.Mag) > 24 || len(den) == 0 || len(den) > 24
	if isTooLarge {
		return impl.Rat{}
	}
	return impl.Rat{Num: num, Den: den}
}

// ratValue needs a valid fraction.
func ratValue(r impl.Rat) *big.Rat { return new(big.Rat).SetFrac(valueOf(r.Num), bigOf(r.Den)) }

func ratOfInts(n int, d int) impl.Rat { return ratOf(big.NewRat(int64(n), int64(d))) }

func sameRat(r impl.Rat, s impl.Rat) bool {
	return sameWhole(r.Num, s.Num) && slices.Equal(r.Den, s.Den)
}

func isZeroRat(r impl.Rat) bool { return isZeroWhole(r.Num) && len(r.Den) == 0 }

func wantRat(t *testing.T, label string, got impl.Rat, want impl.Rat, r any, s any) {
	t.Helper()
	if !sameRat(got, want) {
		t.Fatalf("%s of %v and %v = %v, want %v", label, r, s, got, want)
	}
}

// reducedRats returns every valid fraction of these numerators, with both signs, and denominators.
func reducedRats(nums [][]int, dens [][]int) []impl.Rat {
	var out []impl.Rat
	for _, num := range withSigns(nums) {
		for _, den := range dens {
			if value := new(big.Rat).SetFrac(valueOf(num), bigOf(den)); value.Denom().Cmp(bigOf(den)) == 0 {
				out = append(out, fraction(num, den...))
			}
		}
	}
	return out
}

// ratSamples returns the fractions at which something changes, and some others.
func ratSamples() []impl.Rat {
	nums := [][]int{nil, {1}, {2}, {12}, {top}, {0, 1}, {854775808, 223372036, 9}, limbs(12, top), power(23), limbs(24, top)}
	dens := [][]int{{1}, {2}, {3}, {7, 1}, power(12), power(23), append([]int{7}, limbs(23, top)...), limbs(24, top)}
	out := reducedRats(nums, dens)
	r := rand.New(rand.NewSource(6))
	for range 12 {
		out = append(out, randomRat(r, 3), randomRat(r, 24))
	}
	return out
}

// randomRat returns a fraction whose numerator and denominator have at most the given number of limbs, which is at most MaxRat.
func randomRat(r *rand.Rand, most int) impl.Rat {
	den := randomNat(r, most)
	if len(den) == 0 {
		den = []int{1}
	}
	return ratOf(new(big.Rat).SetFrac(valueOf(randomWhole(r, most)), bigOf(den)))
}

// invalidRats returns values that are not fractions.
func invalidRats() []impl.Rat {
	out := []impl.Rat{
		{}, {Num: plus(), Den: []int{}}, fraction(plus(1)), fraction(minus(1)), fraction(plus(limbs(24, top)...)),
		fraction(plus(), 2), fraction(plus(), 5), fraction(plus(), top), fraction(plus(), 0, 1), fraction(plus(), limbs(24, top)...), fraction(minus(), 1), fraction(minus(), 2),
		fraction(plus(2), 2), fraction(minus(2), 2), fraction(plus(2), 4), fraction(minus(4), 2), fraction(plus(6), 9), fraction(plus(top), top), fraction(plus(top), 3),
		fraction(plus(0, 1), 2), fraction(plus(5), 0, 1), fraction(plus(0, 1), 0, 1), fraction(minus(0, 1), 0, 0, 1), fraction(plus(power(23)...), power(20)...),
		fraction(plus(limbs(24, top)...), limbs(24, top)...), fraction(minus(limbs(24, top)...), limbs(12, top)...), fraction(plus(limbs(12, 1)...), limbs(24, 1)...),
		fraction(plus(limbs(25, top)...), 1), fraction(minus(limbs(25, 1)...), 1), fraction(plus(power(24)...), 1), fraction(minus(power(24)...), 7), fraction(plus(1), power(24)...),
		fraction(minus(1), limbs(25, 1)...), fraction(plus(limbs(25, top)...), power(24)...), fraction(plus(limbs(60, top)...), 1), fraction(plus(1), limbs(60, top)...),
	}
	for _, bad := range invalidWholes() {
		out = append(out, impl.Rat{Num: bad, Den: []int{1}}, impl.Rat{Num: bad, Den: []int{2}})
	}
	for _, bad := range invalidNats() {
		out = append(out, impl.Rat{Num: plus(1), Den: bad}, impl.Rat{Num: plus(), Den: bad})
	}
	return out
}

func TestMaxRat(t *testing.T) {
	if impl.MaxRat != 24 {
		t.Errorf("MaxRat = %d", impl.MaxRat)
	}
}

func TestRatOk(t *testing.T) {
	for _, r := range ratSamples() {
		if !impl.RatOk(r) {
			t.Errorf("RatOk(%v) = false", r)
		}
	}
	if zero := fraction(impl.BigInt{Mag: []int{}}, 1); !impl.RatOk(zero) {
		t.Errorf("RatOk(%v) = false", zero)
	}
	for _, r := range invalidRats() {
		if impl.RatOk(r) {
			t.Errorf("RatOk(%v) = true", r)
		}
	}
}

func TestRatOkNumberOfLimbs(t *testing.T) {
	for n := range 63 {
		for m := range 63 {
			want := n >= 1 && n <= 24 && m >= 1 && m <= 24 || n == 0 && m == 1
			for _, num := range []impl.BigInt{plus(limbs(n, top)...), {Neg: n > 0, Mag: limbs(n, top)}} {
				var den []int
				if m > 0 {
					den = power(m - 1)
				}
				if got := impl.RatOk(fraction(num, den...)); got != want {
					t.Errorf("RatOk of %d limbs / %d limbs = %v", n, m, got)
				}
			}
		}
	}
}

func TestRatOkCommonDivisor(t *testing.T) {
	for n := -60; n <= 60; n++ {
		for d := range 61 {
			divisor := new(big.Int).GCD(nil, nil, big.NewInt(int64(max(n, -n))), big.NewInt(int64(d)))
			want := d > 0 && divisor.Cmp(big.NewInt(1)) == 0
			if got := impl.RatOk(fraction(impl.BigIntOf(n), impl.NatOf(d)...)); got != want {
				t.Errorf("RatOk of %d / %d = %v", n, d, got)
			}
		}
	}
}

func TestRatOkLongCommonDivisor(t *testing.T) {
	r := rand.New(rand.NewSource(7))
	for range 3000 {
		num, den, divisor := randomNat(r, 12), randomNat(r, 12), randomNat(r, 12)
		value := new(big.Int).Mul(bigOf(num), bigOf(divisor))
		a, b := limbsOf(value), limbsOf(new(big.Int).Mul(bigOf(den), bigOf(divisor)))
		want := new(big.Int).GCD(nil, nil, value, bigOf(b)).Cmp(big.NewInt(1)) == 0 && len(b) > 0
		if got := impl.RatOk(fraction(plus(a...), b...)); got != want {
			t.Fatalf("RatOk of %v / %v = %v", a, b, got)
		}
	}
}

func TestRatMakeSmall(t *testing.T) {
	for n := -40; n <= 40; n++ {
		for d := -40; d <= 40; d++ {
			want := impl.Rat{}
			if d != 0 {
				want = ratOfInts(n, d)
			}
			wantRat(t, "RatMake", impl.RatMake(impl.BigIntOf(n), impl.BigIntOf(d)), want, n, d)
			wantRat(t, "RatOf", impl.RatOf(n, d), want, n, d)
		}
	}
}

func TestRatMakeEdges(t *testing.T) {
	most, product := limbs(60, top), impl.NatMul(limbs(24, top), limbs(36, 7))
	cases := []struct {
		num, den impl.BigInt
		want     impl.Rat
	}{
		{plus(), plus(1), fraction(plus(), 1)},
		{plus(), minus(1), fraction(plus(), 1)},
		{plus(), plus(most...), fraction(plus(), 1)},
		{plus(), minus(most...), fraction(plus(), 1)},
		{plus(), plus(), impl.Rat{}},
		{plus(1), plus(), impl.Rat{}},
		{minus(1), impl.BigInt{Mag: []int{}}, impl.Rat{}},
		{plus(most...), plus(), impl.Rat{}},
		{plus(6), plus(4), fraction(plus(3), 2)},
		{plus(6), minus(4), fraction(minus(3), 2)},
		{minus(6), plus(4), fraction(minus(3), 2)},
		{minus(6), minus(4), fraction(plus(3), 2)},
		{plus(4), plus(2), fraction(plus(2), 1)},
		{plus(2), minus(4), fraction(minus(1), 2)},
		{plus(most...), plus(most...), fraction(plus(1), 1)},
		{plus(most...), minus(most...), fraction(minus(1), 1)},
		{minus(most...), minus(most...), fraction(plus(1), 1)},
		{plus(power(59)...), plus(power(36)...), fraction(plus(power(23)...), 1)},
		{plus(power(59)...), plus(power(35)...), impl.Rat{}},
		{plus(power(36)...), minus(power(59)...), fraction(minus(1), power(23)...)},
		{plus(power(35)...), plus(power(59)...), impl.Rat{}},
		{plus(product...), plus(limbs(36, 7)...), fraction(plus(limbs(24, top)...), 1)},
		{minus(limbs(36, 7)...), plus(product...), fraction(minus(1), limbs(24, top)...)},
		{plus(product...), plus(1), impl.Rat{}},
		{plus(1), minus(product...), impl.Rat{}},
		{plus(limbs(24, top)...), plus(1), fraction(plus(limbs(24, top)...), 1)},
		{minus(limbs(24, top)...), minus(power(23)...), fraction(plus(limbs(24, top)...), power(23)...)},
		{plus(power(24)...), plus(1), impl.Rat{}},
		{plus(1), plus(power(24)...), impl.Rat{}},
		{plus(limbs(25, top)...), plus(power(24)...), impl.Rat{}},
		{plus(power(24)...), plus(5), fraction(plus(append(limbs(23, 0), impl.Base/5)...), 1)},
		{plus(5), plus(power(24)...), fraction(plus(1), append(limbs(23, 0), impl.Base/5)...)},
	}
	for _, c := range cases {
		wantRat(t, "RatMake", impl.RatMake(c.num, c.den), c.want, c.num, c.den)
	}
}

func TestRatMakeOfLongIntegers(t *testing.T) {
	samples := wholeSamples()
	for _, num := range samples {
		for _, den := range samples {
			checkRatMake(t, num, den)
		}
	}
	r := rand.New(rand.NewSource(8))
	for range 5000 {
		num, den := valueOf(randomWhole(r, 24)), valueOf(randomWhole(r, 24))
		divisor := valueOf(randomWhole(r, 35))
		checkRatMake(t, wholeOf(num.Mul(num, divisor)), wholeOf(den.Mul(den, divisor)))
	}
}

func checkRatMake(t *testing.T, num impl.BigInt, den impl.BigInt) {
	t.Helper()
	want := impl.Rat{}
	if len(den.Mag) > 0 {
		want = ratOf(new(big.Rat).SetFrac(valueOf(num), valueOf(den)))
	}
	wantRat(t, "RatMake", impl.RatMake(num, den), want, num, den)
}

func TestRatMakeInvalid(t *testing.T) {
	others := append(invalidWholes(), withSigns([][]int{nil, {1}, {2}, {0, 1}, limbs(24, top), limbs(60, top)})...)
	for _, bad := range invalidWholes() {
		for _, other := range others {
			if got, turned := impl.RatMake(bad, other), impl.RatMake(other, bad); !isZeroRat(got) || !isZeroRat(turned) {
				t.Errorf("RatMake of %v and %v = %v, turned %v", bad, other, got, turned)
			}
		}
	}
}

func TestRatOf(t *testing.T) {
	for _, n := range intSamples() {
		wantRat(t, "RatFromInt", impl.RatFromInt(n), ratOfInts(n, 1), n, 1)
		wantRat(t, "RatOf", impl.RatOf(n, 0), impl.Rat{}, n, 0)
		for _, d := range intSamples() {
			if d != 0 {
				wantRat(t, "RatOf", impl.RatOf(n, d), ratOfInts(n, d), n, d)
			}
		}
	}
}

func TestRatOfEdges(t *testing.T) {
	least := minus(854775808, 223372036, 9)
	cases := []struct {
		n, d int
		want impl.Rat
	}{
		{0, 1, fraction(plus(), 1)}, {0, -1, fraction(plus(), 1)}, {0, 0, impl.Rat{}}, {0, math.MinInt, fraction(plus(), 1)},
		{math.MinInt, 0, impl.Rat{}}, {math.MaxInt, 0, impl.Rat{}}, {-3, 0, impl.Rat{}},
		{math.MinInt, 1, fraction(least, 1)}, {math.MinInt, -1, fraction(plus(least.Mag...), 1)}, {1, math.MinInt, fraction(minus(1), least.Mag...)},
		{-1, math.MinInt, fraction(plus(1), least.Mag...)}, {math.MinInt, math.MinInt, fraction(plus(1), 1)}, {math.MinInt, 2, fraction(minus(427387904, 611686018, 4), 1)},
		{math.MinInt, math.MaxInt, fraction(least, 854775807, 223372036, 9)}, {math.MaxInt, math.MinInt, fraction(minus(854775807, 223372036, 9), least.Mag...)},
		{math.MaxInt, -math.MaxInt, fraction(minus(1), 1)}, {6, -4, fraction(minus(3), 2)}, {-6, -4, fraction(plus(3), 2)}, {top, 3, fraction(plus(333333333), 1)},
	}
	for _, c := range cases {
		wantRat(t, "RatOf", impl.RatOf(c.n, c.d), c.want, c.n, c.d)
	}
	wantRat(t, "RatFromInt", impl.RatFromInt(math.MinInt), fraction(least, 1), math.MinInt, 1)
	wantRat(t, "RatFromInt", impl.RatFromInt(0), fraction(plus(), 1), 0, 1)
}

func TestP1RatOperations(t *testing.T) {
	samples := ratSamples()
	for _, r := range samples {
		wantRat(t, "RatNeg", impl.RatNeg(r), ratOf(new(big.Rat).Neg(ratValue(r))), r, r)
		if got := impl.RatSign(r); got != ratValue(r).Sign() {
			t.Fatalf("RatSign(%v) = %d", r, got)
		}
		for _, s := range samples {
			checkRatOperations(t, r, s)
		}
	}
	random := rand.New(rand.NewSource(9))
	for range 4000 {
		checkRatOperations(t, randomRat(random, 3), randomRat(random, 3))
		checkRatOperations(t, randomRat(random, 12), randomRat(random, 12))
		checkRatOperations(t, randomRat(random, 24), randomRat(random, 24))
	}
}

// checkRatOperations compares the operations with math/big; a result with more than MaxRat limbs must be the zero value.
func checkRatOperations(t *testing.T, r impl.Rat, s impl.Rat) {
	t.Helper()
	a, b := ratValue(r), ratValue(s)
	order := a.Cmp(b)
	if got := impl.RatCmp(r, s); got != order {
		t.Fatalf("RatCmp(%v, %v) = %d", r, s, got)
	}
	if got := impl.RatEqual(r, s); got != (order == 0) {
		t.Fatalf("RatEqual(%v, %v) = %v", r, s, got)
	}
	wantRat(t, "RatAdd", impl.RatAdd(r, s), ratOf(new(big.Rat).Add(a, b)), r, s)
	wantRat(t, "RatSub", impl.RatSub(r, s), ratOf(new(big.Rat).Sub(a, b)), r, s)
	wantRat(t, "RatMul", impl.RatMul(r, s), ratOf(new(big.Rat).Mul(a, b)), r, s)
	quotient := impl.Rat{}
	if b.Sign() != 0 {
		quotient = ratOf(new(big.Rat).Quo(a, b))
	}
	wantRat(t, "RatDiv", impl.RatDiv(r, s), quotient, r, s)
	least, greatest := r, s
	if order > 0 {
		least, greatest = s, r
	}
	wantRat(t, "RatMin", impl.RatMin(r, s), least, r, s)
	wantRat(t, "RatMax", impl.RatMax(r, s), greatest, r, s)
}

// ratLawSamples has few enough limbs for every result in a law of three fractions.
func ratLawSamples() []impl.Rat {
	out := reducedRats([][]int{nil, {1}, {3}, {0, 1}, limbs(3, top)}, [][]int{{1}, {2}, {top}, power(3)})
	r := rand.New(rand.NewSource(10))
	for range 8 {
		out = append(out, randomRat(r, 4))
	}
	return out
}

func TestP1RatLaws(t *testing.T) {
	samples := ratLawSamples()
	for _, r := range samples {
		for _, s := range samples {
			checkRatPairLaws(t, r, s)
			for _, u := range samples {
				checkRatTripleLaws(t, r, s, u)
			}
		}
	}
}

func checkRatPairLaws(t *testing.T, r impl.Rat, s impl.Rat) {
	t.Helper()
	sum, difference, product := impl.RatAdd(r, s), impl.RatSub(r, s), impl.RatMul(r, s)
	zero, one := fraction(plus(), 1), fraction(plus(1), 1)
	least, greatest := impl.RatMin(r, s), impl.RatMax(r, s)
	laws := map[string]bool{
		"r + s = s + r":              sameRat(sum, impl.RatAdd(s, r)),
		"r * s = s * r":              sameRat(product, impl.RatMul(s, r)),
		"r + 0 = r, r * 1 = r":       sameRat(impl.RatAdd(r, zero), r) && sameRat(impl.RatMul(r, one), r),
		"r - r = 0, r * 0 = 0":       sameRat(impl.RatSub(r, r), zero) && sameRat(impl.RatMul(r, zero), zero),
		"r / 1 = r, r / 0 fails":     sameRat(impl.RatDiv(r, one), r) && isZeroRat(impl.RatDiv(r, zero)),
		"-(-r) = r":                  sameRat(impl.RatNeg(impl.RatNeg(r)), r),
		"r + (-s) = r - s":           sameRat(impl.RatAdd(r, impl.RatNeg(s)), difference),
		"(r + s) - s = r":            sameRat(impl.RatSub(sum, s), r),
		"(-r) * s = -(r * s)":        sameRat(impl.RatMul(impl.RatNeg(r), s), impl.RatNeg(product)),
		"r < s if and only if s > r": impl.RatCmp(r, s) == -impl.RatCmp(s, r),
		"r < s if r - s < 0":         impl.RatCmp(r, s) == impl.RatSign(difference),
		"the order of 0 and r":       impl.RatCmp(r, zero) == impl.RatSign(r) && impl.RatSign(impl.RatNeg(r)) == -impl.RatSign(r),
		"the sign of r * s":          impl.RatSign(product) == impl.RatSign(r)*impl.RatSign(s),
		"r = s only if equal":        (impl.RatCmp(r, s) == 0) == impl.RatEqual(r, s),
		"least and greatest":         impl.RatCmp(least, greatest) <= 0 && sameRat(impl.RatAdd(least, greatest), sum) && (sameRat(least, r) || sameRat(least, s)),
		"results are valid":          impl.RatOk(sum) && impl.RatOk(difference) && impl.RatOk(product),
	}
	if impl.RatSign(s) != 0 {
		laws["(r / s) * s = r"] = sameRat(impl.RatMul(impl.RatDiv(r, s), s), r)
		laws["(r * s) / s = r"] = sameRat(impl.RatDiv(product, s), r)
		laws["r / s = r * (1 / s)"] = sameRat(impl.RatDiv(r, s), impl.RatMul(r, impl.RatDiv(one, s)))
	}
	for law, holds := range laws {
		if !holds {
			t.Fatalf("%s does not hold for r = %v, s = %v", law, r, s)
		}
	}
}

func checkRatTripleLaws(t *testing.T, r impl.Rat, s impl.Rat, u impl.Rat) {
	t.Helper()
	rs, su, order := impl.RatMul(r, s), impl.RatMul(s, u), impl.RatCmp(r, s)
	laws := map[string]bool{
		"(r + s) + u = r + (s + u)":          sameRat(impl.RatAdd(impl.RatAdd(r, s), u), impl.RatAdd(r, impl.RatAdd(s, u))),
		"(r * s) * u = r * (s * u)":          sameRat(impl.RatMul(rs, u), impl.RatMul(r, su)),
		"r * (s + u) = r * s + r * u":        sameRat(impl.RatMul(r, impl.RatAdd(s, u)), impl.RatAdd(rs, impl.RatMul(r, u))),
		"r < s if and only if r + u < s + u": order == impl.RatCmp(impl.RatAdd(r, u), impl.RatAdd(s, u)),
		"r < s: r * u < s * u if u > 0":      order*impl.RatSign(u) == impl.RatCmp(impl.RatMul(r, u), su),
		"r <= s and s <= u together: r <= u": order > 0 || impl.RatCmp(s, u) > 0 || impl.RatCmp(r, u) <= 0,
	}
	for law, holds := range laws {
		if !holds {
			t.Fatalf("%s does not hold for r = %v, s = %v, u = %v", law, r, s, u)
		}
	}
}

func TestRatSumLimits(t *testing.T) {
	most, half, unit := fraction(plus(limbs(24, top)...), 1), fraction(plus(append(limbs(23, 0), impl.Base/2)...), 1), fraction(plus(1), power(23)...)
	one := fraction(plus(1), 1)
	cases := []struct {
		r, s, want impl.Rat
	}{
		{most, fraction(plus(), 1), most},
		{most, one, impl.Rat{}},
		{most, fraction(minus(1), 1), fraction(plus(append([]int{top - 1}, limbs(23, top)...)...), 1)},
		{most, fraction(minus(limbs(24, top)...), 1), fraction(plus(), 1)},
		{fraction(minus(limbs(24, top)...), 1), fraction(minus(1), 1), impl.Rat{}},
		{half, half, impl.Rat{}},
		{half, fraction(plus(append(limbs(23, top), impl.Base/2-1)...), 1), most},
		{most, fraction(plus(1), 2), impl.Rat{}},
		{fraction(plus(limbs(24, top)...), power(23)...), unit, fraction(plus(0, 1), 1)},
		{fraction(plus(limbs(24, top)...), 2), fraction(plus(1), 2), fraction(plus(append(limbs(23, 0), impl.Base/2)...), 1)},
		{unit, unit, fraction(plus(1), append(limbs(22, 0), impl.Base/2)...)},
		{unit, fraction(plus(1), 3), fraction(plus(append([]int{3}, power(23)[1:]...)...), append(limbs(23, 0), 3)...)},
		{unit, fraction(plus(1), 1, 1), impl.Rat{}},
		{unit, fraction(plus(1), append(limbs(23, 0), 2)...), fraction(plus(3), append(limbs(23, 0), 2)...)},
		{fraction(plus(1), append(limbs(23, 0), 50000)...), fraction(plus(1), append(limbs(23, 0), 99999)...), impl.Rat{}},
		{fraction(plus(1), limbs(12, top)...), fraction(plus(1), power(11)...), fraction(plus(append(limbs(11, top), 0, 1)...), append(limbs(11, 0), limbs(12, top)...)...)},
		{fraction(plus(1), limbs(24, top)...), fraction(plus(1), power(23)...), impl.Rat{}},
	}
	for _, c := range cases {
		wantRat(t, "RatAdd", impl.RatAdd(c.r, c.s), c.want, c.r, c.s)
		wantRat(t, "RatAdd", impl.RatAdd(c.s, c.r), c.want, c.s, c.r)
		wantRat(t, "RatSub", impl.RatSub(c.r, impl.RatNeg(c.s)), c.want, c.r, c.s)
	}
}

func TestRatProductLimits(t *testing.T) {
	most, power23, power12 := fraction(plus(limbs(24, top)...), 1), fraction(plus(power(23)...), 1), fraction(plus(power(12)...), 1)
	cases := []struct {
		r, s, want impl.Rat
	}{
		{most, fraction(plus(1), 1), most},
		{most, fraction(minus(1), 1), fraction(minus(limbs(24, top)...), 1)},
		{most, fraction(plus(2), 1), impl.Rat{}},
		{most, most, impl.Rat{}},
		{most, fraction(plus(), 1), fraction(plus(), 1)},
		{power12, fraction(plus(power(11)...), 1), power23},
		{power12, power12, impl.Rat{}},
		{fraction(plus(1), power(12)...), fraction(plus(1), power(11)...), fraction(plus(1), power(23)...)},
		{fraction(plus(1), power(12)...), fraction(minus(1), power(12)...), impl.Rat{}},
		{power23, fraction(plus(1), power(23)...), fraction(plus(1), 1)},
		{power23, fraction(plus(7), power(11)...), fraction(plus(append(limbs(12, 0), 7)...), 1)},
		{most, fraction(plus(1), limbs(24, top)...), fraction(plus(1), 1)},
		{fraction(minus(limbs(24, top)...), power(23)...), fraction(plus(power(23)...), limbs(24, top)...), fraction(minus(1), 1)},
		{fraction(plus(limbs(24, top)...), power(23)...), fraction(plus(2), 1), fraction(plus(limbs(24, top)...), append(limbs(22, 0), impl.Base/2)...)},
		{fraction(plus(limbs(24, top)...), power(23)...), fraction(plus(3), 1), impl.Rat{}},
		{fraction(plus(limbs(24, top)...), power(23)...), fraction(plus(1), 0, 1), impl.Rat{}},
		{fraction(plus(1), append(limbs(23, 0), impl.Base/2)...), fraction(plus(1), 2), impl.Rat{}},
		{fraction(plus(1), append(limbs(23, 0), 500)...), fraction(plus(500), 3), fraction(plus(1), append(limbs(23, 0), 3)...)},
	}
	for _, c := range cases {
		wantRat(t, "RatMul", impl.RatMul(c.r, c.s), c.want, c.r, c.s)
		wantRat(t, "RatMul", impl.RatMul(c.s, c.r), c.want, c.s, c.r)
		if impl.RatSign(c.s) != 0 {
			wantRat(t, "RatDiv", impl.RatDiv(c.r, ratOf(new(big.Rat).Inv(ratValue(c.s)))), c.want, c.r, c.s)
		}
	}
}

func TestRatDivEdges(t *testing.T) {
	zero, most := fraction(plus(), 1), fraction(plus(limbs(24, top)...), 1)
	cases := []struct {
		r, s, want impl.Rat
	}{
		{zero, zero, impl.Rat{}}, {most, zero, impl.Rat{}}, {fraction(minus(1), 2), zero, impl.Rat{}}, {zero, fraction(minus(3), 7), zero}, {zero, most, zero},
		{fraction(plus(1), 2), fraction(minus(1), 4), fraction(minus(2), 1)}, {fraction(minus(1), 2), fraction(minus(3), 4), fraction(plus(2), 3)},
		{most, most, fraction(plus(1), 1)}, {fraction(minus(limbs(24, top)...), 1), most, fraction(minus(1), 1)}, {fraction(plus(1), 1), most, fraction(plus(1), limbs(24, top)...)},
		{most, fraction(plus(1), 2), impl.Rat{}}, {fraction(plus(1), 2), most, impl.Rat{}}, {fraction(plus(1), limbs(24, top)...), fraction(plus(2), 1), impl.Rat{}},
	}
	for _, c := range cases {
		wantRat(t, "RatDiv", impl.RatDiv(c.r, c.s), c.want, c.r, c.s)
	}
}

func TestRatOrder(t *testing.T) {
	ascending := []impl.Rat{
		fraction(minus(limbs(24, top)...), 1), fraction(minus(limbs(24, top)...), 2), fraction(minus(3), 1), fraction(minus(5), 2), fraction(minus(1), 1), fraction(minus(top), 0, 1),
		fraction(minus(2), 3), fraction(minus(1), 2), fraction(minus(1), 3), fraction(minus(1), power(23)...), fraction(minus(1), limbs(24, top)...), fraction(plus(), 1),
		fraction(plus(1), limbs(24, top)...), fraction(plus(2), limbs(24, top)...), fraction(plus(1), power(23)...), fraction(plus(1), top), fraction(plus(1), 3), fraction(plus(1), 2),
		fraction(plus(2), 3), fraction(plus(3), 4), fraction(plus(limbs(23, top)...), power(23)...), fraction(plus(1), 1), fraction(plus(0, 1), top), fraction(plus(4), 3), fraction(plus(2), 1),
		fraction(plus(limbs(24, top)...), power(23)...), fraction(plus(0, 1), 1), fraction(plus(limbs(24, top)...), 2), fraction(plus(limbs(24, top)...), 1),
	}
	for i, r := range ascending {
		for j, s := range ascending {
			want := 0
			if i < j {
				want = -1
			} else if i > j {
				want = 1
			}
			if got := impl.RatCmp(r, s); got != want {
				t.Errorf("RatCmp(%v, %v) = %d, want %d", r, s, got, want)
			}
			wantRat(t, "RatMin", impl.RatMin(r, s), ascending[min(i, j)], r, s)
			wantRat(t, "RatMax", impl.RatMax(r, s), ascending[max(i, j)], r, s)
		}
		want := 0
		if i < 11 {
			want = -1
		} else if i > 11 {
			want = 1
		}
		if got := impl.RatSign(r); got != want {
			t.Errorf("RatSign(%v) = %d, want %d", r, got, want)
		}
	}
}

func TestRatEqual(t *testing.T) {
	values := []impl.Rat{
		{}, fraction(minus()), fraction(plus(), 1), fraction(minus(), 1), fraction(plus(), 2), fraction(plus(1)), fraction(plus(1), 1), fraction(minus(1), 1),
		fraction(plus(1), 2), fraction(minus(1), 2), fraction(plus(2), 1), fraction(plus(2), 2), fraction(plus(2), 4), fraction(plus(0), 1), fraction(plus(1, 0), 1),
		fraction(plus(1), 1, 0), fraction(plus(1, 1), 1), fraction(plus(2, 1), 1), fraction(plus(1, 2), 1), fraction(plus(1), 1, 1), fraction(plus(1), 2, 1), fraction(plus(1), 1, 2),
		fraction(plus(-1), 1), fraction(plus(1), -1), fraction(plus(math.MinInt), math.MaxInt), fraction(plus(limbs(24, top)...), 1), fraction(plus(limbs(25, top)...), 1),
		fraction(plus(limbs(100, 7)...), limbs(100, 7)...), fraction(plus(limbs(100, 7)...), limbs(101, 7)...),
	}
	for i, r := range values {
		for j, s := range values {
			s = fraction(impl.BigInt{Neg: s.Num.Neg, Mag: slices.Clone(s.Num.Mag)}, slices.Clone(s.Den)...)
			if got := impl.RatEqual(r, s); got != (i == j) {
				t.Errorf("RatEqual(%v, %v) = %v", r, s, got)
			}
		}
	}
	withNil, withEmpty := impl.Rat{}, impl.Rat{Num: impl.BigInt{Mag: []int{}}, Den: []int{}}
	if !impl.RatEqual(withNil, withEmpty) || !impl.RatEqual(withEmpty, withNil) {
		t.Error("a nil slice and an empty slice are not equal")
	}
}

func TestRatInvalidArguments(t *testing.T) {
	operations := map[string]func(r impl.Rat, s impl.Rat) impl.Rat{
		"RatAdd": impl.RatAdd, "RatSub": impl.RatSub, "RatMul": impl.RatMul, "RatDiv": impl.RatDiv, "RatMin": impl.RatMin, "RatMax": impl.RatMax,
	}
	others := append(invalidRats(), fraction(plus(), 1), fraction(plus(1), 1), fraction(minus(1), 1), fraction(minus(7), 3), fraction(plus(limbs(24, top)...), power(23)...))
	for _, bad := range invalidRats() {
		for _, other := range others {
			if impl.RatCmp(bad, other) != 0 || impl.RatCmp(other, bad) != 0 {
				t.Errorf("RatCmp of %v and %v is not 0", bad, other)
			}
			for name, operation := range operations {
				if got, turned := operation(bad, other), operation(other, bad); !isZeroRat(got) || !isZeroRat(turned) {
					t.Errorf("%s of %v and %v = %v, turned %v", name, bad, other, got, turned)
				}
			}
		}
		if got := impl.RatNeg(bad); !isZeroRat(got) {
			t.Errorf("RatNeg(%v) = %v", bad, got)
		}
		if got := impl.RatSign(bad); got != 0 {
			t.Errorf("RatSign(%v) = %d", bad, got)
		}
		if got := impl.FormatRat(bad); got != "" {
			t.Errorf("FormatRat(%v) = %q", bad, got)
		}
	}
}

func TestFormatRat(t *testing.T) {
	cases := []struct {
		r    impl.Rat
		want string
	}{
		{fraction(plus(), 1), "0"}, {fraction(impl.BigInt{Mag: []int{}}, 1), "0"}, {fraction(plus(1), 1), "1"}, {fraction(minus(1), 1), "-1"}, {fraction(plus(7), 2), "7/2"},
		{fraction(minus(3), 10), "-3/10"}, {fraction(plus(1), 0, 1), "1/1000000000"}, {fraction(minus(7, 1), 1, 1), "-1000000007/1000000001"}, {fraction(plus(5), 1, 0, 1), "5/1000000000000000001"},
		{fraction(plus(limbs(24, top)...), power(23)...), strings.Repeat("9", 216) + "/1" + strings.Repeat("0", 207)},
		{fraction(minus(1), limbs(24, top)...), "-1/" + strings.Repeat("9", 216)}, {fraction(minus(power(23)...), 1), "-1" + strings.Repeat("0", 207)},
	}
	for _, c := range cases {
		if got := impl.FormatRat(c.r); got != c.want {
			t.Errorf("FormatRat(%v) = %q, want %q", c.r, got, c.want)
		}
		if got, ok := impl.ParseRat(c.want); !ok || !sameRat(got, c.r) {
			t.Errorf("ParseRat(%q) = %v, %v, want %v", c.want, got, ok, c.r)
		}
	}
}

func TestP12RatsAreRecovered(t *testing.T) {
	samples := ratSamples()
	random := rand.New(rand.NewSource(11))
	for range 2000 {
		samples = append(samples, randomRat(random, 24), randomRat(random, 3))
	}
	for _, r := range samples {
		s := impl.FormatRat(r)
		if s != ratValue(r).RatString() {
			t.Errorf("FormatRat(%v) = %q", r, s)
		}
		if got, ok := impl.ParseRat(s); !ok || !sameRat(got, r) {
			t.Errorf("ParseRat(%q) = %v, %v", s, got, ok)
		}
	}
}

func TestParseRatOfEveryLength(t *testing.T) {
	for n := 1; n <= 230; n++ {
		digits, power := strings.Repeat("9", n), "1"+strings.Repeat("0", n-1)
		for _, s := range []string{digits, "-" + power, digits + "/2", "-1/" + digits, "7/" + power, digits + "/" + power, "-" + power + "/" + digits} {
			value, ok := new(big.Rat).SetString(s)
			isText := ok && n <= 216 && value.RatString() == s
			want := impl.Rat{}
			if isText {
				want = ratOf(value)
			}
			if got, ok := impl.ParseRat(s); ok != isText || !sameRat(got, want) {
				t.Errorf("ParseRat(%q) = %v, %v", s, got, ok)
			}
		}
	}
}

func TestParseRatInvalid(t *testing.T) {
	cases := []string{
		"", "/", "1/", "/1", "/2", "-", "-/", "-/2", "1/1", "-1/1", "0/1", "3/1", "2/4", "-2/4", "4/2", "0/5", "-0/5", "0/0", "1/0", "-1/0", "-0", "-0/1", "00", "01", "-01",
		"1/-2", "-1/-2", "1/+2", "+1/2", "+1", "1/02", "01/2", "1/01", "1/00", "00/2", "-01/2", "1//2", "1/2/", "/1/2", "1/2/3", "1/2/1", "1/1/1", "--1/2", "1/--2", "-1-/2",
		" 1/2", "1/2 ", "1 /2", "1/ 2", "1/2\n", "\n1", "1/2\x00", "1\\2", "1:2", "1.5", ".5", "5.", "1e3", "0x1", "0x1/2", "1/0x2", "1_0/3", "1/1_0", "a", "a/b", "1/a", "a/2",
		"nil", "NaN", "Inf", "-Inf", "\xff", "1/\xff", "1\u20442", "1\u22152", "\u00bd", "\u0661/2", "1/\uff12", "\u22121/2", "6/9", "1000000000/2", "999999999/3", "3/999999999",
		"1" + strings.Repeat("0", 216), "-1" + strings.Repeat("0", 216), "1/1" + strings.Repeat("0", 216), strings.Repeat("9", 217), strings.Repeat("9", 217) + "/2", "1/" + strings.Repeat("9", 217),
		strings.Repeat("9", 216) + "/" + strings.Repeat("9", 216), strings.Repeat("9", 217) + "/1" + strings.Repeat("0", 216), strings.Repeat("9", 541), "1/" + strings.Repeat("9", 541),
		strings.Repeat("0", 216) + "1", "1/" + strings.Repeat("0", 216) + "2", strings.Repeat("/", 100000), strings.Repeat("1", 100000), "1/" + strings.Repeat("1", 100000), strings.Repeat("1/", 50000),
	}
	for _, s := range cases {
		if r, ok := impl.ParseRat(s); ok || !isZeroRat(r) {
			t.Errorf("ParseRat(%q) = %v, %v", s, r, ok)
		}
	}
}

func TestParseRatAcceptsOnlyFormattedRats(t *testing.T) {
	want := map[string]impl.Rat{}
	for n := -9999; n < 100000; n++ {
		for d := 1; d < 1000 && (d == 1 || n > -100 && n < 1000); d++ {
			r := big.NewRat(int64(n), int64(d))
			if s := r.RatString(); len(s) <= 5 {
				want[s] = ratOf(r)
			}
		}
	}
	for _, s := range textsUpTo(5, "01246-/+ ") {
		r, isText := want[s]
		if got, ok := impl.ParseRat(s); ok != isText || !sameRat(got, r) {
			t.Errorf("ParseRat(%q) = %v, %v", s, got, ok)
		}
	}
}

// ratCalls calls every function that takes or returns fractions, and returns the fractions it gets.
func ratCalls(r impl.Rat, s impl.Rat) map[string]impl.Rat {
	parsed, _ := impl.ParseRat(impl.FormatRat(r))
	impl.RatOk(r)
	impl.RatEqual(r, s)
	return map[string]impl.Rat{
		"RatMake": impl.RatMake(r.Num, s.Num), "RatMake of a denominator": impl.RatMake(impl.BigInt{Mag: r.Den}, impl.BigInt{Mag: s.Den}), "RatOf": impl.RatOf(len(r.Num.Mag), len(s.Num.Mag)),
		"RatFromInt": impl.RatFromInt(impl.RatCmp(r, s) + impl.RatSign(r)), "RatAdd": impl.RatAdd(r, s), "RatNeg": impl.RatNeg(r), "RatSub": impl.RatSub(r, s), "RatMul": impl.RatMul(r, s),
		"RatDiv": impl.RatDiv(r, s), "RatMin": impl.RatMin(r, s), "RatMax": impl.RatMax(r, s), "ParseRat": parsed,
	}
}

// ratParts returns the slices of some fractions, each under the name of its fraction and its field.
func ratParts(rats map[string]impl.Rat) map[string][]int {
	out := map[string][]int{}
	for name, r := range rats {
		out[name+".Num"], out[name+".Den"] = r.Num.Mag, r.Den
	}
	return out
}

func TestRatArgumentsStayAndResultsAreNew(t *testing.T) {
	rats := append(reducedRats([][]int{nil, {1}, {6}, {0, 1}, limbs(5, top), limbs(24, top)}, [][]int{{1}, {2}, {4, 2}, power(23)}), impl.Rat{}, fraction(plus(2), 4), fraction(plus(1), -1, 1))
	for _, r := range rats {
		for _, s := range rats {
			guards := []guarded{guard(r.Num.Mag, 11, 12), guard(r.Den, 21, 22), guard(s.Num.Mag, 31, 32), guard(s.Den, 41, 42)}
			first := impl.Rat{Num: impl.BigInt{Neg: r.Num.Neg, Mag: guards[0].list}, Den: guards[1].list}
			second := impl.Rat{Num: impl.BigInt{Neg: s.Num.Neg, Mag: guards[2].list}, Den: guards[3].list}
			got, want := ratParts(ratCalls(first, second)), ratParts(ratCalls(r, s))
			checkPartsAreNew(t, got, want, guards)
		}
	}
}

// checkPartsAreNew overwrites one slice of the results after the other: neither the other ones nor the arguments may change.
func checkPartsAreNew(t *testing.T, got map[string][]int, want map[string][]int, guards []guarded) {
	t.Helper()
	checkPartsAre(t, got, want, "")
	for name := range got {
		fill(got[name], -5)
		checkPartsAre(t, got, want, name)
		for _, g := range guards {
			if !g.unchanged() {
				t.Fatalf("%v was changed to %v, or %s shares memory with it", g.before, g.array, name)
			}
		}
		copy(got[name], want[name])
	}
}

// checkPartsAre compares all slices but the one that was overwritten.
func checkPartsAre(t *testing.T, got map[string][]int, want map[string][]int, overwritten string) {
	t.Helper()
	for name := range got {
		if name != overwritten && !slices.Equal(got[name], want[name]) {
			t.Fatalf("%s = %v, want %v (overwritten: %q)", name, got[name], want[name], overwritten)
		}
	}
}

func TestRatOperationsOfOneFractionWithItself(t *testing.T) {
	for _, r := range ratSamples() {
		checkRatOperations(t, r, r)
		checkRatMake(t, r.Num, r.Num)
	}
}
