package tests

import (
	"math"
	"math/big"
	"math/rand"
	"slices"
	"strconv"
	"strings"
	"testing"

	"loop.example/g00802/impl"
)

func plus(mag ...int) impl.BigInt { return impl.BigInt{Mag: mag} }

func minus(mag ...int) impl.BigInt { return impl.BigInt{Neg: true, Mag: mag} }

func valueOf(x impl.BigInt) *big.Int {
	value := bigOf(x.Mag)
	if x.Neg {
		value.Neg(value)
	}
	return value
}

// wholeOf returns the integer of a value, or the zero value if it has too many limbs.
func wholeOf(value *big.Int) impl.BigInt {
	mag := limbsOf(new(big.Int).Abs(value))
	return impl.BigInt{Neg: value.Sign() < 0 && len(mag) > 0, Mag: mag}
}

func sameWhole(x impl.BigInt, y impl.BigInt) bool {
	return x.Neg == y.Neg && slices.Equal(x.Mag, y.Mag)
}

func isZeroWhole(x impl.BigInt) bool { return !x.Neg && len(x.Mag) == 0 }

// withSigns returns the integers with these magnitudes, each with both signs where there are two.
func withSigns(mags [][]int) []impl.BigInt {
	var out []impl.BigInt
	for _, mag := range mags {
		out = append(out, plus(mag...))
		if len(mag) > 0 {
			out = append(out, minus(mag...))
		}
	}
	return out
}

func wholeSamples() []impl.BigInt { return withSigns(natSamples()) }

func randomWhole(r *rand.Rand, most int) impl.BigInt {
	mag := randomNat(r, most)
	return impl.BigInt{Neg: len(mag) > 0 && r.Intn(2) == 0, Mag: mag}
}

// invalidWholes returns values that are not integers.
func invalidWholes() []impl.BigInt {
	return append(withSigns(invalidNats()), minus(), impl.BigInt{Neg: true, Mag: []int{}})
}

func wantWhole(t *testing.T, label string, got impl.BigInt, want *big.Int, x impl.BigInt, y impl.BigInt) {
	t.Helper()
	if !sameWhole(got, wholeOf(want)) {
		t.Fatalf("%s of %v and %v = %v, want %v", label, x, y, got, wholeOf(want))
	}
}

func TestBigIntOk(t *testing.T) {
	for _, x := range wholeSamples() {
		if !impl.BigIntOk(x) {
			t.Errorf("BigIntOk(%v) = false", x)
		}
	}
	for _, x := range invalidWholes() {
		if impl.BigIntOk(x) {
			t.Errorf("BigIntOk(%v) = true", x)
		}
	}
}

func TestBigIntOkNumberOfLimbs(t *testing.T) {
	for n := range 65 {
		if got := impl.BigIntOk(plus(limbs(n, 1)...)); got != (n <= 60) {
			t.Errorf("BigIntOk of %d limbs = %v", n, got)
		}
		if got := impl.BigIntOk(minus(limbs(n, 1)...)); got != (n >= 1 && n <= 60) {
			t.Errorf("BigIntOk of %d negative limbs = %v", n, got)
		}
	}
}

func TestBigIntOf(t *testing.T) {
	for _, n := range intSamples() {
		if got, want := impl.BigIntOf(n), wholeOf(big.NewInt(int64(n))); !sameWhole(got, want) {
			t.Errorf("BigIntOf(%d) = %v, want %v", n, got, want)
		}
	}
	cases := map[int]impl.BigInt{
		0: plus(), 7: plus(7), -7: minus(7), -1: minus(1), top: plus(top), -top: minus(top), impl.Base: plus(0, 1), -impl.Base: minus(0, 1),
		-impl.Base - 1: minus(1, 1), impl.Base * impl.Base: plus(0, 0, 1), -impl.Base * impl.Base: minus(0, 0, 1), -impl.Base*impl.Base + 1: minus(top, top),
		math.MaxInt: plus(854775807, 223372036, 9), -math.MaxInt: minus(854775807, 223372036, 9), math.MinInt: minus(854775808, 223372036, 9),
	}
	for n, want := range cases {
		if got := impl.BigIntOf(n); !sameWhole(got, want) {
			t.Errorf("BigIntOf(%d) = %v, want %v", n, got, want)
		}
	}
}

func TestBigIntToInt(t *testing.T) {
	for _, n := range intSamples() {
		want := n
		if n == math.MinInt {
			want = 0
		}
		if got, ok := impl.BigIntToInt(impl.BigIntOf(n)); ok != (n != math.MinInt) || got != want {
			t.Errorf("BigIntToInt(BigIntOf(%d)) = %d, %v", n, got, ok)
		}
	}
	for _, x := range wholeSamples() {
		fits, want := bigOf(x.Mag).IsInt64(), 0
		if fits {
			want = int(valueOf(x).Int64())
		}
		if got, ok := impl.BigIntToInt(x); ok != fits || got != want {
			t.Errorf("BigIntToInt(%v) = %d, %v", x, got, ok)
		}
	}
}

func TestBigIntToIntTooLarge(t *testing.T) {
	mags := [][]int{
		{854775808, 223372036, 9}, {854775809, 223372036, 9}, {0, 223372037, 9}, {0, 0, 10}, {709551615, 446744073, 18}, {709551616, 446744073, 18},
		{709551617, 446744073, 18}, {0, 0, 0, 1}, power(59), limbs(60, top),
	}
	for _, x := range append(withSigns(mags), invalidWholes()...) {
		if n, ok := impl.BigIntToInt(x); ok || n != 0 {
			t.Errorf("BigIntToInt(%v) = %d, %v, want 0, false", x, n, ok)
		}
	}
}

func TestP1BigIntOperations(t *testing.T) {
	samples := wholeSamples()
	for _, x := range samples {
		wantWhole(t, "BigIntNeg", impl.BigIntNeg(x), new(big.Int).Neg(valueOf(x)), x, x)
		for _, y := range samples {
			checkWholeOperations(t, x, y)
		}
	}
	r := rand.New(rand.NewSource(4))
	for range 20000 {
		checkWholeOperations(t, randomWhole(r, 60), randomWhole(r, 60))
		checkWholeOperations(t, randomWhole(r, 6), randomWhole(r, 4))
	}
}

// checkWholeOperations compares the operations with math/big; a result with more than MaxLimbs limbs must be the zero value.
func checkWholeOperations(t *testing.T, x impl.BigInt, y impl.BigInt) {
	t.Helper()
	a, b := valueOf(x), valueOf(y)
	if got := impl.BigIntCmp(x, y); got != a.Cmp(b) {
		t.Fatalf("BigIntCmp(%v, %v) = %d", x, y, got)
	}
	wantWhole(t, "BigIntAdd", impl.BigIntAdd(x, y), new(big.Int).Add(a, b), x, y)
	wantWhole(t, "BigIntSub", impl.BigIntSub(x, y), new(big.Int).Sub(a, b), x, y)
	wantWhole(t, "BigIntMul", impl.BigIntMul(x, y), new(big.Int).Mul(a, b), x, y)
	quotient, rest := new(big.Int), new(big.Int)
	if m := bigOf(y.Mag); m.Sign() > 0 {
		quotient.DivMod(a, m, rest)
	}
	gotQuotient, gotRest := impl.BigIntFloorDiv(x, y.Mag)
	wantWhole(t, "quotient", gotQuotient, quotient, x, y)
	wantNat(t, "remainder", gotRest, rest, x.Mag, y.Mag)
}

// lawSamples has few enough limbs for the product of three of them.
func lawSamples() []impl.BigInt {
	return withSigns([][]int{
		nil, {1}, {2}, {12}, {top}, {0, 1}, {1, 1}, {top, top}, {0, 0, 1}, {top, 0, 1}, {854775807, 223372036, 9}, {854775808, 223372036, 9},
		limbs(19, top), power(19), limbs(20, top), append(limbs(19, 0), impl.Base/2), limbs(20, 123456789),
	})
}

func TestP1BigIntLaws(t *testing.T) {
	samples := lawSamples()
	for _, x := range samples {
		for _, y := range samples {
			checkWholePairLaws(t, x, y)
			for _, z := range samples {
				checkWholeTripleLaws(t, x, y, z)
			}
		}
	}
}

func checkWholePairLaws(t *testing.T, x impl.BigInt, y impl.BigInt) {
	t.Helper()
	sum, difference, product := impl.BigIntAdd(x, y), impl.BigIntSub(x, y), impl.BigIntMul(x, y)
	zero, one := plus(), plus(1)
	laws := map[string]bool{
		"x + y = y + x":              sameWhole(sum, impl.BigIntAdd(y, x)),
		"x * y = y * x":              sameWhole(product, impl.BigIntMul(y, x)),
		"x + 0 = x, x * 1 = x":       sameWhole(impl.BigIntAdd(x, zero), x) && sameWhole(impl.BigIntMul(x, one), x),
		"x - x = 0, x * 0 = 0":       isZeroWhole(impl.BigIntSub(x, x)) && isZeroWhole(impl.BigIntMul(x, zero)),
		"-(-x) = x":                  sameWhole(impl.BigIntNeg(impl.BigIntNeg(x)), x),
		"x - y = x + (-y)":           sameWhole(difference, impl.BigIntAdd(x, impl.BigIntNeg(y))),
		"x - y = -(y - x)":           sameWhole(difference, impl.BigIntNeg(impl.BigIntSub(y, x))),
		"(x + y) - y = x":            sameWhole(impl.BigIntSub(sum, y), x),
		"(-x) * y = -(x * y)":        sameWhole(impl.BigIntMul(impl.BigIntNeg(x), y), impl.BigIntNeg(product)),
		"x < y if and only if y > x": impl.BigIntCmp(x, y) == -impl.BigIntCmp(y, x),
		"x = y only if equal":        (impl.BigIntCmp(x, y) == 0) == sameWhole(x, y),
		"x < y if x - y < 0":         impl.BigIntCmp(x, y) == impl.BigIntCmp(difference, zero),
		"x < y if -y < -x":           impl.BigIntCmp(x, y) == impl.BigIntCmp(impl.BigIntNeg(y), impl.BigIntNeg(x)),
		"results are valid":          impl.BigIntOk(sum) && impl.BigIntOk(difference) && impl.BigIntOk(product),
	}
	if len(y.Mag) > 0 {
		m := plus(y.Mag...)
		q, r := impl.BigIntFloorDiv(x, y.Mag)
		laws["x = q * m + r"] = sameWhole(impl.BigIntAdd(impl.BigIntMul(q, m), plus(r...)), x)
		laws["r is from 0 to m - 1"] = impl.NatOk(r) && impl.NatCmp(r, y.Mag) < 0 && impl.BigIntOk(q)
		q, r = impl.BigIntFloorDiv(impl.BigIntMul(x, m), y.Mag)
		laws["(x * m) / m = x"] = sameWhole(q, x) && len(r) == 0
	}
	for law, holds := range laws {
		if !holds {
			t.Fatalf("%s does not hold for x = %v, y = %v", law, x, y)
		}
	}
}

func checkWholeTripleLaws(t *testing.T, x impl.BigInt, y impl.BigInt, z impl.BigInt) {
	t.Helper()
	xy, yz := impl.BigIntMul(x, y), impl.BigIntMul(y, z)
	order, sign := impl.BigIntCmp(x, y), impl.BigIntCmp(z, plus())
	laws := map[string]bool{
		"(x + y) + z = x + (y + z)":          sameWhole(impl.BigIntAdd(impl.BigIntAdd(x, y), z), impl.BigIntAdd(x, impl.BigIntAdd(y, z))),
		"(x * y) * z = x * (y * z)":          sameWhole(impl.BigIntMul(xy, z), impl.BigIntMul(x, yz)),
		"x * (y + z) = x * y + x * z":        sameWhole(impl.BigIntMul(x, impl.BigIntAdd(y, z)), impl.BigIntAdd(xy, impl.BigIntMul(x, z))),
		"x < y if and only if x + z < y + z": order == impl.BigIntCmp(impl.BigIntAdd(x, z), impl.BigIntAdd(y, z)),
		"x < y: x * z < y * z if z > 0":      order*sign == impl.BigIntCmp(impl.BigIntMul(x, z), yz),
		"x <= y and y <= z together: x <= z": order > 0 || impl.BigIntCmp(y, z) > 0 || impl.BigIntCmp(x, z) <= 0,
	}
	for law, holds := range laws {
		if !holds {
			t.Fatalf("%s does not hold for x = %v, y = %v, z = %v", law, x, y, z)
		}
	}
}

func TestBigIntNeg(t *testing.T) {
	most := limbs(60, top)
	cases := []struct {
		x, want impl.BigInt
	}{
		{plus(), plus()}, {impl.BigInt{Mag: []int{}}, plus()}, {plus(7), minus(7)}, {minus(7), plus(7)}, {plus(0, 1), minus(0, 1)},
		{plus(most...), minus(most...)}, {minus(most...), plus(most...)},
	}
	for _, c := range cases {
		if got := impl.BigIntNeg(c.x); !sameWhole(got, c.want) {
			t.Errorf("BigIntNeg(%v) = %v, want %v", c.x, got, c.want)
		}
	}
}

func TestBigIntSumSigns(t *testing.T) {
	cases := []struct {
		x, y, sum, difference int
	}{
		{0, 0, 0, 0}, {0, 5, 5, -5}, {0, -5, -5, 5}, {5, 0, 5, 5}, {-5, 0, -5, -5},
		{7, 5, 12, 2}, {5, 7, 12, -2}, {-7, -5, -12, -2}, {-5, -7, -12, 2},
		{7, -5, 2, 12}, {-5, 7, 2, -12}, {-7, 5, -2, -12}, {5, -7, -2, 12},
		{5, 5, 10, 0}, {-5, -5, -10, 0}, {5, -5, 0, 10}, {-5, 5, 0, -10},
		{top, 1, impl.Base, top - 1}, {-top, -1, -impl.Base, -top + 1}, {impl.Base, -1, top, impl.Base + 1}, {1, -impl.Base, -top, impl.Base + 1},
	}
	for _, c := range cases {
		x, y := impl.BigIntOf(c.x), impl.BigIntOf(c.y)
		if got := impl.BigIntAdd(x, y); !sameWhole(got, impl.BigIntOf(c.sum)) {
			t.Errorf("BigIntAdd(%d, %d) = %v", c.x, c.y, got)
		}
		if got := impl.BigIntSub(x, y); !sameWhole(got, impl.BigIntOf(c.difference)) {
			t.Errorf("BigIntSub(%d, %d) = %v", c.x, c.y, got)
		}
	}
}

func TestBigIntSumLimits(t *testing.T) {
	most, half := limbs(60, top), append(limbs(59, 0), impl.Base/2)
	cases := []struct {
		x, y, want impl.BigInt
	}{
		{plus(most...), plus(), plus(most...)},
		{minus(most...), plus(), minus(most...)},
		{plus(most...), plus(1), plus()},
		{minus(most...), minus(1), plus()},
		{plus(most...), minus(1), plus(append([]int{top - 1}, limbs(59, top)...)...)},
		{minus(most...), plus(1), minus(append([]int{top - 1}, limbs(59, top)...)...)},
		{plus(most...), minus(most...), plus()},
		{plus(most...), plus(most...), plus()},
		{minus(most...), minus(most...), plus()},
		{plus(half...), plus(half...), plus()},
		{minus(half...), minus(half...), plus()},
		{plus(half...), minus(append([]int{1}, half[1:]...)...), minus(1)},
		{plus(limbs(59, top)...), plus(1), plus(power(59)...)},
		{minus(limbs(59, top)...), minus(1), minus(power(59)...)},
		{plus(power(59)...), minus(1), plus(limbs(59, top)...)},
		{minus(power(59)...), plus(limbs(59, top)...), minus(1)},
	}
	for _, c := range cases {
		for _, got := range []impl.BigInt{impl.BigIntAdd(c.x, c.y), impl.BigIntAdd(c.y, c.x), impl.BigIntSub(c.x, impl.BigIntNeg(c.y))} {
			if !sameWhole(got, c.want) {
				t.Errorf("the sum of %v and %v = %v, want %v", c.x, c.y, got, c.want)
			}
		}
	}
}

func TestBigIntMulSigns(t *testing.T) {
	for _, n := range []int{0, 1, -1, 2, -2, 30000, -30000, top, -top} {
		for _, m := range []int{0, 1, -1, 3, -3, 50000, -50000, impl.Base, -impl.Base} {
			if got := impl.BigIntMul(impl.BigIntOf(n), impl.BigIntOf(m)); !sameWhole(got, impl.BigIntOf(n*m)) {
				t.Errorf("BigIntMul(%d, %d) = %v", n, m, got)
			}
		}
	}
}

func TestBigIntMulLimits(t *testing.T) {
	for n := range 60 {
		for m := range 60 {
			for _, x := range withSigns([][]int{power(n), limbs(n, top)}) {
				for _, y := range withSigns([][]int{power(m), limbs(m, top)}) {
					wantWhole(t, "BigIntMul", impl.BigIntMul(x, y), new(big.Int).Mul(valueOf(x), valueOf(y)), x, y)
				}
			}
		}
	}
	for _, x := range withSigns([][]int{limbs(60, top), power(59)}) {
		if got := impl.BigIntMul(x, minus(1)); !sameWhole(got, impl.BigIntNeg(x)) {
			t.Errorf("BigIntMul(%v, -1) = %v", x, got)
		}
		for _, y := range withSigns([][]int{{0, 1}, power(59), limbs(60, top)}) {
			if got := impl.BigIntMul(x, y); !isZeroWhole(got) {
				t.Errorf("BigIntMul(%v, %v) = %v, want 0", x, y, got)
			}
		}
	}
}

func TestBigIntCmp(t *testing.T) {
	ascending := []impl.BigInt{
		minus(limbs(60, top)...), minus(power(59)...), minus(limbs(59, top)...), minus(0, 1), minus(top), minus(2), minus(1), plus(),
		plus(1), plus(2), plus(top), plus(0, 1), plus(1, 1), plus(0, 2), plus(limbs(59, top)...), plus(power(59)...), plus(limbs(60, top)...),
	}
	for i, x := range ascending {
		for j, y := range ascending {
			want := 0
			if i < j {
				want = -1
			} else if i > j {
				want = 1
			}
			if got := impl.BigIntCmp(x, y); got != want {
				t.Errorf("BigIntCmp(%v, %v) = %d, want %d", x, y, got, want)
			}
		}
	}
}

func TestBigIntFloorDivEdges(t *testing.T) {
	most := limbs(60, top)
	cases := []struct {
		x        impl.BigInt
		m        []int
		quotient impl.BigInt
		rest     []int
	}{
		{plus(), []int{1}, plus(), nil},
		{plus(), []int{7}, plus(), nil},
		{plus(), most, plus(), nil},
		{plus(7), []int{3}, plus(2), []int{1}},
		{minus(7), []int{3}, minus(3), []int{2}},
		{minus(6), []int{3}, minus(2), nil},
		{minus(8), []int{3}, minus(3), []int{1}},
		{minus(2), []int{3}, minus(1), []int{1}},
		{plus(2), []int{3}, plus(), []int{2}},
		{minus(3), []int{3}, minus(1), nil},
		{minus(7), []int{1}, minus(7), nil},
		{minus(1), []int{0, 1}, minus(1), []int{top}},
		{minus(1, 1), []int{0, 1}, minus(2), []int{top}},
		{minus(top, top), []int{0, 1}, minus(0, 1), []int{1}},
		{minus(1, top), []int{0, 1}, minus(0, 1), []int{top}},
		{plus(most...), []int{1}, plus(most...), nil},
		{minus(most...), []int{1}, minus(most...), nil},
		{minus(most...), most, minus(1), nil},
		{minus(1), most, minus(1), append([]int{top - 1}, limbs(59, top)...)},
		{minus(most...), power(59), minus(0, 1), []int{1}},
		{minus(most...), []int{0, 1}, minus(power(59)...), []int{1}},
	}
	for _, c := range cases {
		quotient, rest := impl.BigIntFloorDiv(c.x, c.m)
		if !sameWhole(quotient, c.quotient) || !slices.Equal(rest, c.rest) {
			t.Errorf("BigIntFloorDiv(%v, %v) = %v, %v, want %v, %v", c.x, c.m, quotient, rest, c.quotient, c.rest)
		}
	}
}

func TestP1BigIntFloorDivOfSmallInts(t *testing.T) {
	for n := -60; n <= 60; n++ {
		for m := 1; m <= 25; m++ {
			want := int(math.Floor(float64(n) / float64(m)))
			quotient, rest := impl.BigIntFloorDiv(impl.BigIntOf(n), impl.NatOf(m))
			if !sameWhole(quotient, impl.BigIntOf(want)) || !slices.Equal(rest, impl.NatOf(n-m*want)) {
				t.Errorf("BigIntFloorDiv(%d, %d) = %v, %v", n, m, quotient, rest)
			}
		}
	}
}

func TestBigIntFloorDivByInvalid(t *testing.T) {
	divisors := append(invalidNats(), nil, []int{})
	for _, x := range append(wholeSamples(), invalidWholes()...) {
		for _, m := range divisors {
			if q, r := impl.BigIntFloorDiv(x, m); !isZeroWhole(q) || len(r) != 0 {
				t.Errorf("BigIntFloorDiv(%v, %v) = %v, %v", x, m, q, r)
			}
		}
	}
	for _, x := range invalidWholes() {
		for _, m := range [][]int{{1}, {2}, {top}, {0, 1}, limbs(60, top)} {
			if q, r := impl.BigIntFloorDiv(x, m); !isZeroWhole(q) || len(r) != 0 {
				t.Errorf("BigIntFloorDiv(%v, %v) = %v, %v", x, m, q, r)
			}
		}
	}
}

func TestBigIntInvalidArguments(t *testing.T) {
	operations := map[string]func(x impl.BigInt, y impl.BigInt) impl.BigInt{
		"BigIntAdd": impl.BigIntAdd, "BigIntSub": impl.BigIntSub, "BigIntMul": impl.BigIntMul,
	}
	others := append(invalidWholes(), withSigns([][]int{nil, {1}, {0, 0, 1}, limbs(60, top)})...)
	for _, bad := range invalidWholes() {
		for _, other := range others {
			if impl.BigIntCmp(bad, other) != 0 || impl.BigIntCmp(other, bad) != 0 {
				t.Errorf("BigIntCmp of %v and %v is not 0", bad, other)
			}
			for name, operation := range operations {
				if got, turned := operation(bad, other), operation(other, bad); !isZeroWhole(got) || !isZeroWhole(turned) {
					t.Errorf("%s of %v and %v = %v, turned %v", name, bad, other, got, turned)
				}
			}
		}
		if got := impl.BigIntNeg(bad); !isZeroWhole(got) {
			t.Errorf("BigIntNeg(%v) = %v", bad, got)
		}
		if got := impl.FormatBigInt(bad); got != "" {
			t.Errorf("FormatBigInt(%v) = %q", bad, got)
		}
	}
}

func TestFormatBigInt(t *testing.T) {
	cases := []struct {
		x    impl.BigInt
		want string
	}{
		{plus(), "0"}, {impl.BigInt{Mag: []int{}}, "0"}, {plus(7), "7"}, {minus(7), "-7"}, {minus(10), "-10"}, {plus(0, 1), "1000000000"}, {minus(7, 1), "-1000000007"},
		{minus(7, 0, 12), "-12000000000000000007"}, {minus(limbs(60, top)...), "-" + strings.Repeat("9", 540)}, {minus(power(59)...), "-1" + strings.Repeat("0", 531)},
	}
	for _, c := range cases {
		if got := impl.FormatBigInt(c.x); got != c.want {
			t.Errorf("FormatBigInt(%v) = %q, want %q", c.x, got, c.want)
		}
	}
}

func TestP12BigIntsAreRecovered(t *testing.T) {
	samples := wholeSamples()
	r := rand.New(rand.NewSource(5))
	for range 2000 {
		samples = append(samples, randomWhole(r, 60))
	}
	for _, n := range intSamples() {
		samples = append(samples, impl.BigIntOf(n))
	}
	for _, x := range samples {
		s := impl.FormatBigInt(x)
		if s != valueOf(x).String() {
			t.Errorf("FormatBigInt(%v) = %q", x, s)
		}
		if got, ok := impl.ParseBigInt(s); !ok || !sameWhole(got, x) {
			t.Errorf("ParseBigInt(%q) = %v, %v", s, got, ok)
		}
	}
}

func TestParseBigIntOfEveryLength(t *testing.T) {
	for n := 1; n <= 550; n++ {
		for _, digits := range []string{strings.Repeat("9", n), "1" + strings.Repeat("0", n-1)} {
			for _, s := range []string{digits, "-" + digits} {
				value, _ := new(big.Int).SetString(s, 10)
				if got, ok := impl.ParseBigInt(s); ok != (n <= 540) || !sameWhole(got, wholeOf(value)) {
					t.Errorf("ParseBigInt(%q) = %v, %v", s, got, ok)
				}
			}
		}
	}
}

func TestParseBigIntInvalid(t *testing.T) {
	cases := []string{
		"", "-", "--", "-0", "--1", "-00", "00", "01", "-01", "007", "-007", "-0000000001", "+", "+0", "+1", "-+1", "+-1", "1-", "1-1", "-1-", "- 1", " -1", "-1 ", "-1\n",
		" ", " 1", "1 ", "\n1", "1_000", "-1_000", "1.0", "-1.5", "1/2", "-1/2", "1e9", "0x1", "-0x1", "a", "-a", "-1a", "nil",
		"\x00", "-\x00", "1\x00", "\xff", "-\xff", "\u22121", "\u2013", "-\u0663", "-\uff11", "-\xb1",
		"12345678-000000001", "-12345678-000000001", "-" + strings.Repeat("0", 540), "-" + strings.Repeat("0", 539) + "1", "-0" + strings.Repeat("9", 539),
		strings.Repeat("9", 541), "-" + strings.Repeat("9", 541), "-1" + strings.Repeat("0", 540), strings.Repeat("-", 5000), "-" + strings.Repeat("1", 100000),
	}
	for _, s := range cases {
		if x, ok := impl.ParseBigInt(s); ok || !isZeroWhole(x) {
			t.Errorf("ParseBigInt(%q) = %v, %v", s, x, ok)
		}
	}
}

func TestParseBigIntAcceptsOnlyFormattedBigInts(t *testing.T) {
	want := map[string]int{}
	for n := -9999; n < 100000; n++ {
		want[strconv.Itoa(n)] = n
	}
	for _, s := range textsUpTo(5, "0159-+ a") {
		n, isWhole := want[s]
		if x, ok := impl.ParseBigInt(s); ok != isWhole || !sameWhole(x, impl.BigIntOf(n)) {
			t.Errorf("ParseBigInt(%q) = %v, %v", s, x, ok)
		}
	}
}

// wholeCalls calls every function that takes or returns integers, and returns the integers it gets.
func wholeCalls(x impl.BigInt, y impl.BigInt) map[string]impl.BigInt {
	q, r := impl.BigIntFloorDiv(x, y.Mag)
	n, _ := impl.BigIntToInt(x)
	parsed, _ := impl.ParseBigInt(impl.FormatBigInt(x))
	impl.BigIntOk(x)
	impl.BigIntCmp(x, y)
	return map[string]impl.BigInt{
		"BigIntOf": impl.BigIntOf(n), "BigIntNeg": impl.BigIntNeg(x), "BigIntAdd": impl.BigIntAdd(x, y), "BigIntSub": impl.BigIntSub(x, y),
		"BigIntMul": impl.BigIntMul(x, y), "ParseBigInt": parsed, "quotient": q, "remainder": {Mag: r},
	}
}

// guarded is a list that shares its array with other values behind its end, as it was when it was made.
type guarded struct {
	list, array, before []int
}

func guard(l []int, behind ...int) guarded {
	array := append(slices.Clone(l), behind...)
	return guarded{array[:len(l)], array, slices.Clone(array)}
}

func (g guarded) unchanged() bool { return slices.Equal(g.array, g.before) }

func TestBigIntArgumentsStayAndResultsAreNew(t *testing.T) {
	numbers := withSigns([][]int{nil, {1}, {6}, {top}, {0, 1}, {4, 2}, {0, 0, 1}, {5, 4, 3, 2}, limbs(5, top), limbs(60, top), {0}, {-1, 1}})
	for _, x := range numbers {
		for _, y := range numbers {
			a, b := guard(x.Mag, 11, 12, 13), guard(y.Mag, 21, 22, 23)
			got := wholeCalls(impl.BigInt{Neg: x.Neg, Mag: a.list}, impl.BigInt{Neg: y.Neg, Mag: b.list})
			want := wholeCalls(x, y)
			checkWholesAre(t, got, want, "")
			for name := range got {
				fill(got[name].Mag, -5)
				checkWholesAre(t, got, want, name)
				if !a.unchanged() || !b.unchanged() {
					t.Fatalf("%v and %v were changed to %v and %v, or %s shares memory with them", x, y, a.array, b.array, name)
				}
				copy(got[name].Mag, want[name].Mag)
			}
		}
	}
}

// checkWholesAre compares all integers but the one whose memory was overwritten.
func checkWholesAre(t *testing.T, got map[string]impl.BigInt, want map[string]impl.BigInt, overwritten string) {
	t.Helper()
	for name := range got {
		if name != overwritten && !sameWhole(got[name], want[name]) {
			t.Fatalf("%s = %v, want %v (overwritten: %q)", name, got[name], want[name], overwritten)
		}
	}
}

func TestBigIntOperationsOfOneIntegerWithItself(t *testing.T) {
	for _, x := range wholeSamples() {
		checkWholeOperations(t, x, x)
	}
}
