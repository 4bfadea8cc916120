package tests

import (
	"math"
	"math/big"
	"math/rand"
	"slices"
	"strconv"
	"strings"
	"testing"

	"loop.example/g00802/impl"
)

const top = impl.Base - 1

// limbs returns n equal limbs.
func limbs(n int, limb int) []int { return slices.Repeat([]int{limb}, n) }

// power returns the number Base to the power n.
func power(n int) []int { return append(limbs(n, 0), 1) }

func bigOf(a []int) *big.Int {
	base, value := big.NewInt(impl.Base), new(big.Int)
	for i := len(a) - 1; i >= 0; i-- {
		value.Mul(value, base).Add(value, big.NewInt(int64(a[i])))
	}
	return value
}

// limbsOf returns the limbs of a value, or none if it is negative or has too many.
func limbsOf(value *big.Int) []int {
	var out []int
	base, rest, limb := big.NewInt(impl.Base), new(big.Int).Set(value), new(big.Int)
	for rest.Sign() > 0 {
		rest.QuoRem(rest, base, limb)
		out = append(out, int(limb.Int64()))
	}
	if len(out) > impl.MaxLimbs {
		return nil
	}
	return out
}

// randomNat favours the limbs at which carries, borrows and wrong guesses of quotients arise.
func randomNat(r *rand.Rand, most int) []int {
	out := make([]int, r.Intn(most+1))
	for i := range out {
		switch r.Intn(5) {
		case 0:
			out[i] = r.Intn(3)
		case 1:
			out[i] = top - r.Intn(3)
		default:
			out[i] = r.Intn(impl.Base)
		}
	}
	for len(out) > 0 && out[len(out)-1] == 0 {
		out = out[:len(out)-1]
	}
	return out
}

// natSamples returns the numbers at which something changes, and some others.
func natSamples() [][]int {
	out := [][]int{
		nil, {}, {1}, {2}, {3}, {7}, {12}, {360}, {top - 1}, {top}, {0, 1}, {1, 1}, {top, 1}, {0, top}, {top, top}, {0, 0, 1}, {top, 0, 1}, {1, top, top},
		{impl.Base / 2}, {impl.Base/2 - 1}, {0, impl.Base / 2}, {top, impl.Base/2 - 1}, {0, 0, top}, {0, top, top}, {top, 0, top}, {0, 1, 0, 1},
		{854775807, 223372036, 9}, {854775808, 223372036, 9}, {709551615, 446744073, 18},
	}
	for _, n := range []int{4, 29, 30, 31, 58, 59} {
		out = append(out, power(n), limbs(n, top), append(limbs(n-1, top), 1), append(limbs(n, 0), top), append([]int{1}, limbs(n, top)...))
	}
	out = append(out, limbs(60, top), limbs(60, 1), append(limbs(59, top), top-1))
	r := rand.New(rand.NewSource(1))
	for _, most := range []int{2, 3, 4, 8, 30, 60} {
		for range 4 {
			out = append(out, randomNat(r, most))
		}
	}
	return out
}

// invalidNats returns lists that are not natural numbers.
func invalidNats() [][]int {
	out := [][]int{
		{0}, {0, 0}, {1, 0}, {top, top, 0}, {-1}, {-1, 1}, {1, -1}, {1, -1, 1}, {impl.Base}, {impl.Base, 1}, {1, impl.Base}, {1, impl.Base, 1},
		{math.MaxInt}, {math.MinInt}, {math.MinInt, 1}, {1, math.MaxInt}, {1, math.MinInt},
		limbs(60, 0), append(limbs(59, 1), 0), append(limbs(59, 1), -1), append(limbs(59, 1), impl.Base), append([]int{-1}, limbs(59, 1)...),
		append([]int{impl.Base}, limbs(59, 1)...), limbs(61, 1), limbs(61, 0), limbs(61, top), power(60), append(limbs(60, 1), 0), limbs(5000, 1),
	}
	return out
}

func wantNat(t *testing.T, label string, got []int, want *big.Int, a []int, b []int) {
	t.Helper()
	if !slices.Equal(got, limbsOf(want)) {
		t.Fatalf("%s of %v and %v = %v, want %v", label, a, b, got, limbsOf(want))
	}
}

func TestNatConstants(t *testing.T) {
	if impl.Base != 1000000000 || impl.MaxLimbs != 60 {
		t.Errorf("Base = %d, MaxLimbs = %d", impl.Base, impl.MaxLimbs)
	}
}

func TestNatOk(t *testing.T) {
	for _, a := range natSamples() {
		if !impl.NatOk(a) {
			t.Errorf("NatOk(%v) = false", a)
		}
	}
	for _, a := range invalidNats() {
		if impl.NatOk(a) {
			t.Errorf("NatOk(%v) = true", a)
		}
	}
}

func TestNatOkLooksAtEveryLimb(t *testing.T) {
	for n := range 65 {
		a := limbs(n, 1)
		if got := impl.NatOk(a); got != (n <= 60) {
			t.Errorf("NatOk of %d limbs = %v", n, got)
		}
		for i := range min(n, 60) {
			for limb, want := range map[int]bool{0: i < n-1, top: true, -1: false, impl.Base: false} {
				a[i] = limb
				if got := impl.NatOk(a); got != (want && n <= 60) {
					t.Errorf("NatOk of %d limbs with %d at %d = %v", n, limb, i, got)
				}
			}
			a[i] = 1
		}
	}
}

func TestNatOf(t *testing.T) {
	for _, n := range intSamples() {
		if got, want := impl.NatOf(n), limbsOf(big.NewInt(int64(n))); !slices.Equal(got, want) {
			t.Errorf("NatOf(%d) = %v, want %v", n, got, want)
		}
	}
	if got := impl.NatOf(math.MaxInt); !slices.Equal(got, []int{854775807, 223372036, 9}) {
		t.Errorf("NatOf(MaxInt) = %v", got)
	}
}

func TestNatToInt(t *testing.T) {
	for _, n := range intSamples() {
		if got, ok := impl.NatToInt(impl.NatOf(n)); !ok || got != max(n, 0) {
			t.Errorf("NatToInt(NatOf(%d)) = %d, %v", n, got, ok)
		}
	}
	for _, a := range natSamples() {
		value := bigOf(a)
		want := 0
		if value.IsInt64() {
			want = int(value.Int64())
		}
		if got, ok := impl.NatToInt(a); ok != value.IsInt64() || got != want {
			t.Errorf("NatToInt(%v) = %d, %v", a, got, ok)
		}
	}
}

func TestNatToIntTooLarge(t *testing.T) {
	cases := append(invalidNats(), []int{854775808, 223372036, 9}, []int{854775807, 223372037, 9}, []int{0, 0, 10}, []int{709551616, 446744073, 18},
		[]int{709551617, 446744073, 18}, []int{0, 0, 0, 1}, []int{0, 0, top}, power(59), limbs(60, top))
	for _, a := range cases {
		if n, ok := impl.NatToInt(a); ok || n != 0 {
			t.Errorf("NatToInt(%v) = %d, %v, want 0, false", a, n, ok)
		}
	}
}

func TestP1NatOperations(t *testing.T) {
	samples := natSamples()
	for _, a := range samples {
		for _, b := range samples {
			checkNatOperations(t, a, b)
		}
	}
	r := rand.New(rand.NewSource(2))
	for range 20000 {
		checkNatOperations(t, randomNat(r, 60), randomNat(r, 60))
		checkNatOperations(t, randomNat(r, 6), randomNat(r, 4))
	}
}

// checkNatOperations compares the operations with math/big; a result with more than MaxLimbs limbs must be nil.
func checkNatOperations(t *testing.T, a []int, b []int) {
	t.Helper()
	x, y := bigOf(a), bigOf(b)
	if got := impl.NatCmp(a, b); got != x.Cmp(y) {
		t.Fatalf("NatCmp(%v, %v) = %d", a, b, got)
	}
	wantNat(t, "NatAdd", impl.NatAdd(a, b), new(big.Int).Add(x, y), a, b)
	wantNat(t, "NatSub", impl.NatSub(a, b), new(big.Int).Sub(x, y), a, b)
	wantNat(t, "NatMul", impl.NatMul(a, b), new(big.Int).Mul(x, y), a, b)
	wantNat(t, "NatGcd", impl.NatGcd(a, b), new(big.Int).GCD(nil, nil, x, y), a, b)
	quotient, rest := new(big.Int), new(big.Int)
	if y.Sign() > 0 {
		quotient.QuoRem(x, y, rest)
	}
	gotQuotient, gotRest := impl.NatDiv(a, b)
	wantNat(t, "quotient", gotQuotient, quotient, a, b)
	wantNat(t, "remainder", gotRest, rest, a, b)
}

func TestP1NatLaws(t *testing.T) {
	var small [][]int
	for _, a := range natSamples() {
		if len(a) <= 15 {
			small = append(small, a)
		}
	}
	for _, a := range small {
		for _, b := range small {
			checkNatPairLaws(t, a, b)
			for _, c := range small {
				checkNatTripleLaws(t, a, b, c)
			}
		}
	}
}

func checkNatPairLaws(t *testing.T, a []int, b []int) {
	t.Helper()
	sum := impl.NatAdd(a, b)
	product := impl.NatMul(a, b)
	laws := map[string]bool{
		"a + b = b + a":        slices.Equal(sum, impl.NatAdd(b, a)),
		"a * b = b * a":        slices.Equal(product, impl.NatMul(b, a)),
		"(a + b) - b = a":      slices.Equal(impl.NatSub(sum, b), a),
		"a - b or b - a is 0":  len(impl.NatSub(a, b)) == 0 || len(impl.NatSub(b, a)) == 0,
		"a < b if not b <= a":  impl.NatCmp(a, b) == -impl.NatCmp(b, a),
		"a = b only if equal":  (impl.NatCmp(a, b) == 0) == slices.Equal(a, b),
		"a + b is at least a":  impl.NatCmp(sum, a) >= 0,
		"gcd(a, b) is natural": impl.NatOk(impl.NatGcd(a, b)),
		"gcd(a, b) symmetric":  slices.Equal(impl.NatGcd(a, b), impl.NatGcd(b, a)),
	}
	if len(b) > 0 {
		q, r := impl.NatDiv(a, b)
		laws["a = (a / b) * b + rest"] = slices.Equal(impl.NatAdd(impl.NatMul(q, b), r), a)
		laws["the rest is less than b"] = impl.NatCmp(r, b) < 0 && impl.NatOk(r) && impl.NatOk(q)
		q, r = impl.NatDiv(product, b)
		laws["(a * b) / b = a"] = slices.Equal(q, a) && len(r) == 0
	}
	for law, holds := range laws {
		if !holds {
			t.Fatalf("%s does not hold for a = %v, b = %v", law, a, b)
		}
	}
}

func checkNatTripleLaws(t *testing.T, a []int, b []int, c []int) {
	t.Helper()
	laws := map[string]bool{
		"(a + b) + c = a + (b + c)":          slices.Equal(impl.NatAdd(impl.NatAdd(a, b), c), impl.NatAdd(a, impl.NatAdd(b, c))),
		"(a * b) * c = a * (b * c)":          slices.Equal(impl.NatMul(impl.NatMul(a, b), c), impl.NatMul(a, impl.NatMul(b, c))),
		"a * (b + c) = a * b + a * c":        slices.Equal(impl.NatMul(a, impl.NatAdd(b, c)), impl.NatAdd(impl.NatMul(a, b), impl.NatMul(a, c))),
		"a < b if and only if a + c < b + c": impl.NatCmp(a, b) == impl.NatCmp(impl.NatAdd(a, c), impl.NatAdd(b, c)),
		"a <= b and b <= c together: a <= c": impl.NatCmp(a, b) > 0 || impl.NatCmp(b, c) > 0 || impl.NatCmp(a, c) <= 0,
		"gcd(a * c, b * c) = gcd(a, b) * c":  slices.Equal(impl.NatGcd(impl.NatMul(a, c), impl.NatMul(b, c)), impl.NatMul(impl.NatGcd(a, b), c)),
		"gcd is associative":                 slices.Equal(impl.NatGcd(impl.NatGcd(a, b), c), impl.NatGcd(a, impl.NatGcd(b, c))),
	}
	for law, holds := range laws {
		if !holds {
			t.Fatalf("%s does not hold for a = %v, b = %v, c = %v", law, a, b, c)
		}
	}
}

func TestNatSumLimits(t *testing.T) {
	most := limbs(60, top)
	cases := []struct {
		a, b, want []int
	}{
		{nil, nil, nil},
		{[]int{1}, nil, []int{1}},
		{[]int{top}, []int{1}, []int{0, 1}},
		{limbs(59, top), []int{1}, power(59)},
		{most, nil, most},
		{most, []int{1}, nil},
		{most, most, nil},
		{append([]int{top - 1}, limbs(59, top)...), []int{1}, most},
		{append(limbs(59, 0), top), limbs(59, top), most},
		{append(limbs(59, 0), top), power(59), nil},
		{append(limbs(59, 0), impl.Base/2), append(limbs(59, 0), impl.Base/2), nil},
		{append(limbs(59, 0), impl.Base/2-1), append(limbs(59, 0), impl.Base/2), append(limbs(59, 0), top)},
	}
	for _, c := range cases {
		if got := impl.NatAdd(c.a, c.b); !slices.Equal(got, c.want) {
			t.Errorf("NatAdd(%v, %v) = %v, want %v", c.a, c.b, got, c.want)
		}
		if got := impl.NatAdd(c.b, c.a); !slices.Equal(got, c.want) {
			t.Errorf("NatAdd(%v, %v) = %v, want %v", c.b, c.a, got, c.want)
		}
	}
}

func TestNatSub(t *testing.T) {
	cases := []struct {
		a, b, want []int
	}{
		{nil, nil, nil},
		{[]int{5}, nil, []int{5}},
		{[]int{5}, []int{5}, nil},
		{[]int{4}, []int{5}, nil},
		{nil, []int{1}, nil},
		{[]int{top}, []int{0, 1}, nil},
		{[]int{0, 1}, []int{1}, []int{top}},
		{[]int{7, 5}, []int{3, 5}, []int{4}},
		{[]int{3, 5}, []int{7, 5}, nil},
		{power(59), []int{1}, limbs(59, top)},
		{power(59), limbs(59, top), []int{1}},
		{limbs(59, top), power(59), nil},
		{limbs(60, top), limbs(60, top), nil},
		{limbs(60, top), limbs(60, top-1), limbs(60, 1)},
	}
	for _, c := range cases {
		if got := impl.NatSub(c.a, c.b); !slices.Equal(got, c.want) {
			t.Errorf("NatSub(%v, %v) = %v, want %v", c.a, c.b, got, c.want)
		}
	}
}

func TestNatMulLimits(t *testing.T) {
	for n := range 60 {
		for m := range 60 {
			var want []int
			if n+m < 60 {
				want = power(n + m)
			}
			if got := impl.NatMul(power(n), power(m)); !slices.Equal(got, want) {
				t.Errorf("Base^%d * Base^%d = %v", n, m, got)
			}
			square := new(big.Int).Mul(bigOf(limbs(n, top)), bigOf(limbs(m, top)))
			wantNat(t, "NatMul", impl.NatMul(limbs(n, top), limbs(m, top)), square, limbs(n, top), limbs(m, top))
		}
	}
	cases := []struct {
		a, b, want []int
	}{
		{limbs(60, top), nil, nil},
		{limbs(60, top), []int{1}, limbs(60, top)},
		{limbs(60, top), []int{2}, nil},
		{limbs(60, top), limbs(60, top), nil},
		{limbs(60, 1), []int{top}, limbs(60, top)},
		{limbs(60, 1), []int{0, 1}, nil},
		{limbs(59, 1), []int{0, top}, append([]int{0}, limbs(59, top)...)},
	}
	for _, c := range cases {
		if got := impl.NatMul(c.a, c.b); !slices.Equal(got, c.want) {
			t.Errorf("NatMul(%v, %v) = %v, want %v", c.a, c.b, got, c.want)
		}
	}
}

func TestNatDivEdges(t *testing.T) {
	cases := []struct {
		a, b, quotient, rest []int
	}{
		{nil, []int{1}, nil, nil},
		{nil, limbs(60, top), nil, nil},
		{[]int{7}, []int{1}, []int{7}, nil},
		{[]int{7}, []int{2}, []int{3}, []int{1}},
		{[]int{7}, []int{7}, []int{1}, nil},
		{[]int{6}, []int{7}, nil, []int{6}},
		{[]int{6}, []int{0, 1}, nil, []int{6}},
		{[]int{0, 1}, []int{top}, []int{1}, []int{1}},
		{limbs(60, top), []int{1}, limbs(60, top), nil},
		{limbs(60, top), []int{top}, limbs(60, 1), nil},
		{limbs(60, top), limbs(60, top), []int{1}, nil},
		{limbs(60, top), power(59), []int{top}, limbs(59, top)},
		{limbs(59, top), power(59), nil, limbs(59, top)},
		{limbs(60, top), limbs(30, top), append(append([]int{1}, limbs(29, 0)...), 1), nil},
	}
	for _, c := range cases {
		quotient, rest := impl.NatDiv(c.a, c.b)
		if !slices.Equal(quotient, c.quotient) || !slices.Equal(rest, c.rest) {
			t.Errorf("NatDiv(%v, %v) = %v, %v, want %v, %v", c.a, c.b, quotient, rest, c.quotient, c.rest)
		}
	}
}

func TestNatDivByZero(t *testing.T) {
	for _, a := range append(natSamples(), invalidNats()...) {
		for _, zero := range [][]int{nil, {}} {
			if q, r := impl.NatDiv(a, zero); q != nil || r != nil {
				t.Errorf("NatDiv(%v, 0) = %v, %v", a, q, r)
			}
		}
	}
}

// A dividend just below or at a multiple of the divisor is where a guessed limb of the quotient is wrong by one.
func TestP1NatDivAtTheEdgesOfQuotients(t *testing.T) {
	samples := natSamples()
	for _, q := range samples {
		for _, d := range samples {
			if len(d) == 0 || len(q)+len(d) > 60 {
				continue
			}
			for _, r := range [][]int{nil, impl.NatSub(d, []int{1}), impl.NatSub(d, []int{2})} {
				a := limbsOf(new(big.Int).Add(new(big.Int).Mul(bigOf(q), bigOf(d)), bigOf(r)))
				gotQ, gotR := impl.NatDiv(a, d)
				if !slices.Equal(gotQ, q) || !slices.Equal(gotR, r) {
					t.Fatalf("NatDiv(%v, %v) = %v, %v, want %v, %v", a, d, gotQ, gotR, q, r)
				}
			}
		}
	}
}

func TestNatGcd(t *testing.T) {
	cases := []struct {
		a, b, want []int
	}{
		{nil, nil, nil},
		{nil, []int{1}, []int{1}},
		{nil, []int{0, 6}, []int{0, 6}},
		{nil, limbs(60, top), limbs(60, top)},
		{[]int{1}, limbs(60, top), []int{1}},
		{[]int{84}, []int{36}, []int{12}},
		{[]int{35}, []int{64}, []int{1}},
		{[]int{0, 0, 1}, []int{0, 1}, []int{0, 1}},
		{[]int{0, 0, 1}, []int{6}, []int{2}},
		{[]int{0, 0, 0, 1}, []int{0, 0, 6}, []int{0, 0, 2}},
		{limbs(60, top), limbs(60, top), limbs(60, top)},
		{limbs(60, top), limbs(45, top), limbs(15, top)},
		{limbs(60, 1), limbs(59, 1), []int{1}},
		{power(59), []int{0, 0, 3}, []int{0, 0, 1}},
	}
	for _, c := range cases {
		for _, got := range [][]int{impl.NatGcd(c.a, c.b), impl.NatGcd(c.b, c.a)} {
			if !slices.Equal(got, c.want) {
				t.Errorf("NatGcd of %v and %v = %v, want %v", c.a, c.b, got, c.want)
			}
		}
	}
}

// Neighbours in the sequence of Fibonacci need the greatest number of steps.
func TestNatGcdOfFibonacciNumbers(t *testing.T) {
	a, b := []int{1}, []int{1}
	for steps := 0; ; steps++ {
		next := impl.NatAdd(a, b)
		if len(next) == 0 {
			if steps < 2500 {
				t.Errorf("only %d Fibonacci numbers fit", steps)
			}
			return
		}
		a, b = b, next
		if steps%50 == 0 && !slices.Equal(impl.NatGcd(a, b), []int{1}) {
			t.Fatalf("NatGcd(%v, %v) is not 1", a, b)
		}
	}
}

func TestNatInvalidArguments(t *testing.T) {
	operations := map[string]func(a []int, b []int) [][]int{
		"NatAdd": func(a []int, b []int) [][]int { return [][]int{impl.NatAdd(a, b)} },
		"NatSub": func(a []int, b []int) [][]int { return [][]int{impl.NatSub(a, b)} },
		"NatMul": func(a []int, b []int) [][]int { return [][]int{impl.NatMul(a, b)} },
		"NatDiv": func(a []int, b []int) [][]int { q, r := impl.NatDiv(a, b); return [][]int{q, r} },
		"NatGcd": func(a []int, b []int) [][]int { return [][]int{impl.NatGcd(a, b)} },
	}
	others := append(invalidNats(), nil, []int{1}, []int{0, 0, 1}, limbs(60, top))
	for _, bad := range invalidNats() {
		for _, other := range others {
			if impl.NatCmp(bad, other) != 0 || impl.NatCmp(other, bad) != 0 {
				t.Errorf("NatCmp of %v and %v is not 0", bad, other)
			}
			for name, operation := range operations {
				for _, got := range append(operation(bad, other), operation(other, bad)...) {
					if len(got) != 0 {
						t.Errorf("%s of %v and %v = %v", name, bad, other, got)
					}
				}
			}
		}
		if got := impl.FormatNat(bad); got != "" {
			t.Errorf("FormatNat(%v) = %q", bad, got)
		}
	}
}

func TestFormatNat(t *testing.T) {
	cases := []struct {
		a    []int
		want string
	}{
		{nil, "0"}, {[]int{}, "0"}, {[]int{7}, "7"}, {[]int{10}, "10"}, {[]int{top}, "999999999"}, {[]int{0, 1}, "1000000000"}, {[]int{7, 1}, "1000000007"},
		{[]int{7, 0, 12}, "12000000000000000007"}, {[]int{123, 45, 6}, "6000000045000000123"}, {[]int{100000000, 1}, "1100000000"},
		{limbs(60, top), strings.Repeat("9", 540)}, {power(59), "1" + strings.Repeat("0", 531)}, {limbs(60, 1), "1" + strings.Repeat("000000001", 59)},
	}
	for _, c := range cases {
		if got := impl.FormatNat(c.a); got != c.want {
			t.Errorf("FormatNat(%v) = %q, want %q", c.a, got, c.want)
		}
	}
}

func TestP12NatsAreRecovered(t *testing.T) {
	samples := natSamples()
	r := rand.New(rand.NewSource(3))
	for range 2000 {
		samples = append(samples, randomNat(r, 60))
	}
	for _, a := range samples {
		s := impl.FormatNat(a)
		if s != bigOf(a).String() {
			t.Errorf("FormatNat(%v) = %q", a, s)
		}
		if got, ok := impl.ParseNat(s); !ok || !slices.Equal(got, a) {
			t.Errorf("ParseNat(%q) = %v, %v", s, got, ok)
		}
	}
}

func TestParseNatOfEveryLength(t *testing.T) {
	for n := 1; n <= 550; n++ {
		for _, s := range []string{strings.Repeat("9", n), "1" + strings.Repeat("0", n-1), strings.Repeat("7", n)} {
			got, ok := impl.ParseNat(s)
			value, _ := new(big.Int).SetString(s, 10)
			if ok != (n <= 540) || !slices.Equal(got, limbsOf(value)) {
				t.Errorf("ParseNat of %d digits = %v, %v", n, got, ok)
			}
		}
	}
}

func TestParseNatInvalid(t *testing.T) {
	cases := []string{
		"", "00", "01", "007", "0000000000", "0000000001", "0" + strings.Repeat("9", 539), strings.Repeat("0", 540), strings.Repeat("0", 541),
		"-", "+", "-1", "+1", "-0", "+0", " ", " 1", "1 ", "1 000", "1\n", "\n", "1_000", "1,000", "1.0", "1e9", "0x1", "a", "1a", "a1", "1-1",
		"12345678-000000001", "1234567890-00000001", "1+00000001", "1 00000001", "1-00000001", "_00000001", "-000000001", "1_00000000",
		"\x00", "1\x00", "\xff", "1\xff", "\u0663", "\uff11", "1\u0301", "\xc0\xb1", "\xb1",
		"1" + strings.Repeat("0", 540), strings.Repeat("9", 541), strings.Repeat("9", 100000), strings.Repeat("1", 539) + "x",
	}
	for _, s := range cases {
		if a, ok := impl.ParseNat(s); ok || len(a) != 0 {
			t.Errorf("ParseNat(%q) = %v, %v", s, a, ok)
		}
	}
}

func TestParseNatAcceptsOnlyFormattedNats(t *testing.T) {
	want := map[string]int{}
	for n := range 100000 {
		want[strconv.Itoa(n)] = n
	}
	for _, s := range textsUpTo(5, "0159-+ a") {
		n, isNat := want[s]
		if a, ok := impl.ParseNat(s); ok != isNat || !slices.Equal(a, impl.NatOf(n)) {
			t.Errorf("ParseNat(%q) = %v, %v", s, a, ok)
		}
	}
}

// natCalls calls every function that takes or returns lists, and returns the lists it gets.
func natCalls(a []int, b []int) map[string][]int {
	q, r := impl.NatDiv(a, b)
	n, _ := impl.NatToInt(a)
	parsed, _ := impl.ParseNat(impl.FormatNat(a))
	impl.NatOk(a)
	impl.NatCmp(a, b)
	return map[string][]int{
		"NatOf": impl.NatOf(n), "NatAdd": impl.NatAdd(a, b), "NatSub": impl.NatSub(a, b), "NatMul": impl.NatMul(a, b),
		"quotient": q, "remainder": r, "NatGcd": impl.NatGcd(a, b), "ParseNat": parsed,
	}
}

// fill sets a list up to its capacity.
func fill(l []int, value int) {
	l = l[:cap(l)]
	for i := range l {
		l[i] = value
	}
}

func TestNatArgumentsStayAndResultsAreNew(t *testing.T) {
	numbers := [][]int{nil, {}, {1}, {6}, {top}, {0, 1}, {4, 2}, {0, 0, 1}, {5, 4, 3, 2}, limbs(5, top), limbs(60, top), {0}, {-1, 1}}
	for _, x := range numbers {
		for _, y := range numbers {
			a, b := append(slices.Clone(x), 11, 12, 13)[:len(x)], append(slices.Clone(y), 21, 22, 23)[:len(y)]
			want := natCalls(slices.Clone(x), slices.Clone(y))
			got := natCalls(a, b)
			for name := range got {
				before := map[string][]int{}
				for other, l := range got {
					before[other] = slices.Clone(l)
				}
				if !slices.Equal(got[name], want[name]) {
					t.Fatalf("%s of %v and %v = %v, want %v", name, x, y, got[name], want[name])
				}
				fill(got[name], -5)
				for other, l := range got {
					if other != name && !slices.Equal(l, before[other]) {
						t.Fatalf("of %v and %v, %s shares memory with %s", x, y, name, other)
					}
				}
				copy(got[name], before[name])
			}
			if !slices.Equal(a[:len(a)+3], append(slices.Clone(x), 11, 12, 13)) || !slices.Equal(b[:len(b)+3], append(slices.Clone(y), 21, 22, 23)) {
				t.Fatalf("%v and %v were changed to %v and %v", x, y, a[:len(a)+3], b[:len(b)+3])
			}
		}
	}
}

func TestNatOperationsOfOneListWithItself(t *testing.T) {
	for _, a := range natSamples() {
		checkNatOperations(t, a, a)
	}
}
