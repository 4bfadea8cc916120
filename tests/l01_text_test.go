package tests

import (
	"math"
	"slices"
	"strconv"
	"strings"
	"testing"

	"loop.example/g00802/impl"
)

// intSamples returns the ints at which the number of digits or the sign changes, and their neighbours.
func intSamples() []int {
	out := []int{0, math.MinInt, math.MinInt + 1, math.MaxInt, math.MaxInt - 1}
	for p := 1; p <= math.MaxInt/10; p *= 10 {
		out = append(out, p-1, p, p+1, -p+1, -p, -p-1)
	}
	for k := range 63 {
		out = append(out, 1<<k, -(1 << k), 1<<k-1)
	}
	return out
}

// textsUpTo returns all texts of at most n bytes from an alphabet.
func textsUpTo(n int, alphabet string) []string {
	out := []string{""}
	for start := 0; n > 0; n-- {
		end := len(out)
		for _, s := range out[start:end] {
			for i := range len(alphabet) {
				out = append(out, s+alphabet[i:i+1])
			}
		}
		start = end
	}
	return out
}

func TestFormatInt(t *testing.T) {
	cases := map[int]string{
		0: "0", 7: "7", -7: "-7", 10: "10", -10: "-10", 1000000000: "1000000000", 907: "907",
		math.MaxInt: "9223372036854775807",
		math.MinInt: "-9223372036854775808",
	}
	for n, want := range cases {
		if got := impl.FormatInt(n); got != want {
			t.Errorf("FormatInt(%d) = %q, want %q", n, got, want)
		}
	}
}

func TestP12IntsAreRecovered(t *testing.T) {
	for _, n := range intSamples() {
		s := impl.FormatInt(n)
		if s != strconv.FormatInt(int64(n), 10) {
			t.Errorf("FormatInt(%d) = %q", n, s)
		}
		if got, ok := impl.ParseInt(s); !ok || got != n {
			t.Errorf("ParseInt(%q) = %d, %v", s, got, ok)
		}
	}
}

func TestParseIntInvalid(t *testing.T) {
	cases := []string{
		"", "-", "+", "+0", "+1", "-0", "--1", "-+1", "1-", "00", "01", "007", "-01", "-00",
		" ", " 1", "1 ", "\n1", "1\n", "1_000", "_1", "0x1", "0b1", "0o7", "1.0", "1.", "1e3", "1,000", "a", "1a", "nil",
		"9223372036854775808", "-9223372036854775809", "18446744073709551616", "99999999999999999999", "-99999999999999999999",
		"09223372036854775807", strings.Repeat("9", 5000), "-" + strings.Repeat("0", 5000) + "1",
		"\x00", "1\x00", "\xff", "1\xff", "\xff1", "-\x80", "\xb1", "\u0663", "\uff11", "\u22121", "1\u0301", "\xc0\xb1", "\xed\xa0\x80",
	}
	for _, s := range cases {
		if n, ok := impl.ParseInt(s); ok || n != 0 {
			t.Errorf("ParseInt(%q) = %d, %v, want 0, false", s, n, ok)
		}
	}
}

func TestParseIntAcceptsOnlyFormattedInts(t *testing.T) {
	want := map[string]int{}
	for n := -999; n <= 9999; n++ {
		want[strconv.Itoa(n)] = n
	}
	for _, s := range textsUpTo(4, "-+0129 _x.\xff") {
		n, ok := impl.ParseInt(s)
		if w, isInt := want[s]; ok != isInt || n != w {
			t.Errorf("ParseInt(%q) = %d, %v, want %d, %v", s, n, ok, w, isInt)
		}
	}
}

func TestIsDigits(t *testing.T) {
	cases := map[string]bool{
		"": false, "0": true, "9": true, "007": true, "0123456789": true, strings.Repeat("0", 3000): true,
		"-1": false, "+1": false, "1.5": false, " 1": false, "1 ": false, "1a": false, "a1": false, "12-34": false, "1\n": false,
		"\xff": false, "1\xff": false, "\xff1": false, "1\x80\x802": false, "\u0663": false, "\uff11": false, "\xb1": false, "\xc0\xb0": false,
	}
	for s, want := range cases {
		if got := impl.IsDigits(s); got != want {
			t.Errorf("IsDigits(%q) = %v", s, got)
		}
	}
	for b := range 256 {
		want := b >= '0' && b <= '9'
		for _, s := range []string{string([]byte{byte(b)}), string([]byte{byte(b), '5'}), string([]byte{'5', byte(b)})} {
			if impl.IsDigits(s) != want {
				t.Errorf("IsDigits(%q) is not %v", s, want)
			}
		}
	}
}

func TestIsName(t *testing.T) {
	cases := map[string]bool{
		"": false, "a": true, "z": true, "x1": true, "a0z9": true, "abcdefgh": true, "a1234567": true, "zzzzzzzz": true,
		"abcdefghi": false, "a12345678": false, strings.Repeat("a", 3000): false,
		"1x": false, "0": false, "X": false, "xY": false, "x_1": false, "x-1": false, " x": false, "x ": false, "x y": false, "x\n": false,
		"\xff": false, "x\xff": false, "\xffx": false, "é": false, "xé": false, "x\u0663": false, "x\xe1": false, "\xc1\xa1": false,
	}
	for s, want := range cases {
		if got := impl.IsName(s); got != want {
			t.Errorf("IsName(%q) = %v", s, got)
		}
	}
	for b := range 256 {
		letter := b >= 'a' && b <= 'z'
		digit := b >= '0' && b <= '9'
		if s := string([]byte{byte(b)}); impl.IsName(s) != letter {
			t.Errorf("IsName(%q) is not %v", s, letter)
		}
		for _, s := range []string{string([]byte{'q', byte(b)}), string([]byte{'q', 'q', byte(b), 'q'}), string([]byte{'a', 'b', 'c', 'd', 'e', 'f', 'g', byte(b)})} {
			if impl.IsName(s) != (letter || digit) {
				t.Errorf("IsName(%q) is not %v", s, letter || digit)
			}
		}
	}
}

func TestIsNameLength(t *testing.T) {
	for n := range 20 {
		if got := impl.IsName(strings.Repeat("k", n)); got != (n >= 1 && n <= 8) {
			t.Errorf("IsName of %d bytes = %v", n, got)
		}
	}
}

func TestSplitAny(t *testing.T) {
	cases := []struct {
		s, by string
		want  []string
	}{
		{"a,b c", ", ", []string{"a", "b", "c"}},
		{"abc", ",", []string{"abc"}},
		{"", ",", []string{""}},
		{"", "", []string{""}},
		{"a,b", "", []string{"a,b"}},
		{",", ",", []string{"", ""}},
		{",a", ",", []string{"", "a"}},
		{"a,", ",", []string{"a", ""}},
		{",a,", ",", []string{"", "a", ""}},
		{"a,,b", ",", []string{"a", "", "b"}},
		{"a, b", ", ", []string{"a", "", "b"}},
		{"a,b", ",,,", []string{"a", "b"}},
		{"aba", "ab", []string{"", "", "", ""}},
		{"a\x00b", "\x00", []string{"a", "b"}},
		{"a\xffb\xfec", "\xff", []string{"a", "b\xfec"}},
		{"a\xffb\xfec", "\xff\xfe", []string{"a", "b", "c"}},
		{"aéb", "é", []string{"a", "", "b"}},
		{"aéb", "\xa9", []string{"a\xc3", "b"}},
		{"aéb", "\xe9", []string{"aéb"}},
		{"a\xa9b", "é", []string{"a", "b"}},
		{"a\ufffdb", "\xff", []string{"a\ufffdb"}},
		{"a\xffb", "\ufffd", []string{"a\xffb"}},
	}
	for _, c := range cases {
		if got := impl.SplitAny(c.s, c.by); !slices.Equal(got, c.want) {
			t.Errorf("SplitAny(%q, %q) = %q, want %q", c.s, c.by, got, c.want)
		}
	}
}

func TestSplitAnyAtEveryByte(t *testing.T) {
	for b := range 256 {
		by := string([]byte{byte(b)})
		other := string([]byte{byte(b + 1)})
		got := impl.SplitAny(by+other+by+by+other, by)
		if want := []string{"", other, "", other}; !slices.Equal(got, want) {
			t.Errorf("SplitAny at byte %d = %q, want %q", b, got, want)
		}
	}
}

func TestSplitAnyPartsMakeUpTheText(t *testing.T) {
	for _, s := range textsUpTo(5, "ab,\xc3\xa9") {
		for _, by := range []string{"", ",", "b,", "é", "\xa9"} {
			parts := impl.SplitAny(s, by)
			at := 0
			for i, p := range parts {
				if i > 0 {
					if at >= len(s) || strings.IndexByte(by, s[at]) < 0 {
						t.Fatalf("SplitAny(%q, %q) = %q: no separator before part %d", s, by, parts, i)
					}
					at++
				}
				if !strings.HasPrefix(s[at:], p) || slices.ContainsFunc([]byte(p), func(b byte) bool { return strings.IndexByte(by, b) >= 0 }) {
					t.Fatalf("SplitAny(%q, %q) = %q: part %d is wrong", s, by, parts, i)
				}
				at += len(p)
			}
			if at != len(s) || len(parts) == 0 {
				t.Fatalf("SplitAny(%q, %q) = %q: text is missing", s, by, parts)
			}
		}
	}
}

func TestSplitLines(t *testing.T) {
	cases := []struct {
		s    string
		want []string
	}{
		{"", nil},
		{"\n", []string{""}},
		{"\n\n", []string{"", ""}},
		{"a", []string{"a"}},
		{"a\n", []string{"a"}},
		{"a\n\n", []string{"a", ""}},
		{"\na", []string{"", "a"}},
		{"a\nb", []string{"a", "b"}},
		{"a\nb\n", []string{"a", "b"}},
		{"a\n\nb", []string{"a", "", "b"}},
		{"a\n ", []string{"a", " "}},
		{"a\r\nb\r", []string{"a\r", "b\r"}},
		{"a\vb\fc\u2028d\u0085e", []string{"a\vb\fc\u2028d\u0085e"}},
		{"\xff\n\xc3\n\x80", []string{"\xff", "\xc3", "\x80"}},
		{"a\x00\nb", []string{"a\x00", "b"}},
	}
	for _, c := range cases {
		if got := impl.SplitLines(c.s); !slices.Equal(got, c.want) {
			t.Errorf("SplitLines(%q) = %q, want %q", c.s, got, c.want)
		}
	}
}

func TestP12LinesAreRecovered(t *testing.T) {
	for _, s := range textsUpTo(6, "a\n\r\xff") {
		lines := impl.SplitLines(s)
		whole := impl.Join(lines, "\n")
		if len(lines) > 0 && strings.HasSuffix(s, "\n") {
			whole += "\n"
		}
		if whole != s || slices.ContainsFunc(lines, func(l string) bool { return strings.Contains(l, "\n") }) {
			t.Errorf("SplitLines(%q) = %q", s, lines)
		}
	}
}

func TestP12WordsAreRecovered(t *testing.T) {
	words := textsUpTo(2, "ab\xff")
	for _, a := range words {
		for _, b := range words {
			for _, l := range [][]string{{a}, {a, b}, {b, "", a}} {
				if got := impl.SplitAny(impl.Join(l, " "), " "); !slices.Equal(got, l) {
					t.Errorf("%q is recovered as %q", l, got)
				}
			}
		}
	}
}

func TestJoin(t *testing.T) {
	cases := []struct {
		l    []string
		by   string
		want string
	}{
		{nil, ",", ""},
		{[]string{}, ",", ""},
		{[]string{""}, ",", ""},
		{[]string{"a"}, ",", "a"},
		{[]string{"a", "b"}, "", "ab"},
		{[]string{"a", "b", "c"}, "-", "a-b-c"},
		{[]string{"a", "b", "c"}, " + ", "a + b + c"},
		{[]string{"", ""}, ",", ","},
		{[]string{"", "a", ""}, ",", ",a,"},
		{[]string{"a,", ",b"}, ",", "a,,,b"},
		{[]string{"\xff", "\xc3"}, "\x80", "\xff\x80\xc3"},
	}
	for _, c := range cases {
		if got := impl.Join(c.l, c.by); got != c.want {
			t.Errorf("Join(%q, %q) = %q, want %q", c.l, c.by, got, c.want)
		}
	}
}

func TestPadZeros(t *testing.T) {
	long := strings.Repeat("1", 2000)
	cases := []struct {
		s    string
		n    int
		want string
	}{
		{"7", 3, "007"}, {"7", 2, "07"}, {"7", 1, "7"}, {"7", 0, "7"}, {"7", -1, "7"},
		{"7", math.MinInt, "7"}, {"7", math.MaxInt, "7"},
		{"", 0, ""}, {"", 1, "0"}, {"", 4, "0000"}, {"", math.MinInt, ""}, {"", math.MaxInt, ""},
		{"123", 2, "123"}, {"123", 3, "123"}, {"123", 4, "0123"}, {"-5", 4, "00-5"}, {"abc", 5, "00abc"},
		{"", 2000, strings.Repeat("0", 2000)}, {"7", 2000, strings.Repeat("0", 1999) + "7"}, {"7", 1999, strings.Repeat("0", 1998) + "7"},
		{"", 2001, ""}, {"7", 2001, "7"},
		{long, 2000, long}, {long, 2001, long}, {long[1:], 2000, "0" + long[1:]}, {long + long, 2000, long + long}, {long + long, 3999, long + long},
		{"é", 2, "é"}, {"é", 3, "0é"}, {"\xff", 3, "00\xff"}, {"\xc3", 1, "\xc3"},
	}
	for _, c := range cases {
		if got := impl.PadZeros(c.s, c.n); got != c.want {
			t.Errorf("PadZeros(%q, %d) = %q, want %q", c.s, c.n, got, c.want)
		}
	}
}

func TestPadZerosOfEveryLength(t *testing.T) {
	for _, s := range []string{"", "9", "42", "\xff\xfe"} {
		padded := s
		for n := -2; n <= 2005; n++ {
			if len(padded) < n {
				padded = "0" + padded
			}
			want := padded
			if n > 2000 {
				want = s
			}
			if got := impl.PadZeros(s, n); got != want {
				t.Fatalf("PadZeros(%q, %d) has %d bytes", s, n, len(got))
			}
		}
	}
}

func TestJoinKeepsItsArguments(t *testing.T) {
	whole := []string{"a", "b", "spare", "spare"}
	impl.Join(whole[:2], ",")
	if want := []string{"a", "b", "spare", "spare"}; !slices.Equal(whole, want) {
		t.Errorf("Join left %q of its argument", whole)
	}
}

func TestSplitResultsAreNew(t *testing.T) {
	splits := map[string]func() []string{
		"SplitAny":   func() []string { return impl.SplitAny("a,b,c", ",") },
		"SplitLines": func() []string { return impl.SplitLines("a\nb\nc\n") },
	}
	for name, split := range splits {
		first := split()
		for i := range first {
			first[i] = "changed"
		}
		_ = append(first, "added")
		if got := split(); !slices.Equal(got, []string{"a", "b", "c"}) {
			t.Errorf("%s returns %q after an earlier result was changed", name, got)
		}
	}
}
