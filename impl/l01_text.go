package impl

import (
	"strconv"
	"strings"
)

const (
	maxName = 8
	maxPad  = 2000
)

func FormatInt(n int) string { return strconv.Itoa(n) }

func ParseInt(s string) (int, bool) {
	n, err := strconv.Atoi(s)
	// Atoi also reads a plus sign, leading zeros and "-0", which FormatInt never writes.
	if err != nil || FormatInt(n) != s {
		return 0, false
	}
	return n, true
}

func IsDigits(s string) bool {
	for _, r := range s {
		if !isDigit(r) {
			return false
		}
	}
	return s != ""
}

func IsName(s string) bool {
	for i, r := range s {
		if !isLetter(r) && (i == 0 || !isDigit(r)) {
			return false
		}
	}
	return s != "" && len(s) <= maxName
}

func isDigit(r rune) bool { return r >= '0' && r <= '9' }

func isLetter(r rune) bool { return r >= 'a' && r <= 'z' }

// SplitAny looks at bytes, not runes: a character of several bytes in by stands for each of them.
func SplitAny(s string, by string) []string {
	var splits [256]bool
	for i := range len(by) {
		splits[by[i]] = true
	}
	var parts []string
	start := 0
	for i := range len(s) {
		if splits[s[i]] {
			parts = append(parts, s[start:i])
			start = i + 1
		}
	}
	return append(parts, s[start:])
}

func SplitLines(s string) []string {
	lines := SplitAny(s, "\n")
	last := len(lines) - 1
	if lines[last] == "" {
		return lines[:last]
	}
	return lines
}

func Join(l []string, by string) string { return joinParts(by, l...) }

// joinParts is variadic so that texts of a fixed number of parts need no slice of their own.
func joinParts(by string, parts ...string) string { return strings.Join(parts, by) }

func PadZeros(s string, n int) string {
	if len(s) >= n || n > maxPad {
		return s
	}
	return joinParts("", strings.Repeat("0", n-len(s)), s)
}
