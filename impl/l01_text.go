package impl

import (
	"strconv"
	"strings"
)

// longestPadding bounds what PadZeros allocates for a mistaken width.
const longestPadding = 2000

func FormatInt(n int) string { return strconv.Itoa(n) }

func ParseInt(s string) (int, bool) {
	n, err := strconv.Atoi(s)
	// Atoi also takes "+1", "-0" and leading zeros, which FormatInt never writes.
	if err != nil || FormatInt(n) != s {
		return 0, false
	}
	return n, true
}

// IsDigits and IsName may scan by runes although the document speaks of bytes:
// no byte of 128 or above, valid UTF-8 or not, decodes to a rune below 128.

func IsDigits(s string) bool {
	for _, r := range s {
		if !isDigit(r) {
			return false
		}
	}
	return s != ""
}

func IsName(s string) bool {
	if len(s) < 1 || len(s) > 8 {
		return false
	}
	for i, r := range s {
		if !isLetter(r) && (i == 0 || !isDigit(r)) {
			return false
		}
	}
	return true
}

func isDigit(r rune) bool { return r >= '0' && r <= '9' }

func isLetter(r rune) bool { return r >= 'a' && r <= 'z' }

func SplitAny(s string, by string) []string {
	// By bytes, not runes: a separator may be one byte of a longer rune in s.
	var separates [256]bool
	for i := range len(by) {
		separates[by[i]] = true
	}
	var parts []string
	start := 0
	for i := range len(s) {
		if separates[s[i]] {
			parts = append(parts, s[start:i])
			start = i + 1
		}
	}
	return append(parts, s[start:])
}

func SplitLines(s string) []string {
	lines := SplitAny(s, "\n")
	last := len(lines) - 1
	if lines[last] == "" {
		return lines[:last]
	}
	return lines
}

func Join(l []string, by string) string { return joinParts(by, l...) }

func joinParts(by string, parts ...string) string {
	var b strings.Builder
	for i, part := range parts {
		if i > 0 {
			b.WriteString(by)
		}
		b.WriteString(part)
	}
	return b.String()
}

func PadZeros(s string, n int) string {
	if len(s) >= n || n > longestPadding {
		return s
	}
	return joinParts("", strings.Repeat("0", n-len(s)), s)
}
