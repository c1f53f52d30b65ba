package tests

import (
	"math"
	"regexp"
	"slices"
	"strings"
	"testing"

	"loop.example/g00827/impl"
)

// every calls visit with each string of at most most bytes over the alphabet.
func every(alphabet string, most int, visit func(s string)) {
	visit("")
	if most == 0 {
		return
	}
	for i := range len(alphabet) {
		every(alphabet, most-1, func(rest string) { visit(alphabet[i:i+1] + rest) })
	}
}

var intTexts = []struct {
	n    int
	text string
}{
	{0, "0"}, {1, "1"}, {-1, "-1"}, {9, "9"}, {10, "10"}, {-10, "-10"}, {42, "42"}, {100, "100"}, {-907, "-907"},
	{1000000, "1000000"}, {-1000000, "-1000000"}, {math.MaxInt32 + 1, "2147483648"}, {math.MinInt32 - 1, "-2147483649"},
	{math.MaxInt, "9223372036854775807"}, {math.MaxInt - 1, "9223372036854775806"},
	{math.MinInt, "-9223372036854775808"}, {math.MinInt + 1, "-9223372036854775807"},
}

func TestFormatInt(t *testing.T) {
	for _, c := range intTexts {
		if got := impl.FormatInt(c.n); got != c.text {
			t.Errorf("FormatInt(%d) = %q, want %q", c.n, got, c.text)
		}
	}
}

func TestParseInt(t *testing.T) {
	for _, c := range intTexts {
		if n, ok := impl.ParseInt(c.text); n != c.n || !ok {
			t.Errorf("ParseInt(%q) = %d, %v, want %d, true", c.text, n, ok, c.n)
		}
	}
}

func TestParseIntRefuses(t *testing.T) {
	for _, s := range []string{
		"", "-", "+", "--1", "-0", "-00", "00", "07", "-07", "+1", "+0", " 1", "1 ", "1\n", "\n1", "1 2", "1-", "1_000", "1,000",
		"0x1f", "0b1", "0o7", "1e3", "1.0", "1.", "a", "1a", "inf", "NaN", "\x00", "1\x00", "\xff", "1\x80", "\u0661", "\uff11", "\u22121",
		"9223372036854775808", "-9223372036854775809", "09223372036854775807", "18446744073709551615", "18446744073709551616",
		"-18446744073709551617", "92233720368547758070", strings.Repeat("9", 400), "-" + strings.Repeat("1", 400), strings.Repeat("0", 400),
	} {
		if n, ok := impl.ParseInt(s); n != 0 || ok {
			t.Errorf("ParseInt(%q) = %d, %v, want 0, false", s, n, ok)
		}
	}
}

func TestIntsAreRecovered(t *testing.T) {
	check := func(n int) {
		if got, ok := impl.ParseInt(impl.FormatInt(n)); got != n || !ok {
			t.Errorf("ParseInt(FormatInt(%d)) = %d, %v", n, got, ok)
		}
	}
	for n := -3000; n <= 3000; n++ {
		check(n)
		check(math.MinInt + 3000 + n)
		check(math.MaxInt - 3000 + n)
	}
	for n := 1; n != 0; n *= 2 {
		check(n - 1)
		check(n)
		check(-n)
	}
}

func TestIntTextsAreRecovered(t *testing.T) {
	written := regexp.MustCompile(`^(0|-?[1-9][0-9]*)$`)
	every("-+019_ a\xb2", 5, func(s string) {
		n, ok := impl.ParseInt(s)
		if ok != written.MatchString(s) || ok && impl.FormatInt(n) != s || !ok && n != 0 {
			t.Errorf("ParseInt(%q) = %d, %v", s, n, ok)
		}
	})
}

func TestIsDigits(t *testing.T) {
	for _, s := range []string{"0", "9", "00", "09", "0123456789", strings.Repeat("5", 3000)} {
		if !impl.IsDigits(s) {
			t.Errorf("IsDigits(%q) = false", s)
		}
	}
	for _, s := range []string{"", " ", "-1", "+1", "1 ", " 1", "1\n", "a", "1a", "/", ":", "1/", ":1", "1.0", "\x00", "\x800", "0\xb0", "\xff", "\u0661", "1\uff11", "\xc0\xb1"} {
		if impl.IsDigits(s) {
			t.Errorf("IsDigits(%q) = true", s)
		}
	}
}

func TestIsName(t *testing.T) {
	for _, s := range []string{"a", "z", "m", "a0", "z9", "x1y2", "abcdefgh", "z9999999", "a1234567"} {
		if !impl.IsName(s) {
			t.Errorf("IsName(%q) = false", s)
		}
	}
	for _, s := range []string{
		"", "0", "9", "1x", "A", "aB", "Z9", "abcdefghi", "a12345678", " ", " a", "a ", "a\n", "a b", "a-b", "a_b", "`", "{", "a`", "a{", "a/", "a:",
		"\x00", "a\x00", "\x80", "a\xe1", "\xe1", "\u00e9", "a\u00e9", "\uff41", "a\uff11", "abcdefg\u00e9", "\xc1\xa1", "a\xff",
	} {
		if impl.IsName(s) {
			t.Errorf("IsName(%q) = true", s)
		}
	}
}

func TestEveryByteInDigitsAndNames(t *testing.T) {
	for b := range 256 {
		one := string([]byte{byte(b)})
		digit := b >= '0' && b <= '9'
		letter := b >= 'a' && b <= 'z'
		if impl.IsDigits(one) != digit || impl.IsDigits("4"+one+"2") != digit {
			t.Errorf("IsDigits is wrong with the byte %d", b)
		}
		if impl.IsName(one) != letter || impl.IsName(one+"a") != letter {
			t.Errorf("IsName is wrong with the first byte %d", b)
		}
		if impl.IsName("a"+one) != (letter || digit) || impl.IsName("a"+one+"9") != (letter || digit) {
			t.Errorf("IsName is wrong with the later byte %d", b)
		}
	}
}

func TestSplitAny(t *testing.T) {
	for _, c := range []struct {
		s, by string
		want  []string
	}{
		{"a,b c", ", ", []string{"a", "b", "c"}},
		{"a,b c", " ,, ", []string{"a", "b", "c"}},
		{"a b c", " ", []string{"a", "b", "c"}},
		{"abc", ",", []string{"abc"}},
		{"abc", "", []string{"abc"}},
		{"", "", []string{""}},
		{"", ",", []string{""}},
		{",", ",", []string{"", ""}},
		{",a", ",", []string{"", "a"}},
		{"a,", ",", []string{"a", ""}},
		{",a,", ",", []string{"", "a", ""}},
		{"a,,b", ",", []string{"a", "", "b"}},
		{", ,", " ,", []string{"", "", "", ""}},
		{"aXbxc", "x", []string{"aXb", "c"}},
		{"a\x00b", "\x00", []string{"a", "b"}},
		{"a\xffb\x80c", "\xff\x80", []string{"a", "b", "c"}},
		{"a\xffb", "\xfe", []string{"a\xffb"}},
		{"a\xffb", "\uFFFD", []string{"a\xffb"}},
		{"\u00e9", "\xa9", []string{"\xc3", ""}},
		{"\u00e9", "\xc3", []string{"", "\xa9"}},
		{"x\u00e9y", "\u00e8", []string{"x", "\xa9y"}},
		{"x\u00e9y", "\u00e9", []string{"x", "", "y"}},
	} {
		if got := impl.SplitAny(c.s, c.by); !slices.Equal(got, c.want) {
			t.Errorf("SplitAny(%q, %q) = %q, want %q", c.s, c.by, got, c.want)
		}
	}
}

// isSplit reports whether parts are what remains of s between its separators: they are in s one after the other, with one byte of by between two of them and none inside.
func isSplit(s, by string, parts []string) bool {
	at := 0
	for i, part := range parts {
		if i > 0 {
			if at == len(s) || strings.IndexByte(by, s[at]) < 0 {
				return false
			}
			at++
		}
		for k := range len(part) {
			if at == len(s) || s[at] != part[k] || strings.IndexByte(by, part[k]) >= 0 {
				return false
			}
			at++
		}
	}
	return len(parts) > 0 && at == len(s)
}

func TestSplitAnyOfEveryText(t *testing.T) {
	for _, by := range []string{"", ",", ", ", ",,", "\xa9", "\xc3,", "\u00e9", "\xff", "\uFFFD"} {
		every(", a\xc3\xa9\xff", 5, func(s string) {
			if parts := impl.SplitAny(s, by); !isSplit(s, by, parts) {
				t.Errorf("SplitAny(%q, %q) = %q", s, by, parts)
			}
		})
	}
}

func TestSplitAnyAtEveryByte(t *testing.T) {
	for b := range 256 {
		by := string([]byte{byte(b)})
		other := string([]byte{byte(b + 1)})
		if got := impl.SplitAny(by+other+other+by+other, by); !slices.Equal(got, []string{"", other + other, other}) {
			t.Errorf("SplitAny at the byte %d returns %q", b, got)
		}
	}
}

func TestSplitLines(t *testing.T) {
	for _, c := range []struct {
		text string
		want []string
	}{
		{"", nil},
		{"a", []string{"a"}},
		{"a\n", []string{"a"}},
		{"a\nb", []string{"a", "b"}},
		{"a\nb\n", []string{"a", "b"}},
		{"\n", []string{""}},
		{"\n\n", []string{"", ""}},
		{"\na", []string{"", "a"}},
		{"a\n\n", []string{"a", ""}},
		{"a\n\nb\n", []string{"a", "", "b"}},
		{"a\n ", []string{"a", " "}},
		{"a\r\nb\r\n", []string{"a\r", "b\r"}},
		{"a\rb", []string{"a\rb"}},
		{"a\vb\fc\u0085d\u2028e", []string{"a\vb\fc\u0085d\u2028e"}},
		{"\x80\n\xff\n\x00", []string{"\x80", "\xff", "\x00"}},
		{"\xc3\n\xa9\n", []string{"\xc3", "\xa9"}},
	} {
		if got := impl.SplitLines(c.text); !slices.Equal(got, c.want) {
			t.Errorf("SplitLines(%q) = %q, want %q", c.text, got, c.want)
		}
	}
}

func TestLinesAreRecovered(t *testing.T) {
	every("\n\ra\xc3\xa9", 5, func(text string) {
		lines := impl.SplitLines(text)
		whole := ""
		for _, line := range lines {
			if strings.Contains(line, "\n") {
				t.Errorf("SplitLines(%q) has the line %q", text, line)
			}
			whole += line + "\n"
		}
		ended := text
		if text != "" && !strings.HasSuffix(text, "\n") {
			ended += "\n"
		}
		if whole != ended {
			t.Errorf("SplitLines(%q) = %q", text, lines)
		}
	})
}

func TestJoin(t *testing.T) {
	for _, c := range []struct {
		l    []string
		by   string
		want string
	}{
		{nil, ",", ""},
		{[]string{}, ",", ""},
		{nil, "", ""},
		{[]string{""}, ",", ""},
		{[]string{"a"}, ",", "a"},
		{[]string{"a", "b"}, ",", "a,b"},
		{[]string{"a", "b", "c"}, "", "abc"},
		{[]string{"a", "b", "c"}, "; ", "a; b; c"},
		{[]string{"", ""}, ",", ","},
		{[]string{"", "", ""}, "--", "----"},
		{[]string{"", "a", ""}, ",", ",a,"},
		{[]string{",", ","}, ",", ",,,"},
		{[]string{"\xc3", "\xa9"}, "", "\u00e9"},
		{[]string{"\xff", "\x00", "\x80"}, "\xfe", "\xff\xfe\x00\xfe\x80"},
	} {
		if got := impl.Join(c.l, c.by); got != c.want {
			t.Errorf("Join(%q, %q) = %q, want %q", c.l, c.by, got, c.want)
		}
	}
}

func TestStringsAreRecoveredFromTheirParts(t *testing.T) {
	for _, by := range []string{",", "a", "\n", "\x00", "\xa9", "\xc3", "\xff"} {
		every(",a\n\x00\xc3\xa9\xff", 4, func(s string) {
			if got := impl.Join(impl.SplitAny(s, by), by); got != s {
				t.Errorf("Join(SplitAny(%q, %q), %q) = %q", s, by, by, got)
			}
		})
	}
}

func TestPartsAreRecoveredFromTheirString(t *testing.T) {
	pool := []string{"", "a", "bc", "\xc3", "\xa9", "\u00e9"}
	every("\x00\x01\x02\x03\x04\x05", 4, func(picks string) {
		l := []string{}
		for i := range len(picks) {
			l = append(l, pool[picks[i]])
		}
		if got := impl.SplitAny(impl.Join(l, ","), ","); len(l) > 0 && !slices.Equal(got, l) {
			t.Errorf("SplitAny(Join(%q)) = %q", l, got)
		}
		lines := impl.Join(append(slices.Clone(l), ""), "\n")
		if got := impl.SplitLines(lines); !slices.Equal(got, l) {
			t.Errorf("SplitLines(%q) = %q", lines, got)
		}
	})
}

func TestPadZeros(t *testing.T) {
	long := strings.Repeat("x", 2500)
	for _, c := range []struct {
		s    string
		n    int
		want string
	}{
		{"7", 3, "007"},
		{"42", 3, "042"},
		{"123", 3, "123"},
		{"1234", 3, "1234"},
		{"7", 1, "7"},
		{"7", 2, "07"},
		{"7", 0, "7"},
		{"7", -1, "7"},
		{"", 0, ""},
		{"", 1, "0"},
		{"", 4, "0000"},
		{"", -5, ""},
		{"0", 2, "00"},
		{"-5", 4, "00-5"},
		{"ab", 5, "000ab"},
		{"\u00e9", 3, "0\u00e9"},
		{"\u00e9", 2, "\u00e9"},
		{"\xff", 3, "00\xff"},
		{"7", math.MinInt, "7"},
		{"", math.MinInt, ""},
		{"7", 1999, strings.Repeat("0", 1998) + "7"},
		{"7", 2000, strings.Repeat("0", 1999) + "7"},
		{"", 2000, strings.Repeat("0", 2000)},
		{"7", 2001, "7"},
		{"", 2001, ""},
		{"7", math.MaxInt, "7"},
		{long[:1999], 2000, "0" + long[:1999]},
		{long[:1999], 2001, long[:1999]},
		{long[:2000], 2000, long[:2000]},
		{long, 2000, long},
		{long, 2600, long},
	} {
		if got := impl.PadZeros(c.s, c.n); got != c.want {
			t.Errorf("PadZeros(%q, %d) = %q, want %q", c.s, c.n, got, c.want)
		}
	}
}

func TestPaddedNumbersAreRecovered(t *testing.T) {
	for n := range 2000 {
		padded := impl.PadZeros(impl.FormatInt(n), 6)
		got, ok := impl.ParseInt(strings.TrimLeft(padded[:5], "0") + padded[5:])
		if len(padded) != 6 || !impl.IsDigits(padded) || !ok || got != n {
			t.Errorf("%d is padded to %q", n, padded)
		}
	}
}

func TestTextResultsAreNew(t *testing.T) {
	split := map[string]func() []string{
		"SplitAny":   func() []string { return impl.SplitAny("a,b", ",") },
		"SplitLines": func() []string { return impl.SplitLines("a\nb\n") },
	}
	for name, call := range split {
		first := call()
		first[0] = "changed"
		_ = append(first, "more")
		if second := call(); !slices.Equal(second, []string{"a", "b"}) {
			t.Errorf("%s returns %q after an earlier result was changed", name, second)
		}
	}
}

func TestJoinKeepsItsArgument(t *testing.T) {
	backing := []string{"a", "b", "c", "d"}
	if got := impl.Join(backing[:2], "-"); got != "a-b" {
		t.Errorf("Join = %q", got)
	}
	if !slices.Equal(backing, []string{"a", "b", "c", "d"}) {
		t.Errorf("Join changed its argument to %q", backing)
	}
}
