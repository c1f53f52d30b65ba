package tests

import (
	"math"
	"math/big"
	"regexp"
	"strconv"
	"testing"

	"loop.example/g00827/impl"
)

// bounds are the numbers at which the functions on intervals change what they do, and some between them.
var bounds = []int{
	math.MinInt, math.MinInt + 1, -2000000, -1000001, -1000000, -999999, -600000, -500000, -3, -1,
	0, 1, 2, 500000, 600000, 999999, 1000000, 1000001, 2000000, math.MaxInt - 1, math.MaxInt,
}

// spans are all intervals between two of the bounds, valid or not.
func spans() []impl.Interval {
	var all []impl.Interval
	for _, low := range bounds {
		for _, high := range bounds {
			all = append(all, impl.Interval{Low: low, High: high})
		}
	}
	return all
}

func span(low, high int) impl.Interval { return impl.Interval{Low: low, High: high} }

// isSpan is what the document says of a valid interval, with its numbers written out.
func isSpan(i impl.Interval) bool {
	return i.Low >= -1000000 && i.Low <= 999999 && i.High >= -999999 && i.High <= 1000000 && i.Low <= i.High
}

// holds is what the document says of the members of an interval.
func holds(i impl.Interval, n int) bool {
	return isSpan(i) && (i.Low == -1000000 || n >= i.Low) && (i.High == 1000000 || n <= i.High)
}

func TestInfAndInterval(t *testing.T) {
	if impl.Inf != 1000000 {
		t.Errorf("Inf = %d", impl.Inf)
	}
	if i := (impl.Interval{Low: 1, High: 2}); i.Low != 1 || i.High != 2 || i == (impl.Interval{Low: 2, High: 1}) {
		t.Error("an interval is not Low and High")
	}
}

func TestIntervalOk(t *testing.T) {
	for _, i := range [][2]int{
		{0, 0}, {1, 4}, {4, 4}, {-4, -1}, {-1, 1}, {-1000000, 1000000}, {-1000000, 0}, {0, 1000000}, {-1000000, -999999},
		{999999, 1000000}, {999999, 999999}, {-999999, -999999}, {-999999, 999999}, {-1000000, 999999}, {-999999, 1000000},
	} {
		if !impl.IntervalOk(span(i[0], i[1])) {
			t.Errorf("IntervalOk(%v) = false", i)
		}
	}
	for _, i := range [][2]int{
		{1, 0}, {0, -1}, {4, -4}, {1000000, 1000000}, {-1000000, -1000000}, {1000000, -1000000}, {1000000, 0}, {0, -1000000},
		{-1000001, 0}, {0, 1000001}, {-1000001, 1000001}, {1000000, 1000001}, {-1000001, -1000000}, {2000000, 3000000}, {-3000000, -2000000},
		{math.MinInt, 0}, {0, math.MaxInt}, {math.MinInt, math.MaxInt}, {math.MaxInt, math.MinInt}, {math.MinInt, math.MinInt}, {math.MaxInt, math.MaxInt},
	} {
		if impl.IntervalOk(span(i[0], i[1])) {
			t.Errorf("IntervalOk(%v) = true", i)
		}
	}
	for _, i := range spans() {
		if got := impl.IntervalOk(i); got != isSpan(i) {
			t.Errorf("IntervalOk(%v) = %v", i, got)
		}
	}
}

func TestContains(t *testing.T) {
	for _, c := range []struct {
		i    impl.Interval
		n    int
		want bool
	}{
		{span(1, 4), 0, false}, {span(1, 4), 1, true}, {span(1, 4), 3, true}, {span(1, 4), 4, true}, {span(1, 4), 5, false},
		{span(7, 7), 6, false}, {span(7, 7), 7, true}, {span(7, 7), 8, false},
		{span(-4, -1), -5, false}, {span(-4, -1), -4, true}, {span(-4, -1), -1, true}, {span(-4, -1), 0, false},
		{span(-1000000, 2), 2, true}, {span(-1000000, 2), 3, false}, {span(-1000000, 2), -1000000, true},
		{span(-1000000, 2), -1000001, true}, {span(-1000000, 2), math.MinInt, true}, {span(-1000000, 2), math.MaxInt, false},
		{span(2, 1000000), 2, true}, {span(2, 1000000), 1, false}, {span(2, 1000000), 1000000, true},
		{span(2, 1000000), 1000001, true}, {span(2, 1000000), math.MaxInt, true}, {span(2, 1000000), math.MinInt, false},
		{span(-1000000, 1000000), 0, true}, {span(-1000000, 1000000), math.MinInt, true}, {span(-1000000, 1000000), math.MaxInt, true},
		{span(-999999, 999999), -999999, true}, {span(-999999, 999999), -1000000, false}, {span(-999999, 999999), math.MinInt, false},
		{span(-999999, 999999), 999999, true}, {span(-999999, 999999), 1000000, false}, {span(-999999, 999999), math.MaxInt, false},
		{span(4, 1), 2, false}, {span(4, 1), 4, false}, {span(1000000, 1000000), 1000000, false}, {span(-1000000, -1000000), -1000000, false},
		{span(-1000001, 5), 0, false}, {span(0, 1000001), 1, false}, {span(math.MinInt, math.MaxInt), 0, false},
	} {
		if got := impl.Contains(c.i, c.n); got != c.want {
			t.Errorf("Contains(%v, %d) = %v", c.i, c.n, got)
		}
	}
	for _, i := range spans() {
		for _, n := range bounds {
			if got := impl.Contains(i, n); got != holds(i, n) {
				t.Errorf("Contains(%v, %d) = %v", i, n, got)
			}
		}
	}
}

func TestClampBound(t *testing.T) {
	for _, c := range []struct{ n, want int }{
		{0, 0}, {1, 1}, {-1, -1}, {12345, 12345}, {999999, 999999}, {1000000, 1000000}, {1000001, 1000000}, {math.MaxInt, 1000000},
		{-999999, -999999}, {-1000000, -1000000}, {-1000001, -1000000}, {-9999999, -1000000}, {math.MinInt, -1000000},
	} {
		if got := impl.ClampBound(c.n); got != c.want {
			t.Errorf("ClampBound(%d) = %d, want %d", c.n, got, c.want)
		}
	}
}

func TestAddBounds(t *testing.T) {
	for _, c := range []struct{ a, b, want int }{
		{0, 0, 0}, {2, 3, 5}, {2, -3, -1}, {-2, -3, -5},
		{1000000, 0, 1000000}, {1000000, 5, 1000000}, {1000000, -5, 1000000}, {1000000, -999999, 1000000}, {1000000, 1000000, 1000000},
		{-1000000, 0, -1000000}, {-1000000, 5, -1000000}, {-1000000, 999999, -1000000}, {-1000000, -1000000, -1000000},
		{1000000, -1000000, 1000000}, {1000001, -1000001, 1000000}, {math.MaxInt, math.MinInt, 1000000},
		{999999, 1, 1000000}, {999999, 2, 1000000}, {999999, 999999, 1000000}, {999999, 0, 999999}, {999999, -999999, 0},
		{-999999, -1, -1000000}, {-999999, -2, -1000000}, {-999999, -999999, -1000000}, {-999999, 0, -999999},
		{1000001, -5, 1000000}, {2000000, -1500000, 1000000}, {-2000000, 1500, -1000000}, {-1000001, 999999, -1000000},
		{math.MaxInt, math.MaxInt, 1000000}, {math.MinInt, math.MinInt, -1000000}, {math.MaxInt, 1, 1000000}, {math.MinInt, -1, -1000000},
	} {
		if got := impl.AddBounds(c.a, c.b); got != c.want {
			t.Errorf("AddBounds(%d, %d) = %d, want %d", c.a, c.b, got, c.want)
		}
		if got := impl.AddBounds(c.b, c.a); got != c.want {
			t.Errorf("AddBounds(%d, %d) = %d, want %d", c.b, c.a, got, c.want)
		}
	}
}

// sumOf adds two bounds with numbers of any size.
func sumOf(a, b int) int {
	if a >= 1000000 || b >= 1000000 {
		return 1000000
	}
	if a <= -1000000 || b <= -1000000 {
		return -1000000
	}
	sum := new(big.Int).Add(big.NewInt(int64(a)), big.NewInt(int64(b)))
	if sum.Cmp(big.NewInt(1000000)) > 0 {
		return 1000000
	}
	if sum.Cmp(big.NewInt(-1000000)) < 0 {
		return -1000000
	}
	return int(sum.Int64())
}

func TestAddBoundsOfEveryBound(t *testing.T) {
	for _, a := range bounds {
		for _, b := range bounds {
			if got := impl.AddBounds(a, b); got != sumOf(a, b) {
				t.Errorf("AddBounds(%d, %d) = %d, want %d", a, b, got, sumOf(a, b))
			}
		}
	}
}

func TestAddIntervals(t *testing.T) {
	none := impl.Interval{}
	for _, c := range []struct{ a, b, want impl.Interval }{
		{span(1, 4), span(10, 20), span(11, 24)}, {span(1, 4), span(-10, 20), span(-9, 24)}, {span(0, 0), span(3, 5), span(3, 5)},
		{span(1, 4), span(-1000000, 2), span(-1000000, 6)}, {span(1, 4), span(2, 1000000), span(3, 1000000)},
		{span(1, 4), span(-1000000, 1000000), span(-1000000, 1000000)},
		{span(-1000000, 3), span(5, 1000000), span(-1000000, 1000000)}, {span(-1000000, 3), span(-1000000, 4), span(-1000000, 7)},
		{span(3, 1000000), span(4, 1000000), span(7, 1000000)}, {span(-1000000, 3), span(999999, 999999), span(-1000000, 1000000)},
		{span(-999999, 999999), span(-999999, 999999), span(-1000000, 1000000)}, {span(-999999, 1), span(-1, 1), span(-1000000, 2)},
		{span(-999999, 1), span(-2, 1), span(-1000000, 2)}, {span(-1, 999999), span(-1, 1), span(-2, 1000000)},
		{span(-1, 999999), span(-1, 2), span(-2, 1000000)}, {span(0, 600000), span(0, 600000), span(0, 1000000)},
		{span(-600000, 0), span(-600000, 0), span(-1000000, 0)}, {span(499999, 500000), span(500000, 500000), span(999999, 1000000)},
		{span(-500000, -499999), span(-500000, -500000), span(-1000000, -999999)},
		// The sum would lie beyond the bounds: there is no valid interval for it.
		{span(500000, 500000), span(500000, 500000), none}, {span(600000, 700000), span(600000, 700000), none},
		{span(999999, 1000000), span(1, 1), none}, {span(999999, 999999), span(999999, 1000000), none},
		{span(-500000, -500000), span(-500000, -500000), none}, {span(-700000, -600000), span(-700000, -600000), none},
		{span(-1000000, -999999), span(-1, -1), none}, {span(-1000000, -999999), span(-1000000, -999999), none},
		{span(4, 1), span(0, 0), none}, {span(1000000, 1000000), span(1, 2), none}, {span(-1000000, -1000000), span(1, 2), none},
		{span(-1000001, 3), span(1, 2), none}, {span(3, 1000001), span(1, 2), none}, {span(math.MinInt, math.MaxInt), span(1, 2), none},
		{span(1000000, 1000000), span(-1000000, 2), none}, {span(math.MaxInt, math.MaxInt), span(math.MinInt, math.MinInt), none},
	} {
		if got := impl.AddIntervals(c.a, c.b); got != c.want {
			t.Errorf("AddIntervals(%v, %v) = %v, want %v", c.a, c.b, got, c.want)
		}
		if got := impl.AddIntervals(c.b, c.a); got != c.want {
			t.Errorf("AddIntervals(%v, %v) = %v, want %v", c.b, c.a, got, c.want)
		}
	}
}

func TestAddIntervalsOfEverySpan(t *testing.T) {
	for _, a := range spans() {
		for _, b := range spans() {
			want := span(sumOf(a.Low, b.Low), sumOf(a.High, b.High))
			if !isSpan(a) || !isSpan(b) || !isSpan(want) {
				want = impl.Interval{}
			}
			if got := impl.AddIntervals(a, b); got != want {
				t.Fatalf("AddIntervals(%v, %v) = %v, want %v", a, b, got, want)
			}
		}
	}
}

// members returns some integers of i: those at its bounds and, where it has no bound, some beyond Inf.
func members(i impl.Interval) []int {
	var found []int
	for _, n := range []int{i.Low, i.Low + 1, i.High - 1, i.High, 0, -2500000, 2500000} {
		if holds(i, n) {
			found = append(found, n)
		}
	}
	return found
}

func TestSumsOfMembersAreContained(t *testing.T) {
	for _, a := range spans() {
		for _, b := range spans() {
			sum := impl.AddIntervals(a, b)
			if !isSpan(a) || !isSpan(b) || !isSpan(span(sumOf(a.Low, b.Low), sumOf(a.High, b.High))) {
				continue
			}
			for _, m := range members(a) {
				for _, n := range members(b) {
					if !impl.Contains(sum, m+n) {
						t.Fatalf("AddIntervals(%v, %v) = %v without %d + %d", a, b, sum, m, n)
					}
				}
			}
		}
	}
}

func TestSumsOfSmallIntervalsAreExact(t *testing.T) {
	for low := -3; low <= 3; low++ {
		for high := low; high <= 3; high++ {
			for n := -10; n <= 10; n++ {
				sum := impl.AddIntervals(span(low, high), span(-2, 1))
				is := false
				for m := low; m <= high; m++ {
					is = is || n-m >= -2 && n-m <= 1
				}
				if impl.Contains(sum, n) != is {
					t.Errorf("the sum of %d..%d and -2..1 is %v, wrong at %d", low, high, sum, n)
				}
			}
		}
	}
}

func TestReverseInterval(t *testing.T) {
	for _, c := range []struct{ i, want impl.Interval }{
		{span(1, 4), span(-4, -1)}, {span(-4, -1), span(1, 4)}, {span(-2, 5), span(-5, 2)}, {span(0, 0), span(0, 0)}, {span(0, 3), span(-3, 0)},
		{span(-1000000, 2), span(-2, 1000000)}, {span(2, 1000000), span(-1000000, -2)}, {span(-1000000, 1000000), span(-1000000, 1000000)},
		{span(999999, 1000000), span(-1000000, -999999)}, {span(-1000000, -999999), span(999999, 1000000)}, {span(999999, 999999), span(-999999, -999999)},
		{span(4, 1), span(0, 0)}, {span(1000000, 1000000), span(0, 0)}, {span(-1000000, -1000000), span(0, 0)}, {span(-1000001, 3), span(0, 0)},
		{span(3, 1000001), span(0, 0)}, {span(math.MinInt, 3), span(0, 0)}, {span(math.MinInt, math.MaxInt), span(0, 0)}, {span(math.MinInt, math.MinInt), span(0, 0)},
	} {
		if got := impl.ReverseInterval(c.i); got != c.want {
			t.Errorf("ReverseInterval(%v) = %v, want %v", c.i, got, c.want)
		}
	}
	for _, i := range spans() {
		back := impl.ReverseInterval(i)
		if !isSpan(i) {
			if back != (impl.Interval{}) {
				t.Errorf("ReverseInterval(%v) = %v", i, back)
			}
			continue
		}
		if !isSpan(back) || impl.ReverseInterval(back) != i {
			t.Errorf("ReverseInterval(%v) = %v, and not back again", i, back)
		}
		for _, n := range members(i) {
			if !impl.Contains(back, -n) {
				t.Errorf("ReverseInterval(%v) = %v without %d", i, back, -n)
			}
		}
	}
}

func TestIntersect(t *testing.T) {
	for _, c := range []struct {
		a, b, want impl.Interval
		ok         bool
	}{
		{span(1, 4), span(3, 6), span(3, 4), true}, {span(1, 9), span(3, 6), span(3, 6), true}, {span(1, 4), span(1, 4), span(1, 4), true},
		{span(1, 4), span(4, 6), span(4, 4), true}, {span(1, 4), span(5, 6), span(0, 0), false}, {span(1, 4), span(8, 9), span(0, 0), false},
		{span(-4, 0), span(0, 3), span(0, 0), true}, {span(-4, -1), span(0, 3), span(0, 0), false},
		{span(1, 4), span(-1000000, 2), span(1, 2), true}, {span(1, 4), span(2, 1000000), span(2, 4), true},
		{span(-1000000, 1000000), span(1, 4), span(1, 4), true}, {span(-1000000, 1000000), span(-1000000, 1000000), span(-1000000, 1000000), true},
		{span(-1000000, 3), span(3, 1000000), span(3, 3), true}, {span(-1000000, 3), span(4, 1000000), span(0, 0), false},
		{span(-1000000, 3), span(-1000000, -7), span(-1000000, -7), true}, {span(3, 1000000), span(7, 1000000), span(7, 1000000), true},
		{span(-1000000, -999999), span(-999999, 1000000), span(-999999, -999999), true},
		{span(999999, 1000000), span(-1000000, 999999), span(999999, 999999), true},
		{span(4, 1), span(1, 4), span(0, 0), false}, {span(4, 1), span(4, 1), span(0, 0), false}, {span(1000000, 1000000), span(2, 1000000), span(0, 0), false},
		{span(-1000000, -1000000), span(-1000000, 2), span(0, 0), false}, {span(-1000001, 3), span(1, 4), span(0, 0), false},
		{span(1, 1000001), span(1, 4), span(0, 0), false}, {span(math.MinInt, math.MaxInt), span(1, 4), span(0, 0), false},
	} {
		for _, got := range []func() (impl.Interval, bool){
			func() (impl.Interval, bool) { return impl.Intersect(c.a, c.b) },
			func() (impl.Interval, bool) { return impl.Intersect(c.b, c.a) },
		} {
			if i, ok := got(); i != c.want || ok != c.ok {
				t.Errorf("Intersect of %v and %v = %v, %v, want %v, %v", c.a, c.b, i, ok, c.want, c.ok)
			}
		}
	}
}

func TestIntersectOfEverySpan(t *testing.T) {
	for _, a := range spans() {
		for _, b := range spans() {
			both, ok := impl.Intersect(a, b)
			shared := false
			for _, n := range bounds {
				is := holds(a, n) && holds(b, n)
				shared = shared || is
				if ok && impl.Contains(both, n) != is {
					t.Fatalf("Intersect(%v, %v) = %v, wrong at %d", a, b, both, n)
				}
			}
			if ok != shared || !ok && both != (impl.Interval{}) || ok && !isSpan(both) {
				t.Fatalf("Intersect(%v, %v) = %v, %v", a, b, both, ok)
			}
		}
	}
}

func TestHull(t *testing.T) {
	for _, c := range []struct {
		a, b, want impl.Interval
		ok         bool
	}{
		{span(1, 4), span(3, 6), span(1, 6), true}, {span(1, 4), span(7, 7), span(1, 7), true}, {span(1, 9), span(3, 6), span(1, 9), true},
		{span(1, 4), span(1, 4), span(1, 4), true}, {span(-4, -1), span(2, 3), span(-4, 3), true},
		{span(1, 4), span(-1000000, 2), span(-1000000, 4), true}, {span(1, 4), span(2, 1000000), span(1, 1000000), true},
		{span(-1000000, -7), span(7, 1000000), span(-1000000, 1000000), true}, {span(-999999, -999999), span(999999, 999999), span(-999999, 999999), true},
		{span(4, 1), span(1, 4), span(0, 0), false}, {span(4, 1), span(4, 1), span(0, 0), false}, {span(1000000, 1000000), span(1, 4), span(0, 0), false},
		{span(-1000000, -1000000), span(1, 4), span(0, 0), false}, {span(-1000001, 3), span(1, 4), span(0, 0), false},
		{span(1, 1000001), span(-1000000, 1000000), span(0, 0), false}, {span(math.MinInt, math.MaxInt), span(1, 4), span(0, 0), false},
	} {
		for _, got := range []func() (impl.Interval, bool){
			func() (impl.Interval, bool) { return impl.Hull(c.a, c.b) },
			func() (impl.Interval, bool) { return impl.Hull(c.b, c.a) },
		} {
			if i, ok := got(); i != c.want || ok != c.ok {
				t.Errorf("Hull of %v and %v = %v, %v, want %v, %v", c.a, c.b, i, ok, c.want, c.ok)
			}
		}
	}
}

func TestHullOfEverySpan(t *testing.T) {
	for _, a := range spans() {
		for _, b := range spans() {
			want := impl.Interval{}
			both := isSpan(a) && isSpan(b)
			if both {
				want = a
				if b.Low < want.Low {
					want.Low = b.Low
				}
				if b.High > want.High {
					want.High = b.High
				}
			}
			if got, ok := impl.Hull(a, b); got != want || ok != both {
				t.Fatalf("Hull(%v, %v) = %v, %v, want %v", a, b, got, ok, want)
			}
		}
	}
}

var intervalTexts = []struct {
	i    impl.Interval
	text string
}{
	{span(0, 0), "0..0"}, {span(1, 4), "1..4"}, {span(-4, -1), "-4..-1"}, {span(-3, 7), "-3..7"}, {span(7, 7), "7..7"}, {span(10, 100), "10..100"},
	{span(-1000000, 2), "-inf..2"}, {span(-3, 1000000), "-3..inf"}, {span(-1000000, 1000000), "-inf..inf"},
	{span(-1000000, -999999), "-inf..-999999"}, {span(999999, 1000000), "999999..inf"}, {span(-999999, 999999), "-999999..999999"},
}

func TestFormatInterval(t *testing.T) {
	for _, c := range intervalTexts {
		if got := impl.FormatInterval(c.i); got != c.text {
			t.Errorf("FormatInterval(%v) = %q, want %q", c.i, got, c.text)
		}
	}
	for _, i := range spans() {
		if got := impl.FormatInterval(i); (got != "") != isSpan(i) {
			t.Errorf("FormatInterval(%v) = %q", i, got)
		}
	}
}

func TestParseInterval(t *testing.T) {
	for _, c := range intervalTexts {
		if i, ok := impl.ParseInterval(c.text); i != c.i || !ok {
			t.Errorf("ParseInterval(%q) = %v, %v, want %v, true", c.text, i, ok, c.i)
		}
	}
}

func TestParseIntervalRefuses(t *testing.T) {
	for _, s := range []string{
		"", ".", "..", "...", "1", "1.", "1..", "..1", "1.4", "1...4", "1....4", "1..4.", ".1..4", "1..4..", "..1..4", "1..4..7", "1. .4",
		" 1..4", "1..4 ", "1 ..4", "1.. 4", "1..4\n", "\n1..4", "01..4", "1..04", "00..4", "-0..4", "-4..-0", "+1..4", "1..+4", "--1..4", "-01..4",
		"inf..inf", "-inf..-inf", "inf..-inf", "inf..4", "4..-inf", "-inf..", "..inf", "+inf..4", "1..+inf", "--inf..4", "1..Inf", "1..INF", "1..infinity", "1..in", "1..inff", "-Inf..1",
		"-1000000..1000000", "-1000000..4", "1..1000000", "-1000001..4", "1..1000001", "1000000..1000000", "-1000000..-1000000", "999999..1000000", "-inf..1000000", "-1000000..inf",
		"9223372036854775807..9223372036854775807", "-9223372036854775808..0", "0..9223372036854775807", "0..9223372036854775808", "0..18446744073709551616", "-18446744073709551616..0",
		"4..1", "0..-1", "1..0", "a..b", "x..4", "1..x", "1-4", "1,4", "1:4", "1..4x", "x1..4", "0x1..0x4", "1e1..20", "1..4\x00", "\x001..4", "1\xff..4", "\xff", "1\u20254", "\u0661..4", "1..\uff14",
	} {
		if i, ok := impl.ParseInterval(s); i != (impl.Interval{}) || ok {
			t.Errorf("ParseInterval(%q) = %v, %v, want the zero value, false", s, i, ok)
		}
	}
}

func TestIntervalsAreRecovered(t *testing.T) {
	all := spans()
	for low := -12; low <= 12; low++ {
		for high := -12; high <= 12; high++ {
			all = append(all, span(low, high))
		}
	}
	for _, i := range all {
		got, ok := impl.ParseInterval(impl.FormatInterval(i))
		if ok != isSpan(i) || ok && got != i || !ok && got != (impl.Interval{}) {
			t.Errorf("ParseInterval(FormatInterval(%v)) = %v, %v", i, got, ok)
		}
	}
}

// valueOf is the number that a bound is written for, if it is one.
func valueOf(bound string) int {
	switch bound {
	case "-inf":
		return -1000000
	case "inf":
		return 1000000
	}
	n, _ := strconv.Atoi(bound)
	return n
}

func TestIntervalTextsAreRecovered(t *testing.T) {
	written := regexp.MustCompile(`^(-inf|0|-?[1-9][0-9]*)\.\.(inf|0|-?[1-9][0-9]*)$`)
	check := func(s string) {
		want := impl.Interval{}
		parts := written.FindStringSubmatch(s)
		is := len(parts) == 3 && isSpan(span(valueOf(parts[1]), valueOf(parts[2])))
		if is {
			want = span(valueOf(parts[1]), valueOf(parts[2]))
		}
		i, ok := impl.ParseInterval(s)
		if ok != is || i != want || ok && impl.FormatInterval(i) != s {
			t.Errorf("ParseInterval(%q) = %v, %v", s, i, ok)
		}
	}
	every("-.01 +", 6, check)
	every("-.01f", 4, func(s string) {
		check("-inf" + s)
		check(s + "inf")
		check("-inf." + s + "inf")
	})
}
