package tests

import (
	"math"
	"math/rand"
	"slices"
	"testing"

	"loop.example/g00827/impl"
)

// open stands for Open in the lists of times.
const open = -1

// filled is s with links that change nothing, so that it has this many in all.
func filled(s impl.Simple, links int) impl.Simple {
	return withLinks(s, slices.Repeat([]impl.Link{linkOf(link{0, 0, -inf, inf})}, links-len(s.Links))...)
}

// onlyBeginning is the partial schedule of this many events in which all but event 0 are open.
func onlyBeginning(events int) []int {
	times := slices.Repeat([]int{open}, events)
	times[0] = 0
	return times
}

// isPartial is what the document says of PartialOk, with its numbers written out.
func isPartial(s impl.Simple, times []int) bool {
	ok := isSimple(s) && len(times) == s.Events && times[0] == 0
	for _, n := range times {
		ok = ok && n >= -1 && n <= 999999
	}
	return ok
}

// fixedIn is what the document says of FixTimes.
func fixedIn(s impl.Simple, times []int) (impl.Simple, bool) {
	if !isPartial(s, times) {
		return impl.Simple{}, false
	}
	var more []impl.Link
	for event := 1; event < s.Events; event++ {
		if times[event] != -1 {
			more = append(more, linkOf(link{0, event, times[event], times[event]}))
		}
	}
	if len(s.Links)+len(more) > 40 {
		return impl.Simple{}, false
	}
	return withLinks(s, more...), true
}

// canExtend is what the document says of CanExtend.
func canExtend(s impl.Simple, times []int) bool {
	fixed, ok := fixedIn(s, times)
	return ok && isConsistent(fixed)
}

// nextIn is what the document says of NextTimes; there are none if they would not be an interval.
func nextIn(s impl.Simple, times []int, event int) (impl.Interval, bool) {
	fixed, ok := fixedIn(s, times)
	if !ok {
		return impl.Interval{}, false
	}
	return windowIn(fixed, event)
}

// completedIn is what the document says of CompleteTimes.
func completedIn(s impl.Simple, times []int) ([]int, bool) {
	if !canExtend(s, times) {
		return nil, false
	}
	list := slices.Clone(times)
	for event := 1; event < s.Events; event++ {
		if list[event] != -1 {
			continue
		}
		w, ok := nextIn(s, list, event)
		if !ok || w.Low < 0 || w.Low > 999999 {
			return nil, false
		}
		list[event] = w.Low
	}
	if _, ok := fixedIn(s, list); !ok {
		return nil, false
	}
	return list, true
}

// checkPartial holds all that can be said of a partial schedule against the document.
func checkPartial(t *testing.T, s impl.Simple, times []int) {
	if got := impl.PartialOk(s, times); got != isPartial(s, times) {
		t.Fatalf("PartialOk(%v, %v) = %v", s, times, got)
	}
	fixed, ok := impl.FixTimes(s, times)
	if want, is := fixedIn(s, times); ok != is || !sameSimples(fixed, want) {
		t.Fatalf("FixTimes(%v, %v) = %v, %v, want %v, %v", s, times, fixed, ok, want, is)
	}
	if got := impl.CanExtend(s, times); got != canExtend(s, times) {
		t.Fatalf("CanExtend(%v, %v) = %v", s, times, got)
	}
	for event := -1; event <= max(s.Events, len(times)) && event < 12; event++ {
		got, ok := impl.NextTimes(s, times, event)
		if want, is := nextIn(s, times, event); ok != is || got != want {
			t.Fatalf("NextTimes(%v, %v, %d) = %v, %v, want %v, %v", s, times, event, got, ok, want, is)
		}
	}
	list, ok := impl.CompleteTimes(s, times)
	if want, is := completedIn(s, times); ok != is || !slices.Equal(list, want) {
		t.Fatalf("CompleteTimes(%v, %v) = %v, %v, want %v, %v", s, times, list, ok, want, is)
	}
	if ok && !completes(s, times, list) {
		t.Fatalf("CompleteTimes(%v, %v) = %v is no schedule that keeps the times", s, times, list)
	}
}

// completes reports whether a list is a schedule of s, and a partial one with nothing open, that keeps the fixed times.
func completes(s impl.Simple, times, list []int) bool {
	return isTimetable(s, list) && impl.IsSchedule(s, list) && impl.PartialOk(s, list) && impl.CountOpen(list) == 0 && extends(times, list)
}

// extends reports whether a list has the times that are fixed.
func extends(times, list []int) bool {
	for event, n := range times {
		if n != -1 && list[event] != n {
			return false
		}
	}
	return true
}

// smallPartials are networks of up to three events; their finite bounds are from -3 to 3.
func smallPartials(visit func(s impl.Simple)) {
	many := []impl.Interval{span(-inf, inf), span(-inf, 0), span(-inf, -2), span(1, inf), span(-1, inf), span(-1, 2), span(2, 3), span(-3, -2), span(0, 0)}
	for events := 1; events <= 3; events++ {
		for links := range 3 {
			smallSimples(events, links, many, visit)
		}
	}
	smallSimples(3, 3, []impl.Interval{span(-inf, 1), span(1, 2)}, visit)
}

// variousPartials calls visit with some thousand larger networks and partial schedules, the same ones in every run.
// Most of them are parts of schedules around which the networks are built, and many networks have about MaxLinks links.
func variousPartials(visit func(s impl.Simple, times []int)) {
	r := rand.New(rand.NewSource(8))
	for k := range 6000 {
		reach := []int{3, 12, 100, 999999, 300000}[k%5]
		s := impl.Simple{Events: 1 + r.Intn(8)}
		hidden := make([]int, s.Events)
		for n := 1; n < s.Events; n++ {
			hidden[n] = r.Intn(reach + 1)
		}
		for range r.Intn(s.Events + 3) {
			s.Links = append(s.Links, linkAround(r, hidden, reach))
		}
		for n := 1; n < s.Events; n++ {
			if r.Intn(20) > 0 {
				s.Links = append(s.Links, linkOf(link{0, n, hidden[n] / (1 + r.Intn(4)), inf}))
			}
		}
		if len(s.Links) > 0 && r.Intn(6) == 0 {
			w, by := &s.Links[r.Intn(len(s.Links))].Span, r.Intn(2*reach+1)-reach
			*w = nearest(w.Low+by, w.High+by)
		}
		if k%4 == 0 {
			s = filled(s, 41-r.Intn(10))
		}
		r.Shuffle(len(s.Links), func(i, k int) { s.Links[i], s.Links[k] = s.Links[k], s.Links[i] })
		visit(s, partOf(r, hidden))
	}
}

// partOf returns these times with some of them open, and now and then one changed a little.
func partOf(r *rand.Rand, times []int) []int {
	part := slices.Clone(times)
	for n := 1; n < len(part); n++ {
		switch r.Intn(20) {
		case 0:
			part[n] = max(0, min(part[n]+r.Intn(7)-3, 999999))
		case 1, 2, 3, 4, 5, 6, 7, 8:
		default:
			part[n] = open
		}
	}
	return part
}

func TestOpen(t *testing.T) {
	if impl.Open != -1 {
		t.Errorf("Open = %d", impl.Open)
	}
}

func TestPartialOk(t *testing.T) {
	for _, c := range []struct {
		s     impl.Simple
		times []int
		want  bool
	}{
		{simple(1), []int{0}, true}, {simple(3), []int{0, open, open}, true}, {simple(3), []int{0, 0, 0}, true}, {simple(3), []int{0, 5, open}, true}, {simple(3), []int{0, open, 5}, true}, {simple(8), onlyBeginning(8), true}, {simple(8), make([]int, 8), true},
		// The least and the greatest times, and those beyond.
		{simple(2), []int{0, 999999}, true}, {simple(2), []int{0, 1000000}, false}, {simple(2), []int{0, 1000001}, false}, {simple(2), []int{0, -2}, false}, {simple(2), []int{0, -1000000}, false}, {simple(2), []int{0, -999999}, false}, {simple(2), []int{0, math.MinInt}, false}, {simple(2), []int{0, math.MaxInt}, false},
		{simple(3), []int{0, 999999, open}, true}, {simple(3), []int{0, 1000000, open}, false}, {simple(3), []int{0, open, 1000000}, false}, {simple(3), []int{0, -2, open}, false}, {simple(3), []int{0, open, -2}, false}, {simple(3), []int{0, 1000000, -2}, false},
		// Event 0 has the time 0.
		{simple(1), []int{open}, false}, {simple(1), []int{1}, false}, {simple(1), []int{-2}, false}, {simple(1), []int{1000000}, false}, {simple(1), []int{math.MinInt}, false}, {simple(1), []int{math.MaxInt}, false}, {simple(3), []int{open, open, open}, false}, {simple(3), []int{open, 1, 2}, false}, {simple(3), []int{1, 1, 2}, false}, {simple(3), []int{999999, 1, 2}, false},
		// Too few times, and too many.
		{simple(1), nil, false}, {simple(1), []int{}, false}, {simple(1), []int{0, 0}, false}, {simple(1), []int{0, open}, false}, {simple(3), nil, false}, {simple(3), []int{}, false}, {simple(3), []int{0}, false}, {simple(3), []int{0, 1}, false}, {simple(3), []int{0, 1, 2, 3}, false}, {simple(3), []int{0, open, open, open}, false}, {simple(8), make([]int, 7), false}, {simple(8), make([]int, 9), false}, {simple(8), make([]int, 1000), false},
		// No link needs to hold, and there may be no schedule at all.
		{simple(2, link{0, 1, 2, 4}), []int{0, 3}, true}, {simple(2, link{0, 1, 2, 4}), []int{0, 5}, true}, {simple(1, link{0, 0, 1, 1}), []int{0}, true}, {simple(2, link{0, 1, 2, 4}, link{0, 1, 5, 7}), []int{0, open}, true}, {bundle(40), []int{0, 7}, true},
	} {
		if got := impl.PartialOk(c.s, c.times); got != c.want {
			t.Errorf("PartialOk(%v, %v) = %v", c.s, c.times, got)
		}
	}
}

func TestPartialOkOfEveryNumber(t *testing.T) {
	numbers := append(slices.Clone(bounds), -9, -2, 7, 8, 9)
	for events := -1; events <= 10; events++ {
		for length := range 12 {
			for at := range length {
				for _, n := range numbers {
					for _, times := range [][]int{make([]int, length), slices.Repeat([]int{open}, length)} {
						times[0], times[at] = 0, n
						want := events >= 1 && events <= 8 && length == events && n >= -1 && n <= 999999 && (at > 0 || n == 0)
						if got := impl.PartialOk(simple(events), times); got != want {
							t.Errorf("PartialOk(%v, %v) = %v", simple(events), times, got)
						}
					}
				}
			}
		}
	}
}

func TestFixTimes(t *testing.T) {
	three := simple(3, link{0, 1, 2, 4}, link{1, 2, 1, 3}, link{0, 2, -inf, 6})
	for _, c := range []struct {
		s     impl.Simple
		times []int
		more  []link
	}{
		// None fixed but event 0, one, and all.
		{simple(1), []int{0}, nil}, {simple(1, link{0, 0, -2, 3}), []int{0}, nil}, {simple(3), []int{0, open, open}, nil}, {three, []int{0, open, open}, nil}, {impl.Simple{Events: 2, Links: []impl.Link{}}, []int{0, open}, nil}, {bundle(40), []int{0, open}, nil},
		{simple(2), []int{0, 0}, []link{{0, 1, 0, 0}}}, {simple(2), []int{0, 5}, []link{{0, 1, 5, 5}}}, {simple(2), []int{0, 999999}, []link{{0, 1, 999999, 999999}}}, {three, []int{0, 3, open}, []link{{0, 1, 3, 3}}}, {three, []int{0, open, 5}, []link{{0, 2, 5, 5}}},
		{three, []int{0, 3, 5}, []link{{0, 1, 3, 3}, {0, 2, 5, 5}}}, {simple(3), []int{0, 0, 0}, []link{{0, 1, 0, 0}, {0, 2, 0, 0}}}, {simple(3), []int{0, 7, 1}, []link{{0, 1, 7, 7}, {0, 2, 1, 1}}},
		{simple(8), []int{0, 9, 8, 7, 6, 5, 4, 3}, []link{{0, 1, 9, 9}, {0, 2, 8, 8}, {0, 3, 7, 7}, {0, 4, 6, 6}, {0, 5, 5, 5}, {0, 6, 4, 4}, {0, 7, 3, 3}}}, {simple(8), []int{0, open, 8, open, 6, open, open, 3}, []link{{0, 2, 8, 8}, {0, 4, 6, 6}, {0, 7, 3, 3}}},
		// The network becomes inconsistent, or was so before.
		{three, []int{0, 5, open}, []link{{0, 1, 5, 5}}}, {three, []int{0, 2, 6}, []link{{0, 1, 2, 2}, {0, 2, 6, 6}}}, {simple(2, link{0, 1, -5, -1}), []int{0, 0}, []link{{0, 1, 0, 0}}}, {simple(2, link{0, 0, 1, 1}), []int{0, 4}, []link{{0, 1, 4, 4}}}, {simple(1, link{0, 0, 1, 1}), []int{0}, nil},
		// The links of s are the first ones, also if one of them is like a new one.
		{simple(2, link{0, 1, 5, 5}), []int{0, 5}, []link{{0, 1, 5, 5}}}, {simple(3, link{2, 2, 0, 0}, link{0, 2, 1, 1}), []int{0, 4, 1}, []link{{0, 1, 4, 4}, {0, 2, 1, 1}}},
		// MaxLinks links in all.
		{bundle(39), []int{0, 3}, []link{{0, 1, 3, 3}}}, {bundle(40), []int{0, open}, nil}, {filled(simple(3), 38), []int{0, 1, 2}, []link{{0, 1, 1, 1}, {0, 2, 2, 2}}}, {filled(simple(3), 39), []int{0, open, 2}, []link{{0, 2, 2, 2}}}, {filled(simple(1), 40), []int{0}, nil}, {filled(simple(8), 33), make([]int, 8), []link{{0, 1, 0, 0}, {0, 2, 0, 0}, {0, 3, 0, 0}, {0, 4, 0, 0}, {0, 5, 0, 0}, {0, 6, 0, 0}, {0, 7, 0, 0}}},
	} {
		want := impl.Simple{Events: c.s.Events, Links: slices.Clone(c.s.Links)}
		for _, l := range c.more {
			want.Links = append(want.Links, linkOf(l))
		}
		if got, ok := impl.FixTimes(c.s, c.times); !ok || !sameSimples(got, want) || !impl.SimpleOk(got) {
			t.Errorf("FixTimes(%v, %v) = %v, %v, want %v", c.s, c.times, got, ok, want)
		}
	}
}

// tooManyToFix are networks with so many links that the times beside them cannot be fixed; they break no link.
var tooManyToFix = []struct {
	s     impl.Simple
	times []int
}{
	{bundle(40), []int{0, 0}}, {filled(simple(2), 40), []int{0, 5}}, {filled(simple(3), 39), []int{0, 1, 2}}, {filled(simple(3), 40), []int{0, open, 2}}, {filled(simple(3), 40), []int{0, 1, open}}, {filled(simple(8), 34), make([]int, 8)}, {filled(simple(8), 36), []int{0, open, 1, 2, 3, 4, 5, open}}, {filled(chain(8, 1, 2), 40), []int{0, open, open, open, open, open, open, 9}},
}

// badTimes are no partial schedules of a network of three events.
var badTimes = [][]int{
	nil, {}, {0}, {0, 3}, {0, 3, 5, 6}, {0, 3, 5, open}, {open, 3, 5}, {1, 3, 5}, {-2, 3, 5}, {open, open, open}, {0, -2, 5}, {0, 3, -2}, {0, 1000000, open}, {0, open, 1000000}, {0, 3, math.MinInt}, {0, 3, math.MaxInt}, {math.MinInt, 3, 5}, {math.MaxInt, 3, 5}, make([]int, 1000),
}

// checkRefused checks that nothing can be said of what is no partial schedule, or one whose times cannot be fixed.
func checkRefused(t *testing.T, s impl.Simple, times []int) {
	if got, ok := impl.FixTimes(s, times); ok || got.Events != 0 || len(got.Links) != 0 {
		t.Errorf("FixTimes(%v, %v) = %v, %v", s, times, got, ok)
	}
	checkNotExtended(t, s, times)
}

// checkNotExtended checks what the functions say of a partial schedule that is not part of a schedule.
func checkNotExtended(t *testing.T, s impl.Simple, times []int) {
	if impl.CanExtend(s, times) {
		t.Errorf("CanExtend(%v, %v) = true", s, times)
	}
	for _, event := range eventsToTry {
		if got, ok := impl.NextTimes(s, times, event); ok || got != (impl.Interval{}) {
			t.Errorf("NextTimes(%v, %v, %d) = %v, %v", s, times, event, got, ok)
		}
	}
	if got, ok := impl.CompleteTimes(s, times); ok || len(got) != 0 {
		t.Errorf("CompleteTimes(%v, %v) = %v, %v", s, times, got, ok)
	}
}

func TestPartialSchedulesAreRefused(t *testing.T) {
	for _, s := range invalidSimples {
		for length := range 11 {
			for _, n := range []int{open, 0, 3} {
				times := slices.Repeat([]int{n}, length)
				if length > 0 {
					times[0] = 0
				}
				if impl.PartialOk(s, times) {
					t.Errorf("PartialOk(%v, %v) = true", s, times)
				}
				checkRefused(t, s, times)
			}
		}
	}
	for _, times := range badTimes {
		for _, s := range []impl.Simple{simple(3), simple(3, link{0, 1, 2, 4}, link{1, 2, 1, 3}), filled(simple(3), 40), simple(3, link{0, 0, 1, 1})} {
			if impl.PartialOk(s, times) {
				t.Errorf("PartialOk(%v, %v) = true", s, times)
			}
			checkRefused(t, s, times)
		}
	}
	for _, c := range tooManyToFix {
		if !impl.PartialOk(c.s, c.times) || !impl.IsConsistent(c.s) {
			t.Errorf("PartialOk(%v, %v) = %v", c.s, c.times, impl.PartialOk(c.s, c.times))
		}
		checkRefused(t, c.s, c.times)
	}
}

func TestCanExtend(t *testing.T) {
	three := simple(3, link{0, 1, 2, 4}, link{1, 2, 1, 3}, link{0, 2, -inf, 6})
	for _, c := range []struct {
		s     impl.Simple
		times []int
		want  bool
	}{
		{simple(1), []int{0}, true}, {simple(1, link{0, 0, -2, 3}), []int{0}, true}, {simple(3), []int{0, 999999, 0}, true}, {three, []int{0, open, open}, true}, {three, []int{0, 2, 5}, true}, {three, []int{0, 4, 6}, true}, {three, []int{0, 2, 3}, true},
		// Inside and just outside of a window.
		{three, []int{0, 2, open}, true}, {three, []int{0, 4, open}, true}, {three, []int{0, 1, open}, false}, {three, []int{0, 5, open}, false}, {three, []int{0, open, 3}, true}, {three, []int{0, open, 6}, true}, {three, []int{0, open, 2}, false}, {three, []int{0, open, 7}, false}, {simple(2, link{0, 1, 2, inf}), []int{0, 1}, false}, {simple(2, link{0, 1, 2, inf}), []int{0, 999999}, true}, {simple(2, link{1, 0, -3, -3}), []int{0, 3}, true}, {simple(2, link{1, 0, 3, 3}), []int{0, 3}, false},
		// Two times that exclude each other, though each is possible.
		{three, []int{0, 2, 6}, false}, {three, []int{0, 4, 4}, false}, {three, []int{0, 4, 3}, false}, {simple(3, link{1, 2, 1, 1}), []int{0, 5, 5}, false}, {simple(3, link{1, 2, 1, 1}), []int{0, 5, 6}, true}, {simple(3, link{2, 1, 1, 1}), []int{0, 5, 6}, false}, {simple(4, link{1, 2, 1, 2}, link{2, 3, 1, 2}), []int{0, 1, open, 6}, false}, {simple(4, link{1, 2, 1, 2}, link{2, 3, 1, 2}), []int{0, 1, open, 5}, true}, {simple(4, link{1, 2, 1, 2}, link{2, 3, 1, 2}), []int{0, 1, open, 2}, false},
		// Inconsistent without any fixed time, with a conflict that the fixed times do not touch.
		{simple(1, link{0, 0, 1, 1}), []int{0}, false}, {simple(3, link{2, 2, 1, 1}), []int{0, 4, open}, false}, {simple(2, link{0, 1, 2, 4}, link{0, 1, 5, 7}), []int{0, open}, false}, {simple(2, link{0, 1, 2, 4}, link{0, 1, 5, 7}), []int{0, 4}, false},
		// Only times below 0, or of Inf and beyond, are possible for an event: no partial schedule has them, but schedules may.
		{simple(2, link{0, 1, -5, -1}), []int{0, open}, true}, {simple(2, link{0, 1, -5, -1}), []int{0, 0}, false}, {simple(2, link{0, 1, -5, 0}), []int{0, 0}, true}, {chain(3, 999999, 999999), []int{0, open, open}, true}, {chain(3, 999999, 999999), []int{0, 999999, open}, true}, {chain(3, 999999, 999999), []int{0, 0, open}, false}, {chain(3, 500000, 500000), []int{0, open, 999999}, false},
		// As many links as can be.
		{bundle(39), []int{0, 0}, true}, {bundle(39), []int{0, 1}, false}, {bundle(40), []int{0, open}, true}, {bundle(40), []int{0, 0}, false}, {filled(three, 38), []int{0, 2, 5}, true}, {filled(three, 39), []int{0, 2, 5}, false}, {filled(three, 39), []int{0, open, 5}, true},
	} {
		if got := impl.CanExtend(c.s, c.times); got != c.want || canExtend(c.s, c.times) != c.want {
			t.Errorf("CanExtend(%v, %v) = %v", c.s, c.times, got)
		}
		if !c.want {
			checkNotExtended(t, c.s, c.times)
		}
	}
}

func TestNextTimes(t *testing.T) {
	three := simple(3, link{0, 1, 2, 4}, link{1, 2, 1, 3}, link{0, 2, -inf, 6})
	for _, c := range []struct {
		s     impl.Simple
		times []int
		event int
		want  impl.Interval
	}{
		// Open events, without and with a fixed one.
		{three, []int{0, open, open}, 1, span(2, 4)}, {three, []int{0, open, open}, 2, span(3, 6)}, {three, []int{0, open, 3}, 1, span(2, 2)}, {three, []int{0, open, 4}, 1, span(2, 3)}, {three, []int{0, open, 5}, 1, span(2, 4)}, {three, []int{0, open, 6}, 1, span(3, 4)}, {three, []int{0, 2, open}, 2, span(3, 5)}, {three, []int{0, 4, open}, 2, span(5, 6)}, {chain(8, 1, 2), []int{0, open, open, open, open, open, open, 8}, 3, span(3, 4)}, {simple(4, link{1, 2, 1, 2}, link{2, 3, 1, 2}), []int{0, 1, open, 5}, 2, span(3, 3)},
		// Fixed events, and event 0.
		{three, []int{0, 3, open}, 1, span(3, 3)}, {three, []int{0, 3, 5}, 1, span(3, 3)}, {three, []int{0, 3, 5}, 2, span(5, 5)}, {three, []int{0, 3, 5}, 0, span(0, 0)}, {three, []int{0, open, open}, 0, span(0, 0)}, {simple(1), []int{0}, 0, span(0, 0)}, {simple(1, link{0, 0, -2, 3}), []int{0}, 0, span(0, 0)}, {simple(2), []int{0, 999999}, 1, span(999999, 999999)}, {simple(2), []int{0, 0}, 1, span(0, 0)},
		// One or both bounds are infinite, until a time is fixed.
		{simple(3), []int{0, open, open}, 2, span(-inf, inf)}, {simple(3), []int{0, 5, open}, 2, span(-inf, inf)}, {simple(3, link{1, 2, 3, 4}), []int{0, open, open}, 2, span(-inf, inf)}, {simple(3, link{1, 2, 3, 4}), []int{0, 5, open}, 2, span(8, 9)}, {simple(3, link{1, 2, 3, 4}), []int{0, open, 5}, 1, span(1, 2)}, {simple(3, link{1, 2, 3, 4}), []int{0, open, 2}, 1, span(-2, -1)}, {simple(3, link{1, 2, 3, inf}), []int{0, 5, open}, 2, span(8, inf)}, {simple(3, link{1, 2, -inf, 4}), []int{0, 5, open}, 2, span(-inf, 9)}, {simple(3, link{1, 2, -inf, 4}), []int{0, open, 5}, 1, span(1, inf)}, {simple(2, link{0, 1, 2, inf}), []int{0, open}, 1, span(2, inf)}, {simple(2, link{0, 1, -inf, 2}), []int{0, open}, 1, span(-inf, 2)}, {simple(2, link{0, 1, -inf, 2}), []int{0, 2}, 1, span(2, 2)},
		// Bounds that reach Inf.
		{simple(3, link{1, 2, 1, 1}), []int{0, 999998, open}, 2, span(999999, 999999)}, {simple(3, link{1, 2, 1, 2}), []int{0, 999998, open}, 2, span(999999, inf)}, {simple(3, link{1, 2, -999999, 999999}), []int{0, 1, open}, 2, span(-999998, inf)},
		// As many links as can be.
		{filled(three, 39), []int{0, open, 6}, 1, span(3, 4)}, {filled(three, 40), []int{0, open, open}, 1, span(2, 4)}, {bundle(39), []int{0, 0}, 1, span(0, 0)},
	} {
		if got, ok := impl.NextTimes(c.s, c.times, c.event); !ok || got != c.want {
			t.Errorf("NextTimes(%v, %v, %d) = %v, %v, want %v", c.s, c.times, c.event, got, ok, c.want)
		}
	}
	for _, s := range []impl.Simple{simple(1), three, simple(3), simple(8), bundle(39)} {
		for _, times := range [][]int{onlyBeginning(s.Events), make([]int, s.Events)} {
			for _, event := range eventsToTry {
				got, ok := impl.NextTimes(s, times, event)
				if is := isEvent(s, event) && impl.CanExtend(s, times); ok != is || !ok && got != (impl.Interval{}) {
					t.Errorf("NextTimes(%v, %v, %d) = %v, %v", s, times, event, got, ok)
				}
			}
		}
	}
	// All times that are possible for event 2 are Inf or beyond, or -Inf or beyond: there is no interval of them.
	for _, s := range []impl.Simple{chain(3, 500000, 500000), chain(3, 999999, inf), simple(3, link{1, 2, -inf, -999999}, link{0, 1, -inf, -1})} {
		if got, ok := impl.NextTimes(s, []int{0, open, open}, 2); ok || got != (impl.Interval{}) || !impl.CanExtend(s, []int{0, open, open}) {
			t.Errorf("NextTimes(%v, [0 -1 -1], 2) = %v, %v", s, got, ok)
		}
	}
}

func TestCompleteTimes(t *testing.T) {
	three := simple(3, link{0, 1, 2, 4}, link{1, 2, 1, 3}, link{0, 2, -inf, 6})
	for _, c := range []struct {
		s           impl.Simple
		times, want []int
	}{
		// Nothing is open.
		{simple(1), []int{0}, []int{0}}, {simple(1, link{0, 0, -2, 3}), []int{0}, []int{0}}, {three, []int{0, 2, 5}, []int{0, 2, 5}}, {three, []int{0, 4, 6}, []int{0, 4, 6}}, {simple(3), []int{0, 999999, 0}, []int{0, 999999, 0}},
		// Everything is open but event 0, or one more event is not.
		{three, []int{0, open, open}, []int{0, 2, 3}}, {three, []int{0, 3, open}, []int{0, 3, 4}}, {three, []int{0, open, 6}, []int{0, 3, 6}}, {three, []int{0, open, 3}, []int{0, 2, 3}}, {simple(2, link{0, 1, 0, 4}), []int{0, open}, []int{0, 0}}, {simple(2, link{0, 1, 0, 0}), []int{0, open}, []int{0, 0}}, {chain(8, 1, 2), onlyBeginning(8), []int{0, 1, 2, 3, 4, 5, 6, 7}}, {chain(8, 0, inf), onlyBeginning(8), make([]int, 8)}, {chain(8, 1, 2), []int{0, open, open, open, open, open, open, 14}, []int{0, 2, 4, 6, 8, 10, 12, 14}},
		{chain(8, 1, 2), []int{0, open, open, 5, open, 8, open, open}, []int{0, 1, 3, 5, 6, 8, 9, 10}}, {withLinks(chain(4, 1, 5), linkOf(link{0, 3, 4, 9})), onlyBeginning(4), []int{0, 1, 2, 4}}, {simple(3, link{2, 1, 3, 5}, link{0, 2, 1, inf}), onlyBeginning(3), []int{0, 4, 1}},
		// One end of a window is infinite, or both are until a time is fixed; and the greatest times.
		{simple(2, link{0, 1, 2, inf}), []int{0, open}, []int{0, 2}}, {simple(2, link{0, 1, -inf, 2}), []int{0, 2}, []int{0, 2}}, {simple(3, link{1, 2, 3, 4}), []int{0, 5, open}, []int{0, 5, 8}}, {simple(3, link{1, 2, 3, 4}), []int{0, open, 5}, []int{0, 1, 5}}, {simple(3, link{1, 2, 3, 4}), []int{0, open, 4}, []int{0, 0, 4}},
		{simple(2, link{0, 1, 999999, inf}), []int{0, open}, []int{0, 999999}}, {simple(3, link{1, 2, 1, 2}), []int{0, 999998, open}, []int{0, 999998, 999999}},
		// Open events that bound one another.
		{simple(3, link{0, 1, 0, 9}, link{1, 2, 1, 1}), onlyBeginning(3), []int{0, 0, 1}}, {simple(3, link{0, 2, 0, 9}, link{1, 2, 0, 1}, link{0, 1, 0, inf}), onlyBeginning(3), []int{0, 0, 0}}, {simple(3, link{0, 2, 5, 9}, link{1, 2, 0, 1}), onlyBeginning(3), []int{0, 4, 5}},
		// As many links as can be.
		{filled(three, 38), onlyBeginning(3), []int{0, 2, 3}}, {filled(chain(8, 1, 2), 33), onlyBeginning(8), []int{0, 1, 2, 3, 4, 5, 6, 7}}, {filled(chain(8, 1, 2), 33), []int{0, 2, open, 5, open, open, 9, open}, []int{0, 2, 3, 5, 6, 7, 9, 10}}, {filled(simple(1), 40), []int{0}, []int{0}}, {bundle(39), []int{0, 0}, []int{0, 0}},
	} {
		got, ok := impl.CompleteTimes(c.s, c.times)
		if !ok || !slices.Equal(got, c.want) || !completes(c.s, c.times, got) {
			t.Errorf("CompleteTimes(%v, %v) = %v, %v, want %v", c.s, c.times, got, ok, c.want)
		}
	}
}

func TestCompleteTimesRefuses(t *testing.T) {
	three := simple(3, link{0, 1, 2, 4}, link{1, 2, 1, 3}, link{0, 2, -inf, 6})
	for _, c := range []struct {
		s          impl.Simple
		times      []int
		extendable bool
	}{
		// The fixed times cannot be extended, with open events and without.
		{three, []int{0, 5, open}, false}, {three, []int{0, 2, 6}, false}, {simple(1, link{0, 0, 1, 1}), []int{0}, false}, {simple(2, link{0, 1, 2, 4}, link{0, 1, 5, 7}), []int{0, open}, false}, {simple(4, link{1, 2, 1, 2}, link{2, 3, 1, 2}), []int{0, 1, open, 6}, false}, {three, []int{0, 1, 3}, false},
		// A window begins below 0: at Open, at another time, at -Inf.
		{simple(2, link{0, 1, -1, 5}), []int{0, open}, true}, {simple(2, link{0, 1, -2, 5}), []int{0, open}, true}, {simple(2, link{0, 1, -1, -1}), []int{0, open}, true}, {simple(2, link{0, 1, -999999, 5}), []int{0, open}, true}, {simple(2, link{0, 1, -inf, 5}), []int{0, open}, true}, {simple(2, link{0, 1, -inf, inf}), []int{0, open}, true}, {simple(2), []int{0, open}, true}, {simple(8), onlyBeginning(8), true}, {simple(3, link{1, 2, 3, 4}), []int{0, open, 3}, true}, {simple(3, link{1, 2, 3, 4}), []int{0, open, 2}, true}, {simple(3, link{0, 1, 2, 4}), []int{0, open, open}, true}, {simple(3, link{0, 2, 2, 4}), []int{0, open, open}, true}, {simple(3, link{0, 1, 2, 4}, link{0, 2, -1, 4}), []int{0, open, open}, true},
		// It begins at Inf, or all of it is at -Inf or beyond.
		{chain(3, 500000, 500000), []int{0, open, open}, true}, {chain(3, 500000, 600000), []int{0, open, open}, true}, {chain(3, 999999, 999999), []int{0, open, open}, true}, {chain(3, 999999, inf), []int{0, 999999, open}, true}, {simple(3, link{1, 2, 1, 1}), []int{0, 999999, open}, true}, {simple(3, link{1, 2, 1, inf}), []int{0, 999999, open}, true}, {chain(3, -500000, -500000), []int{0, open, open}, true}, {simple(3, link{0, 2, -500000, -500000}, link{2, 1, -500000, -500000}), []int{0, open, open}, true},
		// One more time cannot be fixed because of the links, at the first open event, between two of them, or behind the last one.
		{filled(chain(8, 1, 2), 40), onlyBeginning(8), true}, {filled(chain(8, 1, 2), 39), onlyBeginning(8), true}, {filled(chain(8, 1, 2), 37), onlyBeginning(8), true}, {filled(chain(8, 1, 2), 35), onlyBeginning(8), true}, {filled(chain(8, 1, 2), 34), onlyBeginning(8), true}, {filled(chain(8, 1, 2), 34), []int{0, 1, open, open, open, open, open, open}, true}, {filled(chain(8, 1, 2), 34), []int{0, 1, 2, 3, 4, 5, 6, open}, true}, {filled(chain(8, 1, 2), 34), []int{0, open, 2, 3, 4, 5, 6, 7}, true}, {filled(chain(8, 1, 2), 34), []int{0, 1, 2, 3, 4, 5, 6, 7}, false}, {filled(three, 39), onlyBeginning(3), true}, {filled(three, 40), onlyBeginning(3), true}, {filled(three, 39), []int{0, 2, open}, true}, {filled(three, 40), []int{0, 2, open}, false}, {filled(simple(2, link{0, 1, 2, 4}), 40), []int{0, open}, true},
	} {
		if got := impl.CanExtend(c.s, c.times); got != c.extendable {
			t.Errorf("CanExtend(%v, %v) = %v", c.s, c.times, got)
		}
		if got, ok := impl.CompleteTimes(c.s, c.times); ok || len(got) != 0 {
			t.Errorf("CompleteTimes(%v, %v) = %v, %v", c.s, c.times, got, ok)
		}
	}
}

func TestCountOpen(t *testing.T) {
	for _, c := range []struct {
		times []int
		want  int
	}{
		{nil, 0}, {[]int{}, 0}, {[]int{0}, 0}, {[]int{open}, 1}, {[]int{-1}, 1}, {[]int{0, 3, 5}, 0}, {[]int{0, open, 5}, 1}, {[]int{open, 0, open}, 2}, {[]int{open, open, open}, 3}, {[]int{0, 1, -2, 999999, 1000000, -1000000, math.MinInt, math.MaxInt}, 0}, {[]int{math.MinInt, open, -2, 0, open}, 2}, {[]int{1, 1, 1, 1}, 0}, {onlyBeginning(8), 7}, {slices.Repeat([]int{open}, 3000), 3000}, {slices.Repeat([]int{open, 4}, 3000), 3000}, {make([]int, 3000), 0},
	} {
		if got := impl.CountOpen(c.times); got != c.want {
			t.Errorf("CountOpen(%v) = %d, want %d", c.times, got, c.want)
		}
	}
	for length := range 6 {
		everyList(length, []int{open, 0, -2, 1}, func(times []int) {
			want := 0
			for i := 0; i < len(times); i++ {
				if times[i] == -1 {
					want++
				}
			}
			if got := impl.CountOpen(times); got != want {
				t.Errorf("CountOpen(%v) = %d, want %d", times, got, want)
			}
		})
	}
}

func TestPartialSchedulesOfSmallSimples(t *testing.T) {
	smallPartials(func(s impl.Simple) {
		for length := range s.Events + 2 {
			everyList(length, []int{open, 0, 1, 3}, func(times []int) { checkPartial(t, s, times) })
		}
	})
	for _, s := range simples() {
		for length := range 4 {
			everyList(length, []int{math.MinInt, -1000000, -2, open, 0, 4, 999999, 1000000}, func(times []int) { checkPartial(t, s, times) })
		}
		if isSimple(s) {
			checkPartial(t, s, onlyBeginning(s.Events))
			checkPartial(t, s, make([]int, s.Events))
		}
	}
}

// What can be said of a partial schedule of such a small network, if its times are at most 4, is found by trying all
// schedules: finite bounds of windows are from -6 to 10, and an event at 11 or -7 has the others at most 6 from it.
func checkAgainstExtensions(t *testing.T, s impl.Simple, schedules [][]int, times []int) (bool, bool) {
	const most = 17
	var possible [3][2*most + 1]bool
	var first []int
	for _, list := range schedules {
		if !extends(times, list) {
			continue
		}
		if first == nil {
			first = list
		}
		for n, at := range list {
			possible[n][at+most] = true
		}
	}
	if got := impl.CanExtend(s, times); got != (first != nil) {
		t.Fatalf("CanExtend(%v, %v) = %v, but the first schedule is %v", s, times, got, first)
	}
	for n := range s.Events {
		w, ok := impl.NextTimes(s, times, n)
		for at := -7; at <= 11; at++ {
			if is := possible[n][at+most]; is != (ok && impl.Contains(w, at)) {
				t.Fatalf("NextTimes(%v, %v, %d) = %v, but it is %v that the event may have the time %d", s, times, n, w, is, at)
			}
		}
	}
	// The least time of each open event after those before it is the first schedule, unless that begins below 0.
	got, ok := impl.CompleteTimes(s, times)
	if is := first != nil && slices.Min(first) >= 0; ok != is || ok && !slices.Equal(got, first) {
		t.Fatalf("CompleteTimes(%v, %v) = %v, %v, but the first schedule is %v", s, times, got, ok, first)
	}
	return first != nil, ok
}

func TestPartialSchedulesAgainstAllSchedules(t *testing.T) {
	var extended, completed, refused int
	smallPartials(func(s impl.Simple) {
		var schedules [][]int
		everyTimetable(s.Events, 17, func(times []int) {
			if isTimetable(s, times) {
				schedules = append(schedules, slices.Clone(times))
			}
		})
		everyList(s.Events-1, []int{open, 0, 1, 4}, func(times []int) {
			switch can, whole := checkAgainstExtensions(t, s, schedules, append([]int{0}, times...)); {
			case whole:
				completed++
			case can:
				extended++
			default:
				refused++
			}
		})
	})
	if extended < 10000 || completed < 10000 || refused < 10000 {
		t.Errorf("%d partial schedules that can only be extended, %d that can be completed and %d others are too few", extended, completed, refused)
	}
}

func TestVariousPartialSchedules(t *testing.T) {
	var whole, early, full, none int
	variousPartials(func(s impl.Simple, times []int) {
		checkPartial(t, s, times)
		_, ok := impl.CompleteTimes(s, times)
		switch room := 40 - len(s.Links) - len(times) + 1; {
		case ok && impl.CountOpen(times) > 1:
			whole++
		case !ok && impl.CanExtend(s, times) && room >= 0:
			early++
		case !ok && impl.CanExtend(s, times):
			full++
		case !ok:
			none++
		}
	})
	if whole < 500 || early < 200 || full < 200 || none < 200 {
		t.Errorf("%d completed schedules, %d with a window that begins too early or too late, %d with too many links and %d that cannot be extended are too few", whole, early, full, none)
	}
}

// A time is one of the next times of an open event exactly if the partial schedule can be extended when it is fixed.
func TestNextTimesAreExact(t *testing.T) {
	inside, outside := 0, 0
	variousPartials(func(s impl.Simple, times []int) {
		fixed, ok := impl.FixTimes(s, times)
		if !ok || len(fixed.Links) == 40 || !impl.CanExtend(s, times) {
			return
		}
		for event := 1; event < s.Events; event++ {
			w, ok := impl.NextTimes(s, times, event)
			for _, n := range []int{w.Low - 1, w.Low, w.Low + 1, w.High - 1, w.High, w.High + 1, 0, 5, 999999} {
				if times[event] != open || n < 0 || n >= inf {
					continue
				}
				more := slices.Clone(times)
				more[event] = n
				if is := ok && impl.Contains(w, n); impl.CanExtend(s, more) != is {
					t.Fatalf("NextTimes(%v, %v, %d) = %v, but it is %v that the time %d can be fixed", s, times, event, w, !is, n)
				} else if is {
					inside++
				} else {
					outside++
				}
			}
		}
	})
	if inside < 5000 || outside < 5000 {
		t.Errorf("%d possible times and %d others are too few", inside, outside)
	}
}

// The earliest times are a schedule, so that fixing one of them leaves the others as they are:
// where there is room for all links, the completion consists of the earliest times.
func TestCompletionsAreEarliestTimes(t *testing.T) {
	variousPartials(func(s impl.Simple, times []int) {
		fixed, ok := impl.FixTimes(s, times)
		if !ok || len(fixed.Links)+impl.CountOpen(times) > 40 {
			return
		}
		want, is := impl.EarliestTimes(fixed)
		if is = is && slices.Min(want) >= 0; !is {
			want = nil
		}
		if got, ok := impl.CompleteTimes(s, times); ok != is || !slices.Equal(got, want) {
			t.Fatalf("CompleteTimes(%v, %v) = %v, %v, want %v", s, times, got, ok, want)
		}
	})
}

func TestPartialArgumentsAreKept(t *testing.T) {
	for _, s := range simples() {
		// Behind both lists there is spare capacity, which must be kept as well.
		spare := append(slices.Clone(s.Links), slices.Repeat([]impl.Link{{From: 7, To: 7, Span: span(-77, -70)}}, 20)...)
		s.Links = spare[:len(s.Links)]
		links := slices.Clone(spare)
		for _, numbers := range [][]int{{0, open, open, open, open, open, open, open, open, -66, open}, {0, 0, 0, 0, 0, 0, 0, 0, 0, -66, open}, {0, 2, open, 4, open, 6, open, 8, open, -66, open}, {0, open, 3, open, open, open, open, 9, open, -66, open}, {0, 999999, 1000000, -2, 0, 0, 0, 0, 0, 0, 0}} {
			list := slices.Clone(numbers)
			for length := range 10 {
				times := numbers[:length]
				impl.PartialOk(s, times)
				impl.FixTimes(s, times)
				impl.CanExtend(s, times)
				impl.CompleteTimes(s, times)
				impl.CountOpen(times)
				for event := -1; event <= 9; event++ {
					impl.NextTimes(s, times, event)
				}
			}
			if !slices.Equal(spare, links) || !slices.Equal(numbers, list) {
				t.Errorf("an argument has changed: %v, %v", spare, numbers)
			}
		}
	}
}

func TestPartialResultsAreNew(t *testing.T) {
	wrong := impl.Link{From: 7, To: 7, Span: span(-77, -70)}
	for _, s := range []impl.Simple{simple(3, link{0, 1, 2, 4}, link{1, 2, 1, 3}), filled(simple(3, link{0, 1, 2, 4}, link{1, 2, 1, 3}), 38)} {
		for _, numbers := range [][]int{{0, open, open}, {0, 3, open}, {0, open, 5}, {0, 3, 5}} {
			// There is room to grow behind the links and behind the times.
			spare := append(slices.Clone(s.Links), slices.Repeat([]impl.Link{wrong}, 20)...)
			list := append(slices.Clone(numbers), -66, -66, -66)
			links, before := slices.Clone(spare), slices.Clone(list)
			s.Links = spare[:len(s.Links)]
			times := list[:3]
			checkNewList(t, "FixTimes", wrong, func() []impl.Link { fixed, _ := impl.FixTimes(s, times); return fixed.Links })
			checkNewList(t, "CompleteTimes", -5, func() []int { whole, _ := impl.CompleteTimes(s, times); return whole })
			if !slices.Equal(spare, links) || !slices.Equal(list, before) {
				t.Errorf("an argument has changed: %v, %v", spare, list)
			}
		}
	}
}

// Two networks with different fixed times come from the same one, whether it was given or is a result itself.
func TestFixTimesBranches(t *testing.T) {
	for length := range 20 {
		spare := make([]impl.Link, 60)
		s := impl.Simple{Events: 2, Links: spare[:length]}
		for range 3 {
			a, _ := impl.FixTimes(s, []int{0, 1})
			b, _ := impl.FixTimes(s, []int{0, 2})
			none, _ := impl.FixTimes(s, []int{0, open})
			n := len(s.Links)
			if len(a.Links) != n+1 || len(b.Links) != n+1 || len(none.Links) != n || a.Links[n] != linkOf(link{0, 1, 1, 1}) || b.Links[n] != linkOf(link{0, 1, 2, 2}) {
				t.Fatalf("two networks with fixed times of %v share a link: %v, %v", s, a, b)
			}
			a.Links[0] = linkOf(link{1, 1, 5, 5})
			if n > 0 && (b.Links[0] == a.Links[0] || none.Links[0] == a.Links[0] || s.Links[0] == a.Links[0]) {
				t.Fatalf("two networks share their first link: %v, %v, %v, %v", s, a, b, none)
			}
			s = b
		}
		if !slices.Equal(spare, make([]impl.Link, 60)) {
			t.Fatalf("the links of an argument have changed: %v", spare)
		}
	}
}

func TestNilAndEmptyListsOfPartialSchedulesAreEquivalent(t *testing.T) {
	for events := -2; events <= 10; events++ {
		for _, s := range []impl.Simple{{Events: events}, {Events: events, Links: []impl.Link{}}} {
			for _, times := range [][]int{nil, {}} {
				if impl.PartialOk(s, times) || impl.CountOpen(times) != 0 {
					t.Errorf("no times are a partial schedule of %v", s)
				}
				checkRefused(t, s, times)
			}
			times := slices.Repeat([]int{0}, max(events, 0))
			valid := events >= 1 && events <= 8
			fixed, ok := impl.FixTimes(s, times)
			list, whole := impl.CompleteTimes(s, times)
			if impl.PartialOk(s, times) != valid || impl.CanExtend(s, times) != valid || ok != valid || whole != valid || valid && (len(fixed.Links) != events-1 || !slices.Equal(list, times)) {
				t.Errorf("a partial schedule of %d events without links is wrong: %v, %v", events, fixed, list)
			}
		}
	}
}
