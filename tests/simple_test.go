package tests

import (
	"math"
	"math/rand"
	"slices"
	"testing"

	"loop.example/g00827/impl"
)

// link is written as its From, To, Low and High.
type link = [4]int

func linkOf(l link) impl.Link { return impl.Link{From: l[0], To: l[1], Span: span(l[2], l[3])} }

func simple(events int, links ...link) impl.Simple {
	s := impl.Simple{Events: events}
	for _, l := range links {
		s.Links = append(s.Links, linkOf(l))
	}
	return s
}

// chain is a network with a link from each event to the next one, all with this span.
func chain(events, low, high int) impl.Simple {
	s := impl.Simple{Events: events}
	for n := 1; n < events; n++ {
		s.Links = append(s.Links, linkOf(link{n - 1, n, low, high}))
	}
	return s
}

// bundle is a network with this many links from event 0 to event 1, each of which admits one time more.
func bundle(links int) impl.Simple {
	s := impl.Simple{Events: 2}
	for i := range links {
		s.Links = append(s.Links, linkOf(link{0, 1, -i, i}))
	}
	return s
}

// withLinks is s with more links behind its own.
func withLinks(s impl.Simple, links ...impl.Link) impl.Simple {
	return impl.Simple{Events: s.Events, Links: slices.Concat(s.Links, links)}
}

func sameSimples(a, b impl.Simple) bool {
	return a.Events == b.Events && slices.Equal(a.Links, b.Links)
}

func sameGraphs(a, b impl.Graph) bool { return a.Nodes == b.Nodes && slices.Equal(a.Edges, b.Edges) }

func isEvent(s impl.Simple, n int) bool { return 0 <= n && n < s.Events }

// isSimple is what the document says of a valid network, with its numbers written out.
func isSimple(s impl.Simple) bool {
	ok := s.Events >= 1 && s.Events <= 8 && len(s.Links) <= 40
	for _, l := range s.Links {
		ok = ok && isEvent(s, l.From) && isEvent(s, l.To) && isSpan(l.Span)
	}
	return ok
}

// linkGraph is what the document says of GraphOf, and for each edge the link from which it comes.
func linkGraph(s impl.Simple) (impl.Graph, []int) {
	if !isSimple(s) {
		return impl.Graph{}, nil
	}
	g := impl.Graph{Nodes: s.Events}
	var from []int
	for i := 0; i < len(s.Links); i++ {
		l := s.Links[i]
		if l.Span.High < 1000000 {
			g.Edges = append(g.Edges, impl.Edge{From: l.From, To: l.To, Weight: l.Span.High})
			from = append(from, i)
		}
		if l.Span.Low > -1000000 {
			g.Edges = append(g.Edges, impl.Edge{From: l.To, To: l.From, Weight: -l.Span.Low})
			from = append(from, i)
		}
	}
	return g, from
}

func isConsistent(s impl.Simple) bool {
	g, _ := linkGraph(s)
	return isSimple(s) && !hasNegativeCycle(g, tableSums)
}

// conflictIn is what the document says of ConflictOf.
func conflictIn(s impl.Simple) []int {
	g, from := linkGraph(s)
	var list []int
	for _, i := range writtenCycle(g) {
		list = append(list, from[i])
	}
	return list
}

// windowIn is what the document says of WindowOf; there is none if it would not be an interval.
func windowIn(s impl.Simple, event int) (impl.Interval, bool) {
	if !isConsistent(s) || !isEvent(s, event) {
		return impl.Interval{}, false
	}
	g, _ := linkGraph(s)
	there, _ := tableSums(g, 0)
	back, _ := tableSums(g, event)
	w := span(min(-back[0], 1000000), max(there[event], -1000000))
	if !isSpan(w) {
		return impl.Interval{}, false
	}
	return w, true
}

// timesIn is what the document says of EarliestTimes and LatestTimes.
func timesIn(s impl.Simple, bound func(w impl.Interval) int) ([]int, bool) {
	var times []int
	for n := range max(0, min(s.Events, 8)) {
		w, ok := windowIn(s, n)
		if !ok || bound(w) <= -1000000 || bound(w) >= 1000000 {
			return nil, false
		}
		times = append(times, bound(w))
	}
	return times, times != nil
}

func lowOf(w impl.Interval) int { return w.Low }

func highOf(w impl.Interval) int { return w.High }

// brokenIn is what the document says of BrokenLink.
func brokenIn(s impl.Simple, times []int) int {
	if !isSimple(s) || len(times) != s.Events || slices.Min(times) < -1000000 || slices.Max(times) > 1000000 {
		return -1
	}
	for i := range s.Links {
		if l := s.Links[i]; !holds(l.Span, times[l.To]-times[l.From]) {
			return i
		}
	}
	return -1
}

// isTimetable is what the document says of IsSchedule.
func isTimetable(s impl.Simple, times []int) bool {
	if !isSimple(s) || len(times) != s.Events || times[0] != 0 || slices.Min(times) < -1000000 || slices.Max(times) > 1000000 {
		return false
	}
	for _, l := range s.Links {
		if !holds(l.Span, times[l.To]-times[l.From]) {
			return false
		}
	}
	return true
}

// consistentSimples are valid and have schedules.
var consistentSimples = []impl.Simple{
	{Events: 1}, {Events: 1, Links: []impl.Link{}}, {Events: 5}, {Events: 8}, {Events: 8, Links: []impl.Link{}},
	simple(1, link{0, 0, 0, 0}), simple(1, link{0, 0, -inf, inf}), simple(1, link{0, 0, -3, inf}), simple(2, link{1, 1, -1, 1}, link{0, 0, -inf, 0}),
	simple(2, link{0, 1, 2, 4}), simple(2, link{1, 0, 2, 4}), simple(2, link{0, 1, 3, 3}), simple(2, link{0, 1, -inf, inf}), simple(2, link{0, 1, -inf, 5}), simple(2, link{0, 1, 5, inf}), simple(2, link{0, 1, -5, -5}),
	simple(2, link{0, 1, 2, 4}, link{0, 1, 4, 6}), simple(2, link{0, 1, 2, 4}, link{1, 0, -3, -1}), simple(2, link{0, 1, 2, 4}, link{0, 1, 2, 4}),
	simple(3, link{0, 1, 2, 4}, link{1, 2, 1, 3}, link{0, 2, -inf, 6}), simple(3, link{0, 1, 2, 4}, link{1, 2, 1, inf}), simple(3, link{0, 1, 2, 4}, link{1, 2, -inf, 3}), simple(3, link{1, 2, 5, 7}),
	simple(8, link{0, 7, 1, 2}, link{7, 0, -2, -1}, link{7, 7, 0, 0}), chain(8, 1, 2), chain(8, -inf, inf), chain(8, 0, inf), chain(8, -2, -1),
	simple(2, link{0, 1, -999999, 999999}), simple(2, link{0, 1, 999999, inf}), simple(2, link{0, 1, -inf, -999999}), simple(2, link{0, 1, 999999, 999999}), simple(2, link{0, 1, -999999, -999999}),
	chain(3, 999999, 999999), chain(3, -999999, -999999), chain(8, 999999, inf), chain(8, -inf, -999999), chain(3, 500000, 500000), chain(3, 0, 500000), chain(3, -500000, 0), bundle(39), bundle(40),
}

// contradictions are valid and have no schedules.
var contradictions = []impl.Simple{
	simple(1, link{0, 0, 1, 1}), simple(1, link{0, 0, -1, -1}), simple(1, link{0, 0, 1, inf}), simple(1, link{0, 0, -inf, -1}), simple(1, link{0, 0, -999999, -999999}), simple(8, link{7, 7, 2, 3}),
	simple(2, link{0, 1, 2, 4}, link{0, 1, 5, 7}), simple(2, link{0, 1, 5, 7}, link{0, 1, 2, 4}), simple(2, link{0, 1, 2, 4}, link{1, 0, -1, 3}), simple(2, link{0, 1, -2, -1}, link{1, 0, -5, 0}), simple(2, link{0, 1, -inf, -1}, link{0, 1, 0, inf}),
	simple(3, link{0, 1, 1, 2}, link{1, 2, 1, 2}, link{0, 2, 5, 9}), simple(3, link{0, 1, 2, 4}, link{1, 2, 1, 3}, link{0, 2, -inf, 6}, link{0, 2, 9, 9}), simple(3, link{1, 2, 1, 1}, link{1, 2, 2, 2}), simple(8, link{6, 7, 3, 4}, link{7, 6, 3, 4}),
	withLinks(chain(8, 1, 2), linkOf(link{0, 7, 15, 15})), withLinks(chain(8, 1, 2), linkOf(link{0, 7, 6, 6})), withLinks(chain(8, 999999, 999999), linkOf(link{7, 0, 0, inf})), withLinks(bundle(39), linkOf(link{0, 1, 1, 1})),
}

// invalidSimples are consistent or not as far as one could read them.
var invalidSimples = []impl.Simple{
	{}, {Links: []impl.Link{}}, {Events: -1}, {Events: 9}, {Events: 10}, {Events: 80}, {Events: math.MinInt}, {Events: math.MaxInt}, {Events: -8}, {Events: 1 << 32}, {Events: -1, Links: []impl.Link{}}, {Events: 9, Links: []impl.Link{}},
	simple(0, link{0, 0, 0, 0}), simple(-1, link{0, 0, 0, 0}), simple(9, link{0, 1, 2, 4}), simple(9, link{8, 8, 1, 1}), simple(math.MaxInt, link{0, 1, 2, 4}), simple(math.MinInt, link{0, 1, 2, 4}),
	simple(1, link{0, 1, 0, 0}), simple(1, link{1, 0, 0, 0}), simple(1, link{0, -1, 0, 0}), simple(1, link{-1, 0, 0, 0}), simple(2, link{0, 1, 2, 4}, link{0, 2, 1, 1}), simple(2, link{2, 1, 1, 1}, link{0, 1, 2, 4}), simple(8, link{0, 8, 1, 1}), simple(8, link{8, 0, 1, 1}), simple(8, link{8, 8, 0, 0}), simple(8, link{-1, -1, 0, 0}),
	simple(2, link{0, math.MinInt, 1, 1}), simple(2, link{math.MinInt, 0, 1, 1}), simple(2, link{0, math.MaxInt, 1, 1}), simple(2, link{math.MaxInt, 0, 1, 1}), simple(1, link{0, 0, 1, 1}, link{0, 1, 0, 0}), simple(2, link{0, 1, 2, 4}, link{0, 1, 5, 7}, link{0, 0, 1, 0}),
	simple(2, link{0, 1, 4, 2}), simple(2, link{0, 1, 1, 0}), simple(2, link{0, 1, inf, inf}), simple(2, link{0, 1, -inf, -inf}), simple(2, link{0, 1, inf, -inf}), simple(2, link{0, 1, inf, 3}), simple(2, link{0, 1, 3, -inf}), simple(2, link{0, 1, 0, 1000001}), simple(2, link{0, 1, -1000001, 0}), simple(2, link{0, 1, -1000001, 1000001}),
	simple(2, link{0, 1, math.MinInt, 0}), simple(2, link{0, 1, 0, math.MaxInt}), simple(2, link{0, 1, math.MinInt, math.MaxInt}), simple(2, link{0, 1, math.MinInt, math.MinInt}), simple(2, link{0, 1, math.MaxInt, math.MaxInt}), simple(2, link{0, 1, math.MaxInt, math.MinInt}),
	simple(2, link{0, 1, 2, 4}, link{0, 1, 4, 2}), simple(2, link{0, 1, 4, 2}, link{0, 1, 2, 4}), simple(3, link{0, 1, 2, 4}, link{1, 2, inf, inf}, link{0, 2, 2, 4}), bundle(41), bundle(42), bundle(1000), {Events: 1, Links: make([]impl.Link, 41)}, {Events: 8, Links: make([]impl.Link, 81)},
}

// simples are all of them.
func simples() []impl.Simple {
	return slices.Concat(consistentSimples, contradictions, invalidSimples)
}

// smallSimples calls visit with each network of this many events and links whose spans are among these. The network is only good during the visit.
func smallSimples(events, links int, spans []impl.Interval, visit func(s impl.Simple)) {
	s := impl.Simple{Events: events, Links: make([]impl.Link, links)}
	var from func(i int)
	from = func(i int) {
		if i == links {
			visit(s)
			return
		}
		for pair := range events * events {
			for _, w := range spans {
				s.Links[i] = impl.Link{From: pair / events, To: pair % events, Span: w}
				from(i + 1)
			}
		}
	}
	from(0)
}

// everySmallSimple calls visit with each of many small networks, whose finite bounds are from -3 to 3.
func everySmallSimple(visit func(s impl.Simple)) {
	many := []impl.Interval{span(-inf, inf), span(-inf, 0), span(-inf, -2), span(1, inf), span(-1, inf), span(-1, 2), span(2, 3), span(-3, -2), span(0, 0)}
	for events := 1; events <= 3; events++ {
		for links := range 3 {
			smallSimples(events, links, many, visit)
		}
	}
	smallSimples(1, 3, many, visit)
	smallSimples(2, 3, many, visit)
	smallSimples(3, 3, []impl.Interval{span(-inf, 1), span(1, 2), span(-3, -1)}, visit)
}

// nearest is the valid span from low to high in which what lies beyond the greatest weights stands for no bound, or for the last finite one.
func nearest(low, high int) impl.Interval {
	w := span(min(low, 999999), max(high, -999999))
	if w.Low < -999999 {
		w.Low = -inf
	}
	if w.High > 999999 {
		w.High = inf
	}
	return w
}

// linkAround returns a link that these times keep, and that allows some others.
func linkAround(r *rand.Rand, times []int, reach int) impl.Link {
	from, to := r.Intn(len(times)), r.Intn(len(times))
	apart := times[to] - times[from]
	low, high := apart-r.Intn(reach/2+1), apart+r.Intn(reach/2+1)
	if r.Intn(5) == 0 {
		low = -inf
	}
	if r.Intn(5) == 0 {
		high = inf
	}
	return impl.Link{From: from, To: to, Span: nearest(low, high)}
}

// tightChain returns links through some of the events, and one from the first of them to the last, which allows just the greatest sum of the others, one less or one more.
func tightChain(r *rand.Rand, events int) []impl.Link {
	order := r.Perm(events)[:1+r.Intn(events)]
	var links []impl.Link
	most := r.Intn(3) - 1
	for k := 1; k < len(order); k++ {
		low, high := r.Intn(6)-3, 3+r.Intn(6)
		most += high
		if r.Intn(2) == 0 {
			links = append(links, linkOf(link{order[k-1], order[k], low, high}))
		} else {
			links = append(links, linkOf(link{order[k], order[k-1], -high, -low}))
		}
	}
	return append(links, linkOf(link{order[0], order[len(order)-1], most, most + r.Intn(9)}))
}

// variousSimples calls visit with some thousand larger networks, the same ones in every run. Many have a schedule around which they are built.
func variousSimples(visit func(s impl.Simple)) {
	r := rand.New(rand.NewSource(6))
	for k := range 4000 {
		reach := []int{3, 12, 100, 999999, 499999}[k%5]
		s := impl.Simple{Events: 1 + r.Intn(8)}
		hidden := make([]int, s.Events)
		for n := 1; n < s.Events; n++ {
			hidden[n] = r.Intn(reach+1) - r.Intn(reach+1)
		}
		links := r.Intn(2*s.Events + 1)
		if k%20 == 0 {
			links = r.Intn(41)
		}
		for range links {
			s.Links = append(s.Links, linkAround(r, hidden, reach))
		}
		if links > 0 && r.Intn(3) == 0 {
			w, by := &s.Links[r.Intn(links)].Span, r.Intn(2*reach+1)-reach
			*w = nearest(w.Low+by, w.High+by)
		}
		if links <= 32 && r.Intn(3) == 0 {
			s.Links = append(s.Links, tightChain(r, s.Events)...)
			r.Shuffle(len(s.Links), func(i, k int) { s.Links[i], s.Links[k] = s.Links[k], s.Links[i] })
		}
		visit(s)
	}
}

func TestSimpleTypes(t *testing.T) {
	if impl.MaxLinks != 40 {
		t.Errorf("MaxLinks = %d", impl.MaxLinks)
	}
	s := impl.Simple{Events: 2, Links: []impl.Link{{From: 0, To: 1, Span: impl.Interval{Low: 3, High: 5}}}}
	if s.Events != 2 || s.Links[0] != (impl.Link{From: 0, To: 1, Span: span(3, 5)}) || s.Links[0] == (impl.Link{From: 1, To: 0, Span: span(3, 5)}) {
		t.Error("a network is not its Events and Links")
	}
}

func TestSimpleOk(t *testing.T) {
	for _, s := range slices.Concat(consistentSimples, contradictions) {
		if !impl.SimpleOk(s) || !isSimple(s) {
			t.Errorf("SimpleOk(%v) = %v", s, impl.SimpleOk(s))
		}
	}
	for _, s := range invalidSimples {
		if impl.SimpleOk(s) || isSimple(s) {
			t.Errorf("SimpleOk(%v) = %v", s, impl.SimpleOk(s))
		}
	}
}

func TestSimpleOkOfEveryNumber(t *testing.T) {
	numbers := []int{
		math.MinInt, math.MinInt + 1, -1 << 32, -1000001, -1000000, -999999, -41, -9, -8, -2, -1,
		0, 1, 2, 3, 7, 8, 9, 39, 40, 41, 999999, 1000000, 1000001, 1 << 32, math.MaxInt - 1, math.MaxInt,
	}
	for _, events := range numbers {
		for _, n := range numbers {
			for _, s := range []impl.Simple{
				simple(events), simple(events, link{n, 0, 0, 0}), simple(events, link{0, n, 0, 0}), simple(events, link{n, n, 0, 0}), simple(events, link{0, 0, n, n}), simple(events, link{0, 0, n, 5}), simple(events, link{0, 0, -5, n}),
				simple(events, link{0, 0, 0, 0}, link{n, 0, 0, 0}, link{0, 0, 0, 0}), simple(events, link{0, 0, 0, 0}, link{0, n, 0, 0}), simple(events, link{0, 0, n, inf}, link{0, 0, 0, 0}), simple(events, link{0, 0, 0, 0}, link{0, 0, -inf, n}),
			} {
				if got := impl.SimpleOk(s); got != isSimple(s) {
					t.Errorf("SimpleOk(%v) = %v", s, got)
				}
			}
		}
	}
	for links := range 100 {
		if got := impl.SimpleOk(bundle(links)); got != (links <= 40) {
			t.Errorf("SimpleOk is %v for %d links", got, links)
		}
	}
	for _, w := range spans() {
		if got := impl.SimpleOk(impl.Simple{Events: 2, Links: []impl.Link{{From: 0, To: 1, Span: w}}}); got != isSpan(w) {
			t.Errorf("SimpleOk is %v for a link with the span %v", got, w)
		}
	}
}

func TestGraphOf(t *testing.T) {
	for _, c := range []struct {
		s    impl.Simple
		want impl.Graph
	}{
		{simple(1), graph(1)}, {simple(8), graph(8)}, {impl.Simple{Events: 3, Links: []impl.Link{}}, graph(3)},
		// Both bounds, one of them, and none.
		{simple(2, link{0, 1, 2, 4}), graph(2, edge{0, 1, 4}, edge{1, 0, -2})}, {simple(2, link{1, 0, 2, 4}), graph(2, edge{1, 0, 4}, edge{0, 1, -2})}, {simple(2, link{0, 1, -4, -2}), graph(2, edge{0, 1, -2}, edge{1, 0, 4})}, {simple(2, link{0, 1, 3, 3}), graph(2, edge{0, 1, 3}, edge{1, 0, -3})},
		{simple(2, link{0, 1, 0, 0}), graph(2, edge{0, 1, 0}, edge{1, 0, 0})}, {simple(2, link{0, 1, -inf, 4}), graph(2, edge{0, 1, 4})}, {simple(2, link{0, 1, 2, inf}), graph(2, edge{1, 0, -2})}, {simple(2, link{0, 1, -inf, inf}), graph(2)},
		{simple(2, link{0, 1, -999999, 999999}), graph(2, edge{0, 1, 999999}, edge{1, 0, 999999})}, {simple(2, link{0, 1, 999999, 999999}), graph(2, edge{0, 1, 999999}, edge{1, 0, -999999})}, {simple(2, link{0, 1, -999999, -999999}), graph(2, edge{0, 1, -999999}, edge{1, 0, 999999})},
		{simple(2, link{0, 1, 999999, inf}), graph(2, edge{1, 0, -999999})}, {simple(2, link{0, 1, -inf, -999999}), graph(2, edge{0, 1, -999999})},
		// From an event to itself.
		{simple(1, link{0, 0, -1, 5}), graph(1, edge{0, 0, 5}, edge{0, 0, 1})}, {simple(3, link{2, 2, 1, 5}), graph(3, edge{2, 2, 5}, edge{2, 2, -1})}, {simple(2, link{1, 1, -inf, inf}), graph(2)},
		// Two links between the same events, and the order of the edges.
		{simple(2, link{0, 1, 2, 4}, link{0, 1, 3, 5}), graph(2, edge{0, 1, 4}, edge{1, 0, -2}, edge{0, 1, 5}, edge{1, 0, -3})}, {simple(2, link{0, 1, 2, 4}, link{1, 0, 3, 5}), graph(2, edge{0, 1, 4}, edge{1, 0, -2}, edge{1, 0, 5}, edge{0, 1, -3})}, {simple(2, link{0, 1, 2, 4}, link{0, 1, 2, 4}), graph(2, edge{0, 1, 4}, edge{1, 0, -2}, edge{0, 1, 4}, edge{1, 0, -2})},
		{simple(3, link{1, 2, 6, inf}, link{0, 1, -inf, inf}, link{2, 0, -inf, 7}, link{0, 2, -8, 9}), graph(3, edge{2, 1, -6}, edge{2, 0, 7}, edge{0, 2, 9}, edge{2, 0, 8})}, {chain(4, 1, 2), graph(4, edge{0, 1, 2}, edge{1, 0, -1}, edge{1, 2, 2}, edge{2, 1, -1}, edge{2, 3, 2}, edge{3, 2, -1})},
	} {
		if got := impl.GraphOf(c.s); !sameGraphs(got, c.want) {
			t.Errorf("GraphOf(%v) = %v, want %v", c.s, got, c.want)
		}
	}
	if got := impl.GraphOf(bundle(40)); len(got.Edges) != 80 || !impl.GraphOk(got) || got.Edges[78] != (impl.Edge{From: 0, To: 1, Weight: 39}) || got.Edges[79] != (impl.Edge{From: 1, To: 0, Weight: 39}) {
		t.Errorf("GraphOf 40 links = %v", got)
	}
	for _, s := range invalidSimples {
		if got := impl.GraphOf(s); got.Nodes != 0 || len(got.Edges) != 0 {
			t.Errorf("GraphOf(%v) = %v", s, got)
		}
	}
}

func checkGraphOf(t *testing.T, s impl.Simple) {
	got := impl.GraphOf(s)
	if want, _ := linkGraph(s); !sameGraphs(got, want) || !impl.GraphOk(got) {
		t.Fatalf("GraphOf(%v) = %v, want %v", s, got, want)
	}
}

func TestGraphsOfManySimples(t *testing.T) {
	everySmallSimple(func(s impl.Simple) { checkGraphOf(t, s) })
	variousSimples(func(s impl.Simple) { checkGraphOf(t, s) })
}

func TestIsConsistent(t *testing.T) {
	for _, s := range consistentSimples {
		if !impl.IsConsistent(s) || !isConsistent(s) {
			t.Errorf("IsConsistent(%v) = %v", s, impl.IsConsistent(s))
		}
	}
	for _, s := range slices.Concat(contradictions, invalidSimples) {
		if impl.IsConsistent(s) || isConsistent(s) {
			t.Errorf("IsConsistent(%v) = %v", s, impl.IsConsistent(s))
		}
	}
}

// The wanted conflicts are worked out by hand from the document's rounds.
func TestConflictOf(t *testing.T) {
	for _, c := range []struct {
		s    impl.Simple
		want []int
	}{
		// One link, from an event to itself: its Low or its High.
		{simple(1, link{0, 0, 1, 2}), []int{0}}, {simple(1, link{0, 0, -3, -1}), []int{0}}, {simple(1, link{0, 0, 1, inf}), []int{0}}, {simple(1, link{0, 0, -inf, -1}), []int{0}}, {simple(2, link{0, 1, 2, 4}, link{1, 1, 1, 2}, link{0, 1, 3, 5}), []int{1}},
		// Two links: the High of the first one and the Low of the second one, then the other way round, then both Low, then both High.
		{simple(2, link{0, 1, 2, 4}, link{0, 1, 5, 7}), []int{0, 1}}, {simple(2, link{0, 1, 5, 7}, link{0, 1, 2, 4}), []int{0, 1}}, {simple(2, link{0, 1, 2, 4}, link{1, 0, -1, 3}), []int{0, 1}}, {simple(2, link{0, 1, -2, -1}, link{1, 0, -5, 0}), []int{0, 1}},
		// Links without an edge, or with one: the index of an edge is not that of its link.
		{simple(2, link{0, 1, -inf, inf}, link{0, 1, -inf, 3}, link{0, 1, 5, inf}), []int{1, 2}}, {simple(2, link{0, 1, -9, 9}, link{0, 1, -9, 9}, link{0, 0, 1, 2}), []int{2}}, {simple(1, link{0, 0, -inf, inf}, link{0, 0, -inf, 0}, link{0, 0, 1, inf}), []int{2}},
		// Three links.
		{simple(3, link{0, 1, 1, 2}, link{1, 2, 1, 2}, link{0, 2, 5, 9}), []int{0, 1, 2}}, {simple(3, link{0, 1, 2, 4}, link{1, 2, 1, 3}, link{0, 2, -inf, 6}, link{0, 2, 9, 9}), []int{3, 2}},
		// Several conflicts: the one whose edge changes a number last.
		{simple(3, link{1, 1, 1, 1}, link{2, 2, 1, 1}), []int{1}}, {simple(3, link{2, 2, 1, 1}, link{1, 1, 1, 1}), []int{1}}, {simple(1, link{0, 0, 3, 3}, link{0, 0, 1, 1}), []int{1}}, {simple(1, link{0, 0, 3, 3}, link{0, 0, 1, 1}, link{0, 0, -1, 1}), []int{1}},
	} {
		if got := impl.ConflictOf(c.s); !slices.Equal(got, c.want) {
			t.Errorf("ConflictOf(%v) = %v, want %v (as written: %v)", c.s, got, c.want, conflictIn(c.s))
		}
	}
	for _, s := range slices.Concat(consistentSimples, invalidSimples) {
		if got := impl.ConflictOf(s); len(got) != 0 {
			t.Errorf("ConflictOf(%v) = %v", s, got)
		}
	}
}

// checkConflict also checks that the links of a conflict suffice for a contradiction.
func checkConflict(t *testing.T, s impl.Simple) {
	got := impl.ConflictOf(s)
	if want := conflictIn(s); !slices.Equal(got, want) || (len(got) > 0) == impl.IsConsistent(s) {
		t.Fatalf("ConflictOf(%v) = %v, want %v", s, got, want)
	}
	alone := impl.Simple{Events: s.Events}
	for _, i := range got {
		alone.Links = append(alone.Links, s.Links[i])
	}
	if len(got) > 0 && impl.IsConsistent(alone) {
		t.Fatalf("ConflictOf(%v) = %v is none", s, got)
	}
}

func TestConflictsOfManySimples(t *testing.T) {
	for _, s := range contradictions {
		checkConflict(t, s)
	}
	everySmallSimple(func(s impl.Simple) { checkConflict(t, s) })
	long := 0
	variousSimples(func(s impl.Simple) {
		if checkConflict(t, s); len(impl.ConflictOf(s)) > 2 {
			long++
		}
		if impl.IsConsistent(s) != isConsistent(s) {
			t.Fatalf("IsConsistent(%v) = %v", s, impl.IsConsistent(s))
		}
	})
	if long < 200 {
		t.Errorf("%d conflicts of more than two links are too few", long)
	}
}

func TestWindowOf(t *testing.T) {
	three := simple(3, link{0, 1, 2, 4}, link{1, 2, 1, 3}, link{0, 2, -inf, 6})
	for _, c := range []struct {
		s     impl.Simple
		event int
		want  impl.Interval
	}{
		{three, 0, span(0, 0)}, {three, 1, span(2, 4)}, {three, 2, span(3, 6)}, {simple(1), 0, span(0, 0)}, {simple(1, link{0, 0, -3, 3}), 0, span(0, 0)}, {simple(2, link{0, 1, 2, 4}), 1, span(2, 4)}, {simple(2, link{1, 0, 2, 4}), 1, span(-4, -2)},
		{simple(2, link{0, 1, 2, 4}, link{0, 1, 3, 6}), 1, span(3, 4)}, {simple(2, link{0, 1, 2, 4}, link{1, 0, -2, 1}), 1, span(2, 2)}, {chain(8, 1, 2), 7, span(7, 14)}, {chain(8, -2, -1), 7, span(-14, -7)}, {withLinks(chain(8, 1, 2), linkOf(link{0, 7, 8, 8})), 3, span(3, 4)},
		{withLinks(chain(4, 1, 5), linkOf(link{0, 3, 4, 4})), 1, span(1, 2)}, {withLinks(chain(4, 1, 5), linkOf(link{0, 3, 4, 4})), 2, span(2, 3)},
		// Events that no link reaches, or only from one another.
		{simple(8), 7, span(-inf, inf)}, {simple(8), 0, span(0, 0)}, {simple(3, link{0, 1, 1, 1}), 2, span(-inf, inf)}, {simple(3, link{1, 2, 3, 4}), 1, span(-inf, inf)}, {simple(3, link{1, 2, 3, 4}), 2, span(-inf, inf)}, {simple(2, link{0, 1, -inf, inf}), 1, span(-inf, inf)},
		// One bound.
		{simple(2, link{0, 1, 2, inf}), 1, span(2, inf)}, {simple(2, link{0, 1, -inf, 4}), 1, span(-inf, 4)}, {simple(2, link{1, 0, 2, inf}), 1, span(-inf, -2)}, {simple(3, link{0, 1, 2, 4}, link{1, 2, 1, inf}), 2, span(3, inf)}, {simple(3, link{0, 1, 2, 4}, link{1, 2, -inf, 3}), 2, span(-inf, 7)},
		{simple(3, link{0, 1, 2, inf}, link{1, 2, 1, 3}), 2, span(3, inf)}, {simple(3, link{0, 1, 2, inf}, link{1, 2, 0, inf}, link{0, 2, -inf, 9}), 1, span(2, 9)},
		// The greatest finite bounds, and distances that reach Inf or go beyond it.
		{simple(2, link{0, 1, 999999, 999999}), 1, span(999999, 999999)}, {simple(2, link{0, 1, -999999, 999999}), 1, span(-999999, 999999)}, {simple(2, link{0, 1, 999999, inf}), 1, span(999999, inf)}, {simple(2, link{0, 1, -inf, -999999}), 1, span(-inf, -999999)},
		{chain(3, 0, 499999), 2, span(0, 999998)}, {chain(3, 0, 500000), 2, span(0, inf)}, {chain(3, 0, 999999), 2, span(0, inf)}, {chain(3, -500000, 0), 2, span(-inf, 0)}, {chain(3, -999999, 999999), 2, span(-inf, inf)}, {chain(8, 1, 999999), 7, span(7, inf)},
		{simple(3, link{0, 1, 499999, 500000}, link{1, 2, 500000, 500000}), 2, span(999999, inf)}, {simple(3, link{0, 1, -500000, -499999}, link{1, 2, -500000, -500000}), 2, span(-inf, -999999)}, {chain(3, 999999, 999999), 1, span(999999, 999999)},
		// A way beyond Inf, and back.
		{simple(4, link{0, 1, 999999, 999999}, link{1, 2, 999999, 999999}, link{2, 3, -999999, -999999}), 3, span(999999, 999999)}, {simple(4, link{0, 1, -999999, -999999}, link{1, 2, -2, -1}, link{2, 3, 5, 5}), 3, span(-999996, -999995)},
	} {
		if got, ok := impl.WindowOf(c.s, c.event); !ok || got != c.want {
			t.Errorf("WindowOf(%v, %d) = %v, %v, want %v", c.s, c.event, got, ok, c.want)
		}
	}
}

// eventsToTry are events of networks of any size, and what is no event.
var eventsToTry = []int{math.MinInt, -1 << 32, -9, -2, -1, 0, 1, 2, 3, 4, 5, 6, 7, 8, 9, 10, 64, 1 << 32, math.MaxInt}

func TestWindowOfRefuses(t *testing.T) {
	for _, s := range slices.Concat(contradictions, invalidSimples) {
		for _, event := range eventsToTry {
			if got, ok := impl.WindowOf(s, event); ok || got != (impl.Interval{}) {
				t.Errorf("WindowOf(%v, %d) = %v, %v", s, event, got, ok)
			}
		}
	}
	for _, s := range consistentSimples {
		for _, event := range eventsToTry {
			got, ok := impl.WindowOf(s, event)
			if want, is := windowIn(s, event); ok != is || got != want || !isEvent(s, event) && ok {
				t.Errorf("WindowOf(%v, %d) = %v, %v, want %v, %v", s, event, got, ok, want, is)
			}
		}
	}
	// The only possible times are Inf or beyond, or -Inf or beyond: there is no interval of them.
	for _, s := range []impl.Simple{chain(3, 500000, 500000), chain(3, 500000, 600000), chain(3, 999999, 999999), chain(3, 999999, inf), chain(3, -500000, -500000), chain(3, -600000, -500000), chain(3, -999999, -999999), chain(3, -inf, -999999)} {
		got, ok := impl.WindowOf(s, 2)
		near, fine := impl.WindowOf(s, 1)
		if ok || got != (impl.Interval{}) || !fine || near != s.Links[0].Span || !impl.IsConsistent(s) {
			t.Errorf("WindowOf(%v, 2) = %v, %v", s, got, ok)
		}
	}
}

func TestEarliestAndLatestTimes(t *testing.T) {
	for _, c := range []struct {
		s                impl.Simple
		earliest, latest []int
	}{
		{simple(1), []int{0}, []int{0}}, {simple(1, link{0, 0, -inf, inf}), []int{0}, []int{0}}, {simple(1, link{0, 0, -2, 3}), []int{0}, []int{0}}, {simple(2, link{0, 1, 2, 4}), []int{0, 2}, []int{0, 4}}, {simple(2, link{1, 0, 2, 4}), []int{0, -4}, []int{0, -2}},
		{simple(3, link{0, 1, 2, 4}, link{1, 2, 1, 3}, link{0, 2, -inf, 6}), []int{0, 2, 3}, []int{0, 4, 6}}, {chain(8, 1, 2), []int{0, 1, 2, 3, 4, 5, 6, 7}, []int{0, 2, 4, 6, 8, 10, 12, 14}}, {withLinks(chain(4, 1, 5), linkOf(link{0, 3, 4, 4})), []int{0, 1, 2, 4}, []int{0, 2, 3, 4}},
		// One bound is infinite, among finite ones.
		{simple(2, link{0, 1, 2, inf}), []int{0, 2}, nil}, {simple(2, link{0, 1, -inf, 4}), nil, []int{0, 4}}, {simple(2), nil, nil}, {simple(3, link{0, 1, 2, 4}), nil, nil}, {simple(3, link{0, 2, 2, 4}), nil, nil}, {simple(8), nil, nil},
		{simple(3, link{0, 1, 2, 4}, link{0, 2, 3, inf}), []int{0, 2, 3}, nil}, {simple(3, link{0, 1, 2, 4}, link{0, 2, -inf, 3}), nil, []int{0, 4, 3}}, {simple(3, link{0, 1, 3, inf}, link{0, 2, 2, 4}), []int{0, 3, 2}, nil}, {simple(3, link{0, 1, -inf, 3}, link{0, 2, 2, 4}), nil, []int{0, 3, 4}},
		{simple(3, link{0, 1, 2, inf}, link{0, 2, -inf, 4}), nil, nil}, {chain(8, 0, inf), []int{0, 0, 0, 0, 0, 0, 0, 0}, nil}, {chain(8, -inf, 0), nil, []int{0, 0, 0, 0, 0, 0, 0, 0}},
		// Bounds that reach Inf, or go beyond it.
		{simple(2, link{0, 1, -999999, 999999}), []int{0, -999999}, []int{0, 999999}}, {chain(3, 0, 499999), []int{0, 0, 0}, []int{0, 499999, 999998}}, {chain(3, 0, 500000), []int{0, 0, 0}, nil}, {chain(3, 0, 999999), []int{0, 0, 0}, nil}, {chain(3, -500000, 0), nil, []int{0, 0, 0}}, {chain(3, -999999, 0), nil, []int{0, 0, 0}},
		{chain(3, 500000, 500000), nil, nil}, {chain(3, -500000, -500000), nil, nil}, {chain(3, 999999, 999999), nil, nil}, {chain(3, -999999, -999999), nil, nil}, {chain(3, 999999, inf), nil, nil}, {chain(3, -inf, -999999), nil, nil},
		{simple(3, link{0, 1, 499999, 500000}, link{1, 2, 500000, 500000}), []int{0, 499999, 999999}, nil}, {simple(4, link{0, 1, 999999, 999999}, link{1, 2, 999999, 999999}, link{2, 3, -999999, -999999}), nil, nil},
	} {
		for _, side := range []struct {
			name  string
			times func(s impl.Simple) ([]int, bool)
			want  []int
		}{{"EarliestTimes", impl.EarliestTimes, c.earliest}, {"LatestTimes", impl.LatestTimes, c.latest}} {
			if got, ok := side.times(c.s); ok != (side.want != nil) || !slices.Equal(got, side.want) || ok && !impl.IsSchedule(c.s, got) {
				t.Errorf("%s(%v) = %v, %v, want %v", side.name, c.s, got, ok, side.want)
			}
		}
	}
	for _, s := range slices.Concat(contradictions, invalidSimples) {
		a, one := impl.EarliestTimes(s)
		b, two := impl.LatestTimes(s)
		if one || two || len(a)+len(b) != 0 {
			t.Errorf("EarliestTimes(%v) = %v, %v, LatestTimes = %v, %v", s, a, one, b, two)
		}
	}
}

// checkTimes holds the windows and the times of their ends against the document, and the times against the links.
func checkTimes(t *testing.T, s impl.Simple) (bool, bool) {
	for event := -1; event <= s.Events; event++ {
		got, ok := impl.WindowOf(s, event)
		if want, is := windowIn(s, event); ok != is || got != want {
			t.Fatalf("WindowOf(%v, %d) = %v, %v, want %v, %v", s, event, got, ok, want, is)
		}
	}
	earliest, one := impl.EarliestTimes(s)
	latest, two := impl.LatestTimes(s)
	first, is := timesIn(s, lowOf)
	last, are := timesIn(s, highOf)
	if one != is || two != are || !slices.Equal(earliest, first) || !slices.Equal(latest, last) {
		t.Fatalf("EarliestTimes(%v) = %v, want %v, LatestTimes = %v, want %v", s, earliest, first, latest, last)
	}
	if one && (!impl.IsSchedule(s, earliest) || !isTimetable(s, earliest)) || two && (!impl.IsSchedule(s, latest) || !isTimetable(s, latest)) {
		t.Fatalf("%v or %v is no schedule of %v", earliest, latest, s)
	}
	return one, two
}

func TestTimesOfVariousSimples(t *testing.T) {
	var both, one, none int
	variousSimples(func(s impl.Simple) {
		switch early, late := checkTimes(t, s); {
		case early && late:
			both++
		case early || late:
			one++
		case impl.IsConsistent(s):
			none++
		}
	})
	if both < 200 || one < 200 || none < 200 {
		t.Errorf("%d networks with both lists of times, %d with one and %d without are too few", both, one, none)
	}
}

// A time is in the window exactly if the network stays consistent when the event is bound to it.
func TestWindowsAreExact(t *testing.T) {
	inside, outside := 0, 0
	variousSimples(func(s impl.Simple) {
		if len(s.Links) == 40 || !impl.IsConsistent(s) {
			return
		}
		for event := range s.Events {
			w, ok := impl.WindowOf(s, event)
			for _, n := range []int{w.Low - 1, w.Low, w.Low + 1, w.High - 1, w.High, w.High + 1, 0, 5, -999999, 999999} {
				if !ok || n <= -inf || n >= inf {
					continue
				}
				bound, fine := impl.WithLink(s, linkOf(link{0, event, n, n}))
				if is := impl.Contains(w, n); !fine || impl.IsConsistent(bound) != is {
					t.Fatalf("WindowOf(%v, %d) = %v, but it is %v that the event may have the time %d", s, event, w, !is, n)
				} else if is {
					inside++
				} else {
					outside++
				}
			}
		}
	})
	if inside < 10000 || outside < 10000 {
		t.Errorf("%d times inside of windows and %d outside are too few", inside, outside)
	}
}

// everyTimetable calls visit with all lists of times of this many events, from -most to most, in which event 0 has the time 0.
func everyTimetable(events, most int, visit func(times []int)) {
	times := make([]int, events)
	var from func(n int)
	from = func(n int) {
		if n == events {
			visit(times)
			return
		}
		for times[n] = -most; times[n] <= most; times[n]++ {
			from(n + 1)
		}
	}
	from(1)
}

// What can be said of a network whose finite bounds are from -3 to 3, and which has at most three events, is found by
// trying all its schedules: finite bounds of windows are from -6 to 6, and an event at 7 or -7 has the others at most 6 from it.
func checkAgainstSchedules(t *testing.T, s impl.Simple) bool {
	const most = 13
	var possible [3][2*most + 1]bool
	some := false
	everyTimetable(s.Events, most, func(times []int) {
		if !isTimetable(s, times) {
			return
		}
		some = true
		for n, at := range times {
			possible[n][at+most] = true
		}
	})
	if impl.IsConsistent(s) != some || (len(impl.ConflictOf(s)) == 0) != some {
		t.Fatalf("IsConsistent(%v) = %v, ConflictOf = %v, but it is %v that there is a schedule", s, impl.IsConsistent(s), impl.ConflictOf(s), some)
	}
	for n := range s.Events {
		w, ok := impl.WindowOf(s, n)
		if ok != some {
			t.Fatalf("WindowOf(%v, %d) = %v, %v", s, n, w, ok)
		}
		for at := -7; at <= 7; at++ {
			if is := possible[n][at+most]; is != (ok && impl.Contains(w, at)) {
				t.Fatalf("WindowOf(%v, %d) = %v, but it is %v that the event may have the time %d", s, n, w, is, at)
			}
		}
	}
	checkTimes(t, s)
	return some
}

func TestSmallSimplesAgainstTheirSchedules(t *testing.T) {
	some, none := 0, 0
	everySmallSimple(func(s impl.Simple) {
		if checkAgainstSchedules(t, s) {
			some++
		} else {
			none++
		}
	})
	if some < 10000 || none < 10000 {
		t.Errorf("%d small networks with schedules and %d without are too few", some, none)
	}
}

func TestIsScheduleAndBrokenLink(t *testing.T) {
	three := simple(3, link{0, 1, 2, 4}, link{1, 2, 1, 3}, link{0, 2, -inf, 6})
	loops := simple(2, link{1, 1, 0, 5}, link{0, 0, 1, 2}, link{1, 1, -4, -1})
	for _, c := range []struct {
		s      impl.Simple
		times  []int
		is     bool
		broken int
	}{
		{simple(1), []int{0}, true, -1}, {simple(3), []int{0, -7, 7}, true, -1}, {three, []int{0, 2, 5}, true, -1}, {three, []int{0, 2, 3}, true, -1}, {three, []int{0, 4, 6}, true, -1}, {three, []int{0, 2, 6}, false, 1}, {three, []int{0, 4, 4}, false, 1}, {three, []int{0, 1, 2}, false, 0}, {three, []int{0, 5, 6}, false, 0}, {three, []int{0, 4, 7}, false, 2},
		// The first one of several broken links.
		{three, []int{0, 5, 9}, false, 0}, {three, []int{0, 4, 8}, false, 1}, {three, []int{0, 1, 7}, false, 0}, {three, []int{0, 5, 8}, false, 0}, {three, []int{0, 0, 0}, false, 0}, {loops, []int{0, 0}, false, 1}, {simple(2, link{0, 1, 5, 5}, link{0, 1, 5, 5}), []int{0, 4}, false, 0}, {simple(2, link{0, 1, 4, 4}, link{0, 1, 5, 5}), []int{0, 4}, false, 1},
		{withLinks(simple(2), slices.Repeat([]impl.Link{linkOf(link{0, 1, 0, 3})}, 39)...), []int{0, 4}, false, 0}, {bundle(40), []int{0, 39}, false, 0}, {bundle(40), []int{0, 0}, true, -1}, {withLinks(bundle(39), linkOf(link{1, 0, 1, 1})), []int{0, 0}, false, 39},
		// The direction of a link, and a link from an event to itself.
		{simple(2, link{1, 0, 2, 4}), []int{0, -3}, true, -1}, {simple(2, link{1, 0, 2, 4}), []int{0, 3}, false, 0}, {simple(2, link{1, 1, 0, 0}), []int{0, 9}, true, -1}, {simple(2, link{1, 1, 1, 9}), []int{0, 9}, false, 0}, {simple(3, link{2, 1, -3, -1}), []int{0, 4, 6}, true, -1}, {simple(3, link{2, 1, -3, -1}), []int{0, 6, 4}, false, 0},
		// The time of event 0 is not 0: that breaks no link.
		{simple(1), []int{1}, false, -1}, {simple(1), []int{-1}, false, -1}, {simple(1), []int{1000000}, false, -1}, {simple(1), []int{-1000000}, false, -1}, {three, []int{1, 3, 6}, false, -1}, {three, []int{-1, 1, 4}, false, -1}, {three, []int{1, 3, 7}, false, 1}, {three, []int{100, 102, 103}, false, -1}, {three, []int{1, 2, 3}, false, 0}, {simple(2, link{0, 1, 3, 3}), []int{1, 3}, false, 0},
		// Too few times, and too many.
		{simple(1), nil, false, -1}, {simple(1), []int{}, false, -1}, {simple(1), []int{0, 0}, false, -1}, {three, nil, false, -1}, {three, []int{}, false, -1}, {three, []int{0}, false, -1}, {three, []int{0, 2}, false, -1}, {three, []int{0, 9}, false, -1}, {three, []int{0, 2, 5, 0}, false, -1}, {three, []int{0, 9, 9, 9}, false, -1}, {three, make([]int, 100), false, -1}, {simple(8), make([]int, 9), false, -1}, {simple(8), make([]int, 8), true, -1},
		// Times at -Inf and Inf, and beyond.
		{simple(2), []int{0, 1000000}, true, -1}, {simple(2), []int{0, -1000000}, true, -1}, {simple(2), []int{0, 1000001}, false, -1}, {simple(2), []int{0, -1000001}, false, -1}, {simple(2), []int{0, math.MaxInt}, false, -1}, {simple(2), []int{0, math.MinInt}, false, -1}, {simple(2), []int{math.MaxInt, 0}, false, -1}, {simple(2), []int{math.MinInt, 0}, false, -1}, {simple(2), []int{math.MinInt, math.MaxInt}, false, -1},
		{three, []int{0, 9, 1000001}, false, -1}, {three, []int{0, 9, 1000000}, false, 0}, {three, []int{0, 9, -1000001}, false, -1}, {three, []int{0, 9, -1000000}, false, 0}, {three, []int{1000001, 9, 9}, false, -1}, {three, []int{-1000001, 9, 9}, false, -1}, {three, []int{0, math.MaxInt, 9}, false, -1}, {three, []int{0, math.MinInt, 9}, false, -1}, {three, []int{0, 9, math.MaxInt}, false, -1}, {three, []int{0, 9, math.MinInt}, false, -1},
		{simple(2, link{0, 1, 2, inf}), []int{0, 1000000}, true, -1}, {simple(2, link{0, 1, -inf, 2}), []int{0, -1000000}, true, -1}, {simple(2, link{0, 1, 2, 999999}), []int{0, 1000000}, false, 0}, {simple(2, link{0, 1, -999999, 2}), []int{0, -1000000}, false, 0}, {simple(2, link{0, 1, 2, inf}), []int{0, 1}, false, 0}, {simple(2, link{0, 1, -inf, 2}), []int{0, 3}, false, 0}, {simple(2, link{0, 1, 2, inf}), []int{0, 1000001}, false, -1},
		// Times that are farther apart than Inf.
		{simple(3, link{1, 2, 5, inf}), []int{0, -1000000, 1000000}, true, -1}, {simple(3, link{1, 2, -inf, 5}), []int{0, 1000000, -1000000}, true, -1}, {simple(3, link{1, 2, -inf, inf}), []int{0, 1000000, -1000000}, true, -1}, {simple(3, link{1, 2, 5, inf}), []int{0, 1000000, -1000000}, false, 0}, {simple(3, link{1, 2, 5, 999999}), []int{0, -1000000, 1000000}, false, 0}, {simple(3, link{1, 2, -999999, 5}), []int{0, 1000000, -1000000}, false, 0}, {simple(2, link{0, 1, 5, inf}), []int{-1000000, 1000000}, false, -1},
		// Inconsistent networks have no schedule.
		{simple(1, link{0, 0, 1, 1}), []int{0}, false, 0}, {simple(2, link{0, 1, 2, 4}, link{0, 1, 5, 7}), []int{0, 4}, false, 1}, {simple(2, link{0, 1, 2, 4}, link{0, 1, 5, 7}), []int{0, 5}, false, 0},
	} {
		if got := impl.IsSchedule(c.s, c.times); got != c.is {
			t.Errorf("IsSchedule(%v, %v) = %v", c.s, c.times, got)
		}
		if got := impl.BrokenLink(c.s, c.times); got != c.broken {
			t.Errorf("BrokenLink(%v, %v) = %d, want %d", c.s, c.times, got, c.broken)
		}
	}
}

func TestSchedulesOfInvalidSimples(t *testing.T) {
	for _, s := range invalidSimples {
		for length := range 11 {
			for _, n := range []int{0, 1, 3, -3, 1000000} {
				times := slices.Repeat([]int{n}, length)
				if length > 0 {
					times[0] = 0
				}
				if impl.IsSchedule(s, times) || impl.BrokenLink(s, times) != -1 {
					t.Errorf("IsSchedule(%v, %v) = %v, BrokenLink = %d", s, times, impl.IsSchedule(s, times), impl.BrokenLink(s, times))
				}
			}
		}
	}
}

func checkSchedule(t *testing.T, s impl.Simple, times []int) {
	if got := impl.IsSchedule(s, times); got != isTimetable(s, times) {
		t.Fatalf("IsSchedule(%v, %v) = %v", s, times, got)
	}
	if got, want := impl.BrokenLink(s, times), brokenIn(s, times); got != want {
		t.Fatalf("BrokenLink(%v, %v) = %d, want %d", s, times, got, want)
	}
}

// everyList calls visit with each list of this many of these times.
func everyList(length int, from []int, visit func(times []int)) {
	times := make([]int, length)
	for n := range int(math.Pow(float64(len(from)), float64(length))) {
		for k := range times {
			times[k] = from[n%len(from)]
			n /= len(from)
		}
		visit(times)
	}
}

func TestSchedulesOfManySimples(t *testing.T) {
	everySmallSimple(func(s impl.Simple) {
		for length := range s.Events + 2 {
			everyList(length, []int{-2, 0, 3}, func(times []int) { checkSchedule(t, s, times) })
		}
	})
	for _, s := range simples() {
		for length := range 4 {
			everyList(length, bounds, func(times []int) { checkSchedule(t, s, times) })
		}
	}
	r := rand.New(rand.NewSource(7))
	kept, broken := 0, 0
	variousSimples(func(s impl.Simple) {
		times, ok := impl.EarliestTimes(s)
		if !ok {
			return
		}
		for range 20 {
			near := slices.Clone(times)
			near[r.Intn(len(near))] += r.Intn(7) - 2
			checkSchedule(t, s, near)
			switch {
			case isTimetable(s, near):
				kept++
			case impl.BrokenLink(s, near) > 0:
				broken++
			}
		}
	})
	if kept < 1000 || broken < 1000 {
		t.Errorf("%d schedules and %d others are too few", kept, broken)
	}
}

func checkWithLink(t *testing.T, s impl.Simple, l impl.Link) bool {
	want := withLinks(s, l)
	is := isSimple(s) && isSimple(want)
	if !is {
		want = impl.Simple{}
	}
	got, ok := impl.WithLink(s, l)
	if ok != is || !sameSimples(got, want) || ok && !impl.SimpleOk(got) {
		t.Fatalf("WithLink(%v, %v) = %v, %v, want %v, %v", s, l, got, ok, want, is)
	}
	return ok
}

func TestWithLink(t *testing.T) {
	for _, c := range []struct {
		s    impl.Simple
		l    link
		want impl.Simple
	}{
		{simple(1), link{0, 0, 0, 0}, simple(1, link{0, 0, 0, 0})}, {impl.Simple{Events: 2, Links: []impl.Link{}}, link{0, 1, 2, 4}, simple(2, link{0, 1, 2, 4})}, {simple(2, link{0, 1, 2, 4}), link{1, 0, 3, 5}, simple(2, link{0, 1, 2, 4}, link{1, 0, 3, 5})}, {simple(2, link{0, 1, 2, 4}), link{0, 1, 2, 4}, simple(2, link{0, 1, 2, 4}, link{0, 1, 2, 4})},
		{simple(2), link{1, 1, -inf, inf}, simple(2, link{1, 1, -inf, inf})}, {simple(8), link{7, 0, -999999, 999999}, simple(8, link{7, 0, -999999, 999999})}, {simple(8), link{0, 7, 999999, inf}, simple(8, link{0, 7, 999999, inf})}, {bundle(39), link{0, 1, -39, 39}, bundle(40)},
		// A network without schedules is valid as well.
		{simple(1), link{0, 0, 1, 1}, simple(1, link{0, 0, 1, 1})}, {simple(2, link{0, 1, 2, 4}), link{0, 1, 5, 7}, simple(2, link{0, 1, 2, 4}, link{0, 1, 5, 7})}, {simple(1, link{0, 0, 1, 1}), link{0, 0, 0, 0}, simple(1, link{0, 0, 1, 1}, link{0, 0, 0, 0})},
	} {
		if got, ok := impl.WithLink(c.s, linkOf(c.l)); !ok || !sameSimples(got, c.want) {
			t.Errorf("WithLink(%v, %v) = %v, %v, want %v", c.s, c.l, got, ok, c.want)
		}
	}
}

func TestWithLinkRefuses(t *testing.T) {
	one, full := simple(2, link{0, 1, 2, 4}), bundle(40)
	for _, l := range []link{
		{-1, 0, 0, 0}, {0, -1, 0, 0}, {2, 0, 0, 0}, {0, 2, 0, 0}, {8, 8, 0, 0}, {math.MinInt, 0, 0, 0}, {0, math.MinInt, 0, 0}, {math.MaxInt, 0, 0, 0}, {0, math.MaxInt, 0, 0}, {0, 1, 4, 2}, {0, 1, 1, 0},
		{0, 1, inf, inf}, {0, 1, -inf, -inf}, {0, 1, inf, -inf}, {0, 1, 0, 1000001}, {0, 1, -1000001, 0}, {0, 1, math.MinInt, math.MaxInt}, {0, 1, math.MaxInt, math.MinInt},
	} {
		for _, s := range []impl.Simple{one, full, simple(2), simple(2, link{0, 0, 1, 1})} {
			if got, ok := impl.WithLink(s, linkOf(l)); ok || got.Events != 0 || len(got.Links) != 0 {
				t.Errorf("WithLink(%v, %v) = %v, %v", s, l, got, ok)
			}
		}
	}
	for _, s := range append(slices.Clone(invalidSimples), full) {
		for _, l := range []link{{0, 0, 0, 0}, {0, 1, 2, 4}, {0, 0, -inf, inf}, {-1, -1, 0, 0}, {8, 8, 0, 0}} {
			if got, ok := impl.WithLink(s, linkOf(l)); ok || got.Events != 0 || len(got.Links) != 0 {
				t.Errorf("WithLink(%v, %v) = %v, %v", s, l, got, ok)
			}
		}
	}
}

func TestWithLinkOfManySimples(t *testing.T) {
	for _, s := range simples() {
		for _, w := range append(spans(), span(2, 4)) {
			checkWithLink(t, s, impl.Link{From: 0, To: 0, Span: w})
		}
		for _, from := range eventsToTry {
			for _, to := range eventsToTry {
				checkWithLink(t, s, impl.Link{From: from, To: to, Span: span(-1, 3)})
			}
		}
	}
	full := 0
	variousSimples(func(s impl.Simple) {
		built, ok := impl.Simple{Events: s.Events}, true
		for _, l := range s.Links {
			ok = ok && checkWithLink(t, built, l)
			built, _ = impl.WithLink(built, l)
		}
		if !ok || !sameSimples(built, s) {
			t.Fatalf("the links of %v lead to %v", s, built)
		}
		if !checkWithLink(t, s, linkOf(link{0, 0, 0, 0})) {
			full++
		}
	})
	if full == 0 {
		t.Error("no network has all links")
	}
}

func TestSimpleArgumentsAreKept(t *testing.T) {
	for _, s := range simples() {
		// Behind both lists there is spare capacity, which must be kept as well.
		spare := append(slices.Clone(s.Links), slices.Repeat([]impl.Link{{From: 7, To: 7, Span: span(-77, -70)}}, 20)...)
		numbers := []int{0, 2, 5, -3, 1000001, 0, 3, 9, -55, -66, -77}
		links, list := slices.Clone(spare), slices.Clone(numbers)
		s.Links = spare[:len(s.Links)]
		impl.SimpleOk(s)
		impl.GraphOf(s)
		impl.IsConsistent(s)
		impl.ConflictOf(s)
		impl.EarliestTimes(s)
		impl.LatestTimes(s)
		for n := -1; n <= 9; n++ {
			impl.WindowOf(s, n)
			impl.IsSchedule(s, numbers[:max(n, 0)])
			impl.BrokenLink(s, numbers[:max(n, 0)])
			impl.WithLink(s, linkOf(link{0, n, -1, 1}))
		}
		if !slices.Equal(spare, links) || !slices.Equal(numbers, list) {
			t.Errorf("an argument has changed: %v, %v", spare, numbers)
		}
	}
}

// checkNewList checks that a call returns a new list each time. The first one is overwritten, with its spare capacity.
func checkNewList[T comparable](t *testing.T, name string, wrong T, call func() []T) {
	first := call()
	kept := slices.Clone(first)
	second := call()
	for i := range first[:cap(first)] {
		first[:cap(first)][i] = wrong
	}
	if third := call(); len(kept) == 0 || !slices.Equal(second, kept) || !slices.Equal(third, kept) {
		t.Errorf("a list of %s is shared: %v, %v, want %v", name, second, third, kept)
	}
}

func TestSimpleResultsAreNew(t *testing.T) {
	wrong := impl.Link{From: 7, To: 7, Span: span(-77, -70)}
	for _, s := range []impl.Simple{simple(2, link{0, 1, 2, 4}), chain(8, 1, 2), bundle(30)} {
		// There is room to grow behind the links.
		spare := append(slices.Clone(s.Links), slices.Repeat([]impl.Link{wrong}, 20)...)
		before := slices.Clone(spare)
		s.Links = spare[:len(s.Links)]
		checkNewList(t, "GraphOf", impl.Edge{From: 7, To: 7, Weight: -77}, func() []impl.Edge { return impl.GraphOf(s).Edges })
		checkNewList(t, "EarliestTimes", -5, func() []int { list, _ := impl.EarliestTimes(s); return list })
		checkNewList(t, "LatestTimes", -5, func() []int { list, _ := impl.LatestTimes(s); return list })
		checkNewList(t, "WithLink", wrong, func() []impl.Link { more, _ := impl.WithLink(s, linkOf(link{0, 1, 1, 9})); return more.Links })
		if !slices.Equal(spare, before) {
			t.Errorf("a network has changed: %v", spare)
		}
	}
	for _, s := range contradictions {
		links := slices.Clone(s.Links)
		checkNewList(t, "ConflictOf", -5, func() []int { return impl.ConflictOf(s) })
		if !slices.Equal(s.Links, links) {
			t.Errorf("a network has changed: %v", s)
		}
	}
}

// Two networks with different last links come from the same one, whether it was given or is a result itself.
func TestWithLinkBranches(t *testing.T) {
	for length := range 20 {
		spare := make([]impl.Link, 60)
		s := impl.Simple{Events: 2, Links: spare[:length]}
		for range 3 {
			a, _ := impl.WithLink(s, linkOf(link{0, 1, 1, 1}))
			b, _ := impl.WithLink(s, linkOf(link{0, 1, 2, 2}))
			if n := len(s.Links); len(a.Links) != n+1 || len(b.Links) != n+1 || a.Links[n] != linkOf(link{0, 1, 1, 1}) || b.Links[n] != linkOf(link{0, 1, 2, 2}) {
				t.Fatalf("two networks with one more link than %v share it: %v, %v", s, a, b)
			}
			a.Links[0] = linkOf(link{1, 1, 5, 5})
			if b.Links[0] == a.Links[0] || len(s.Links) > 0 && s.Links[0] == a.Links[0] {
				t.Fatalf("two networks share their first link: %v, %v, %v", s, a, b)
			}
			s = b
		}
		if !slices.Equal(spare, make([]impl.Link, 60)) {
			t.Fatalf("the links of an argument have changed: %v", spare)
		}
	}
}

func TestNilAndEmptyLinksAreEquivalent(t *testing.T) {
	for events := -2; events <= 10; events++ {
		for _, s := range []impl.Simple{{Events: events}, {Events: events, Links: []impl.Link{}}} {
			valid := events >= 1 && events <= 8
			if impl.SimpleOk(s) != valid || impl.IsConsistent(s) != valid || len(impl.ConflictOf(s)) != 0 || impl.IsSchedule(s, nil) || impl.IsSchedule(s, []int{}) || impl.BrokenLink(s, nil) != -1 || impl.BrokenLink(s, []int{}) != -1 {
				t.Errorf("a network of %d events without links is wrong", events)
			}
			g := impl.GraphOf(s)
			more, ok := impl.WithLink(s, linkOf(link{0, 0, 0, 0}))
			w, is := impl.WindowOf(s, 0)
			if valid && g.Nodes != events || !valid && g.Nodes != 0 || len(g.Edges) != 0 || ok != valid || ok && (more.Events != events || len(more.Links) != 1) || is != valid || w != (impl.Interval{}) {
				t.Errorf("a network of %d events without links is wrong: %v, %v, %v", events, g, more, w)
			}
		}
	}
}
