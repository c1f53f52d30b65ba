package tests

import (
	"fmt"
	"math"
	"math/rand"
	"regexp"
	"slices"
	"strings"
	"testing"

	"loop.example/g00827/impl"
)

func node(name string, watch int, label ...int) impl.Node {
	return impl.Node{Name: name, Label: label, Watch: watch}
}

func tie(from, to, low, high int) impl.Tie {
	return impl.Tie{From: from, To: to, Low: low, High: high}
}

func free(from, to, low, high int) impl.Tie {
	return impl.Tie{From: from, To: to, Low: low, High: high, Free: true}
}

func show(horizon int, nodes []impl.Node, ties ...impl.Tie) impl.Show {
	return impl.Show{Nodes: nodes, Ties: ties, Horizon: horizon}
}

// cloneShow returns a show that is equal to s and shares no memory with it.
func cloneShow(s impl.Show) impl.Show {
	c := impl.Show{Nodes: slices.Clone(s.Nodes), Ties: slices.Clone(s.Ties), Horizon: s.Horizon}
	for i := range c.Nodes {
		c.Nodes[i].Label = slices.Clone(c.Nodes[i].Label)
	}
	return c
}

// textOf writes down all of a show, so that shows are equal exactly if their texts are.
func textOf(s impl.Show) string {
	var b strings.Builder
	for _, n := range s.Nodes {
		fmt.Fprintf(&b, "node %q %d %d\n", n.Name, n.Label, n.Watch)
	}
	for _, t := range s.Ties {
		fmt.Fprintf(&b, "tie %d %d %d %d %v\n", t.From, t.To, t.Low, t.High, t.Free)
	}
	fmt.Fprintf(&b, "%d", s.Horizon)
	return b.String()
}

var nameOfNode = regexp.MustCompile(`\A[a-z][a-z0-9]{0,7}\z`)

// isNode is what the document says of NodeOk.
func isValidNode(n impl.Node) bool {
	return nameOfNode.MatchString(n.Name) && isLabel(n.Label) && n.Watch >= 0 && n.Watch <= 3
}

func isNodeOf(s impl.Show, n int) bool { return 0 <= n && n < len(s.Nodes) }

// differ reports whether no key but the empty one is given twice.
func differ(count int, key func(i int) string) bool {
	seen := map[string]bool{}
	for i := range count {
		k := key(i)
		if k != "" && seen[k] {
			return false
		}
		seen[k] = true
	}
	return true
}

// everyTie reports whether all ties are so; everyFree whether all Free ties between two nodes are.
func everyTie(s impl.Show, is func(x impl.Tie) bool) bool {
	return !slices.ContainsFunc(s.Ties, func(x impl.Tie) bool { return !is(x) })
}

func everyFree(s impl.Show, is func(x impl.Tie, from, to impl.Node) bool) bool {
	return everyTie(s, func(x impl.Tie) bool {
		return !x.Free || !isNodeOf(s, x.From) || !isNodeOf(s, x.To) || is(x, s.Nodes[x.From], s.Nodes[x.To])
	})
}

func isWithin(n, low, high int) bool { return low <= n && n <= high }

// knows reports whether a node with the label can know the literal x from the node w.
func knows(label []int, x int, w impl.Node) bool {
	if w.Watch == 0 || w.Watch != x && w.Watch != -x || slices.Contains(w.Label, x) || slices.Contains(w.Label, -x) {
		return false
	}
	for _, y := range w.Label {
		if !slices.Contains(label, y) {
			return false
		}
	}
	return true
}

// showRules are the document's words about valid shows, with its numbers written out.
var showRules = []struct {
	name  string
	holds func(s impl.Show) bool
}{
	{"1 to 7 nodes", func(s impl.Show) bool { return isWithin(len(s.Nodes), 1, 7) }},
	{"valid nodes", func(s impl.Show) bool {
		return !slices.ContainsFunc(s.Nodes, func(n impl.Node) bool { return !isValidNode(n) })
	}},
	{"different names", func(s impl.Show) bool {
		return differ(len(s.Nodes), func(i int) string { return "name " + s.Nodes[i].Name })
	}},
	{"no label of node 0", func(s impl.Show) bool { return len(s.Nodes) == 0 || len(s.Nodes[0].Label) == 0 }},
	{"no watch of node 0", func(s impl.Show) bool { return len(s.Nodes) == 0 || s.Nodes[0].Watch == 0 }},
	{"different watches", func(s impl.Show) bool {
		return differ(len(s.Nodes), func(i int) string {
			return strings.TrimPrefix(fmt.Sprint(s.Nodes[i].Watch), "0")
		})
	}},
	{"at most 14 ties", func(s impl.Show) bool { return len(s.Ties) <= 14 }},
	{"ends are nodes", func(s impl.Show) bool {
		return everyTie(s, func(x impl.Tie) bool { return isNodeOf(s, x.From) && isNodeOf(s, x.To) })
	}},
	{"different ends", func(s impl.Show) bool { return everyTie(s, func(x impl.Tie) bool { return x.From != x.To }) }},
	{"bounds from -20 to 20", func(s impl.Show) bool {
		return everyTie(s, func(x impl.Tie) bool { return isWithin(x.Low, -20, 20) && isWithin(x.High, -20, 20) })
	}},
	{"low is not above high", func(s impl.Show) bool { return everyTie(s, func(x impl.Tie) bool { return x.Low <= x.High }) }},
	{"free ties take time", func(s impl.Show) bool { return everyTie(s, func(x impl.Tie) bool { return !x.Free || x.Low >= 1 }) }},
	{"node 0 is not free", func(s impl.Show) bool { return everyTie(s, func(x impl.Tie) bool { return !x.Free || x.To != 0 }) }},
	{"free nodes do not watch", func(s impl.Show) bool {
		return everyFree(s, func(x impl.Tie, from, to impl.Node) bool { return to.Watch == 0 })
	}},
	{"free nodes have the label of from", func(s impl.Show) bool {
		return everyFree(s, func(x impl.Tie, from, to impl.Node) bool { return slices.Equal(from.Label, to.Label) })
	}},
	{"no node is free twice", func(s impl.Show) bool {
		return differ(len(s.Ties), func(i int) string {
			if !s.Ties[i].Free {
				return ""
			}
			return fmt.Sprint(s.Ties[i].To)
		})
	}},
	{"literals are watched", func(s impl.Show) bool {
		for _, n := range s.Nodes {
			for _, x := range n.Label {
				if !slices.ContainsFunc(s.Nodes, func(w impl.Node) bool { return knows(n.Label, x, w) }) {
					return false
				}
			}
		}
		return true
	}},
	{"horizon from 1 to 10", func(s impl.Show) bool { return isWithin(s.Horizon, 1, 10) }},
}

func brokenRules(s impl.Show) []string {
	var broken []string
	for _, rule := range showRules {
		if !rule.holds(s) {
			broken = append(broken, rule.name)
		}
	}
	return broken
}

func isShow(s impl.Show) bool { return len(brokenRules(s)) == 0 }

// freeTieIn, watcherIn, namedIn and chosenIn are what the document says of FreeTie, WatcherOf, NodeNamed and ChosenNodes.
func freeTieIn(s impl.Show, node int) int {
	if !isShow(s) {
		return -1
	}
	return slices.IndexFunc(s.Ties, func(x impl.Tie) bool { return x.Free && x.To == node })
}

func watcherIn(s impl.Show, p int) int {
	if !isShow(s) || p < 1 || p > 3 {
		return -1
	}
	return slices.IndexFunc(s.Nodes, func(n impl.Node) bool { return n.Watch == p })
}

func namedIn(s impl.Show, name string) int {
	return slices.IndexFunc(s.Nodes, func(n impl.Node) bool { return n.Name == name })
}

func chosenIn(s impl.Show) []int {
	var chosen []int
	for i := range s.Nodes {
		if isShow(s) && i > 0 && freeTieIn(s, i) == -1 {
			chosen = append(chosen, i)
		}
	}
	return chosen
}

var showNumbers = []int{math.MinInt, math.MinInt + 1, -1 << 32, -21, -20, -19, -11, -10, -7, -4, -3, -2, -1, 0, 1, 2, 3, 4, 5, 6, 7, 8, 9, 10, 11, 12, 13, 14, 15, 19, 20, 21, 256, 257, 1 << 32, 1<<32 + 1, 1<<32 + 3, math.MaxInt - 1, math.MaxInt}

// goodShows are valid shows, with the Free tie of each node, the watcher of each proposition and the chosen nodes.
var goodShows = []struct {
	s        impl.Show
	ends     []int
	watchers []int
	chosen   []int
}{
	// Only the beginning.
	{show(1, []impl.Node{node("go", 0)}), []int{-1}, []int{-1, -1, -1}, nil},
	// A free node between chosen ones.
	{show(8, []impl.Node{node("go", 0), node("a", 0), node("az", 0), node("b", 0)}, tie(0, 1, 0, 2), free(1, 2, 1, 3), tie(2, 3, 1, 2)), []int{-1, -1, 1, -1}, []int{-1, -1, -1}, []int{1, 3}},
	// Two branches.
	{show(5, []impl.Node{node("go", 0), node("a", 1), node("b", 0, 1), node("c", 0, -1)}, tie(0, 1, 0, 1), tie(1, 2, 1, 2), tie(0, 3, 2, 3)), []int{-1, -1, -1, -1}, []int{1, -1, -1}, []int{1, 2, 3}},
	// All nodes are free, two of them from the same one.
	{show(10, []impl.Node{node("go", 0), node("a", 0), node("b", 0), node("c", 0)}, free(0, 2, 1, 20), free(2, 3, 20, 20), free(0, 1, 1, 1)), []int{-1, 2, 0, 1}, []int{-1, -1, -1}, nil},
	// Free ties in a cycle, which the document does not rule out here.
	{show(9, []impl.Node{node("go", 0), node("a", 0), node("b", 0), node("c", 0)}, free(2, 3, 1, 1), free(1, 2, 1, 2), free(3, 1, 1, 3)), []int{-1, 2, 1, 0}, []int{-1, -1, -1}, nil},
	// Free ties beside ordinary ones with the same nodes, in both directions, and ordinary ones to node 0.
	{show(2, []impl.Node{node("a", 0), node("b", 0), node("c", 0)}, tie(1, 2, 0, 0), tie(0, 2, 1, 1), free(1, 2, 2, 2), tie(2, 1, -9, -1), tie(1, 2, 2, 2), tie(2, 0, -20, 20), tie(1, 0, -20, -20), tie(0, 1, 20, 20)), []int{-1, -1, 2}, []int{-1, -1, -1}, []int{1}},
	// Watchers of watchers, and a free node with a long label.
	{show(7, []impl.Node{node("go", 0), node("a", 1), node("b", 2, 1), node("c", 3, 1, -2), node("d", 0, 1, -2, 3), node("dz", 0, 1, -2, 3), node("e", 0, -1)}, free(4, 5, 1, 4), tie(1, 2, 1, 1)), []int{-1, -1, -1, -1, -1, 0, -1}, []int{1, 2, 3}, []int{1, 2, 3, 4, 6}},
	// The same from the last proposition to the first one, and with the watchers last.
	{show(3, []impl.Node{node("go", 0), node("d", 0, 1, 2, -3), node("dz", 0, 1, 2, -3), node("c", 0, -1, 2, -3), node("z", 1, 2, -3), node("y", 2, -3), node("x", 3)}, free(1, 2, 3, 3)), []int{-1, -1, 0, -1, -1, -1, -1}, []int{4, 5, 6}, []int{1, 3, 4, 5, 6}},
	// One watcher without a label, and two whose labels are its two values.
	{show(6, []impl.Node{node("go", 0), node("x", 2), node("y", 1, 2), node("z", 3, -2), node("yes", 0, 1, 2), node("no", 0, -2, -3), node("never", 0, -2)}), []int{-1, -1, -1, -1, -1, -1, -1}, []int{2, 1, 3}, []int{1, 2, 3, 4, 5, 6}},
	// Watchers that nobody waits for, one of them as From of a Free tie.
	{show(4, []impl.Node{node("go", 0), node("a", 3), node("az", 0), node("b", 1)}, free(1, 2, 2, 3)), []int{-1, -1, 0, -1}, []int{3, -1, 1}, []int{1, 3}},
	// As much of all as there may be.
	{show(10, []impl.Node{node("a", 0), node("abcdefgh", 3), node("z9999999", 2), node("q0", 1), node("e", 0, 1, 2, 3), node("f", 0, 1, 2, 3), node("g", 0, -1, -2, -3)},
		tie(0, 1, -20, 20), tie(1, 0, -20, -20), tie(6, 0, 20, 20), tie(0, 6, 0, 0), free(4, 5, 1, 20), tie(4, 5, -20, 20), tie(5, 4, -20, 20), tie(5, 4, -20, 20),
		tie(1, 2, -1, 1), tie(2, 3, -2, 2), tie(3, 4, -3, 3), tie(4, 6, -4, 4), tie(6, 5, -5, 5), tie(3, 1, -6, 6)), []int{-1, -1, -1, -1, -1, 4, -1}, []int{3, 2, 1}, []int{1, 2, 3, 4, 6}},
}

// rich is the valid show that the faults below are made in.
func rich() impl.Show {
	return show(10, []impl.Node{node("go", 0), node("a", 1), node("b", 2, 1), node("c", 0, 1, 2), node("cz", 0, 1, 2), node("d", 0, -1), node("e", 0)},
		tie(0, 1, 0, 2), tie(1, 2, 1, 3), tie(2, 3, 1, 4), free(3, 4, 1, 3), tie(1, 5, 1, 2), free(0, 6, 2, 5), tie(1, 6, -3, 8))
}

// badShows are changes of rich, each with the rules that it breaks, or none.
var badShows = []struct {
	change func(s *impl.Show)
	rules  []string
}{
	{func(s *impl.Show) {}, nil},
	{func(s *impl.Show) { *s = impl.Show{} }, []string{"1 to 7 nodes", "horizon from 1 to 10"}},
	{func(s *impl.Show) { *s = impl.Show{Horizon: 1} }, []string{"1 to 7 nodes"}},
	{func(s *impl.Show) { s.Nodes = append(s.Nodes, node("f", 0)) }, []string{"1 to 7 nodes"}},
	{func(s *impl.Show) { s.Nodes, s.Ties = s.Nodes[:6], s.Ties[:5] }, nil},
	{func(s *impl.Show) { s.Nodes, s.Ties = s.Nodes[:1], nil }, nil},
	{func(s *impl.Show) { s.Nodes = s.Nodes[:6] }, []string{"ends are nodes"}},
	{func(s *impl.Show) { s.Nodes[6].Name = "" }, []string{"valid nodes"}},
	{func(s *impl.Show) { s.Nodes[0].Name = "Go" }, []string{"valid nodes"}},
	{func(s *impl.Show) { s.Nodes[3].Name = "abcdefghi" }, []string{"valid nodes"}},
	{func(s *impl.Show) { s.Nodes[3].Name = "abcdefgh" }, nil},
	{func(s *impl.Show) { s.Nodes[6].Watch = 4 }, []string{"valid nodes", "free nodes do not watch"}},
	{func(s *impl.Show) { s.Nodes[5].Watch = 4 }, []string{"valid nodes"}},
	{func(s *impl.Show) { s.Nodes[5].Watch = -1 }, []string{"valid nodes"}},
	{func(s *impl.Show) { s.Nodes[5].Watch = -3 }, []string{"valid nodes"}},
	{func(s *impl.Show) { s.Nodes[5].Watch = 3 }, nil},
	{func(s *impl.Show) { s.Nodes[5].Label = []int{-1, -1} }, []string{"valid nodes"}},
	{func(s *impl.Show) { s.Nodes[5].Label = []int{1, -1} }, []string{"valid nodes"}},
	{func(s *impl.Show) { s.Nodes[5].Label = []int{2, 1} }, []string{"valid nodes"}},
	{func(s *impl.Show) { s.Nodes[5].Label = []int{0} }, []string{"valid nodes", "literals are watched"}},
	{func(s *impl.Show) { s.Nodes[5].Name = "a" }, []string{"different names"}},
	{func(s *impl.Show) { s.Nodes[6].Name = "go" }, []string{"different names"}},
	{func(s *impl.Show) { s.Nodes[6].Name = "d" }, []string{"different names"}},
	{func(s *impl.Show) { s.Ties[5].From = 1; s.Nodes[0].Label = []int{1} }, []string{"no label of node 0"}},
	{func(s *impl.Show) { s.Ties[5].From = 1; s.Nodes[0].Label = []int{-1} }, []string{"no label of node 0"}},
	{func(s *impl.Show) { s.Nodes[0].Watch = 3 }, []string{"no watch of node 0"}},
	{func(s *impl.Show) { s.Nodes[0].Watch, s.Nodes[1].Watch = 1, 0 }, []string{"no watch of node 0"}},
	{func(s *impl.Show) { s.Nodes[5].Watch = 1 }, []string{"different watches"}},
	{func(s *impl.Show) { s.Nodes[5].Watch = 2 }, []string{"different watches"}},
	{func(s *impl.Show) { s.Nodes[3].Watch, s.Nodes[5].Watch = 3, 3 }, []string{"different watches"}},
	{func(s *impl.Show) { s.Ties = slices.Concat(s.Ties, s.Ties[:3], s.Ties[:3], s.Ties[:1]) }, nil},
	{func(s *impl.Show) { s.Ties = slices.Concat(s.Ties, s.Ties[:3], s.Ties[:3], s.Ties[:2]) }, []string{"at most 14 ties"}},
	{func(s *impl.Show) { s.Ties[6].From = -1 }, []string{"ends are nodes"}},
	{func(s *impl.Show) { s.Ties[6].To = -1 }, []string{"ends are nodes"}},
	{func(s *impl.Show) { s.Ties[6].From = 7 }, []string{"ends are nodes"}},
	{func(s *impl.Show) { s.Ties[0].To = 7 }, []string{"ends are nodes"}},
	{func(s *impl.Show) { s.Ties[3].From = 7 }, []string{"ends are nodes"}},
	{func(s *impl.Show) { s.Ties[3].To = 7 }, []string{"ends are nodes"}},
	{func(s *impl.Show) { s.Ties[3].To = -1 }, []string{"ends are nodes"}},
	{func(s *impl.Show) { s.Ties[0].From = math.MaxInt }, []string{"ends are nodes"}},
	{func(s *impl.Show) { s.Ties[0].To = math.MinInt }, []string{"ends are nodes"}},
	{func(s *impl.Show) { s.Ties[5].To = math.MaxInt }, []string{"ends are nodes"}},
	{func(s *impl.Show) { s.Ties[0].To = 0 }, []string{"different ends"}},
	{func(s *impl.Show) { s.Ties[6].From = 6 }, []string{"different ends"}},
	{func(s *impl.Show) { s.Ties[3].From = 4 }, []string{"different ends"}},
	{func(s *impl.Show) { s.Ties[6] = tie(1, 6, -20, 20) }, nil},
	{func(s *impl.Show) { s.Ties[6] = tie(1, 6, -20, -20) }, nil},
	{func(s *impl.Show) { s.Ties[6] = tie(1, 6, 20, 20) }, nil},
	{func(s *impl.Show) { s.Ties[6] = tie(1, 6, -21, 20) }, []string{"bounds from -20 to 20"}},
	{func(s *impl.Show) { s.Ties[6] = tie(1, 6, -20, 21) }, []string{"bounds from -20 to 20"}},
	{func(s *impl.Show) { s.Ties[6] = tie(1, 6, 21, 21) }, []string{"bounds from -20 to 20"}},
	{func(s *impl.Show) { s.Ties[6] = tie(1, 6, -21, -21) }, []string{"bounds from -20 to 20"}},
	{func(s *impl.Show) { s.Ties[6] = tie(1, 6, math.MinInt, math.MaxInt) }, []string{"bounds from -20 to 20"}},
	{func(s *impl.Show) { s.Ties[3].High = 20 }, nil},
	{func(s *impl.Show) { s.Ties[3].High = 21 }, []string{"bounds from -20 to 20"}},
	{func(s *impl.Show) { s.Ties[6].Low = 9 }, []string{"low is not above high"}},
	{func(s *impl.Show) { s.Ties[6].High = -4 }, []string{"low is not above high"}},
	{func(s *impl.Show) { s.Ties[3].Low = 4 }, []string{"low is not above high"}},
	{func(s *impl.Show) { s.Ties[6].Low = 8 }, nil},
	{func(s *impl.Show) { s.Ties[3].Low = 3 }, nil},
	{func(s *impl.Show) { s.Ties[3].Low = 0 }, []string{"free ties take time"}},
	{func(s *impl.Show) { s.Ties[5].Low = -1 }, []string{"free ties take time"}},
	{func(s *impl.Show) { s.Ties[3].Low, s.Ties[3].High = 0, 0 }, []string{"free ties take time"}},
	{func(s *impl.Show) { s.Ties[5] = free(6, 0, 2, 5) }, []string{"node 0 is not free"}},
	{func(s *impl.Show) { s.Ties[0].Free, s.Ties[0].Low = true, 1 }, []string{"free nodes do not watch"}},
	{func(s *impl.Show) { s.Nodes[6].Watch = 3 }, []string{"free nodes do not watch"}},
	{func(s *impl.Show) { s.Nodes[4].Watch = 3 }, []string{"free nodes do not watch"}},
	{func(s *impl.Show) { s.Nodes[3].Watch = 3 }, nil},
	{func(s *impl.Show) { s.Nodes[4].Label = []int{1} }, []string{"free nodes have the label of from"}},
	{func(s *impl.Show) { s.Nodes[3].Label = []int{1} }, []string{"free nodes have the label of from"}},
	{func(s *impl.Show) { s.Nodes[4].Label = nil }, []string{"free nodes have the label of from"}},
	{func(s *impl.Show) { s.Nodes[3].Label = nil }, []string{"free nodes have the label of from"}},
	{func(s *impl.Show) { s.Nodes[4].Label = []int{1, -2} }, []string{"free nodes have the label of from"}},
	{func(s *impl.Show) { s.Nodes[6].Label = []int{1} }, []string{"free nodes have the label of from"}},
	{func(s *impl.Show) { s.Ties[6] = free(1, 6, 1, 1) }, []string{"no node is free twice"}},
	{func(s *impl.Show) { s.Ties[6] = s.Ties[5] }, []string{"no node is free twice"}},
	{func(s *impl.Show) { s.Ties[0] = free(1, 6, 2, 2) }, []string{"no node is free twice"}},
	{func(s *impl.Show) { s.Ties = append(s.Ties, free(3, 4, 1, 3)) }, []string{"no node is free twice"}},
	{func(s *impl.Show) { s.Nodes[1].Watch = 0 }, []string{"literals are watched"}},
	{func(s *impl.Show) { s.Nodes[1].Watch = 3 }, []string{"literals are watched"}},
	{func(s *impl.Show) { s.Nodes[2].Watch = 3 }, []string{"literals are watched"}},
	{func(s *impl.Show) { s.Nodes[5].Label = []int{3} }, []string{"literals are watched"}},
	{func(s *impl.Show) { s.Nodes[5].Label = []int{-3} }, []string{"literals are watched"}},
	{func(s *impl.Show) { s.Nodes[5].Label = []int{1, 2, 3} }, []string{"literals are watched"}},
	{func(s *impl.Show) { s.Nodes[1].Label = []int{1} }, []string{"literals are watched"}},
	{func(s *impl.Show) { s.Nodes[1].Label = []int{-1} }, []string{"literals are watched"}},
	{func(s *impl.Show) { s.Nodes[2].Label = []int{1, 2} }, []string{"literals are watched"}},
	{func(s *impl.Show) { s.Nodes[2].Label = []int{1, -2} }, []string{"literals are watched"}},
	{func(s *impl.Show) { s.Nodes[1].Label = []int{2} }, []string{"literals are watched"}},
	{func(s *impl.Show) { s.Nodes[2].Label = []int{-1} }, []string{"literals are watched"}},
	{func(s *impl.Show) { s.Nodes[5].Label = []int{2} }, []string{"literals are watched"}},
	{func(s *impl.Show) { s.Nodes[5].Label = []int{-1, 2} }, []string{"literals are watched"}},
	{func(s *impl.Show) { s.Nodes[5].Label = []int{1, -2} }, nil},
	{func(s *impl.Show) { s.Nodes[2].Label = nil; s.Nodes[5].Label = []int{-1, 2} }, nil},
	{func(s *impl.Show) { s.Nodes[1].Label, s.Nodes[2].Label, s.Nodes[5].Label = []int{2}, nil, []int{-1, 2} }, nil},
	{func(s *impl.Show) { s.Nodes[1].Label, s.Nodes[2].Label = []int{2}, nil }, []string{"literals are watched"}},
	{func(s *impl.Show) { s.Horizon = 1 }, nil},
	{func(s *impl.Show) { s.Horizon = 0 }, []string{"horizon from 1 to 10"}},
	{func(s *impl.Show) { s.Horizon = 11 }, []string{"horizon from 1 to 10"}},
	{func(s *impl.Show) { s.Horizon = -1 }, []string{"horizon from 1 to 10"}},
	{func(s *impl.Show) { s.Horizon = math.MinInt }, []string{"horizon from 1 to 10"}},
	{func(s *impl.Show) { s.Horizon = math.MaxInt }, []string{"horizon from 1 to 10"}},
}

func changedShow(change func(s *impl.Show)) impl.Show {
	s := rich()
	change(&s)
	return s
}

// knownShows are the shows of the two lists above.
func knownShows() []impl.Show {
	var all []impl.Show
	for _, c := range goodShows {
		all = append(all, cloneShow(c.s))
	}
	for _, c := range badShows {
		all = append(all, changedShow(c.change))
	}
	return all
}

// checkShow compares all functions of the chapter that take one show with the document's words.
func checkShow(t *testing.T, s impl.Show) bool {
	t.Helper()
	is := isShow(s)
	if impl.ShowOk(s) != is {
		t.Fatalf("ShowOk(%v) = %v, but the broken rules are %q", s, !is, brokenRules(s))
	}
	if got, want := impl.ChosenNodes(s), chosenIn(s); !slices.Equal(got, want) {
		t.Fatalf("ChosenNodes(%v) = %v, want %v", s, got, want)
	}
	for n := -2; n <= len(s.Nodes)+1; n++ {
		want := freeTieIn(s, n)
		if got := impl.FreeTie(s, n); got != want {
			t.Fatalf("FreeTie(%v, %d) = %d, want %d", s, n, got, want)
		}
		if got := impl.IsFree(s, n); got != (want >= 0) {
			t.Fatalf("IsFree(%v, %d) = %v", s, n, got)
		}
	}
	for p := -4; p <= 5; p++ {
		if got, want := impl.WatcherOf(s, p), watcherIn(s, p); got != want {
			t.Fatalf("WatcherOf(%v, %d) = %d, want %d", s, p, got, want)
		}
	}
	for _, n := range s.Nodes {
		if got, want := impl.NodeNamed(s, n.Name), namedIn(s, n.Name); got != want {
			t.Fatalf("NodeNamed(%v, %q) = %d, want %d", s, n.Name, got, want)
		}
	}
	return is
}

func TestShowTypes(t *testing.T) {
	if impl.MaxShow != 7 || impl.MaxTies != 14 || impl.MaxHorizon != 10 || impl.MaxSpan != 20 {
		t.Errorf("the bounds are %d, %d, %d and %d", impl.MaxShow, impl.MaxTies, impl.MaxHorizon, impl.MaxSpan)
	}
	// Another field, another order or another type of a field would not compile.
	type nodeFields struct {
		Name  string
		Label []int
		Watch int
	}
	type tieFields struct {
		From, To, Low, High int
		Free                bool
	}
	type showFields struct {
		Nodes   []impl.Node
		Ties    []impl.Tie
		Horizon int
	}
	_, _, _ = nodeFields(impl.Node{}), tieFields(impl.Tie{}), showFields(impl.Show{})
}

func TestNodeOk(t *testing.T) {
	good := []string{"a", "z", "m0", "a9", "go", "abcdefgh", "a1234567", "z9999999", "zzzzzzzz"}
	bad := []string{"", "abcdefghi", "a12345678", "0", "9a", "1a", "A", "aB", "Go", "a_b", "a-b", "a b", " a", "a ", "a\n", "\na", "a\x00", "\x00", "\xff", "a\xff", "a\x80b", "\xc3", "\u00e9", "a\u00e9", "a\u0661", "\uff41", "!", "-", "a@", "`", "{", "a/", "a:", strings.Repeat("a", 100000)}
	for _, watch := range showNumbers {
		for _, c := range labelTexts {
			for _, name := range good {
				if got := impl.NodeOk(node(name, watch, c.l...)); got != (watch >= 0 && watch <= 3) {
					t.Errorf("NodeOk(%q, %v, %d) = %v", name, c.l, watch, got)
				}
			}
			for _, name := range bad {
				if impl.NodeOk(node(name, watch, c.l...)) {
					t.Errorf("NodeOk(%.20q, %v, %d) = true", name, c.l, watch)
				}
			}
		}
		for _, l := range noLabels {
			if impl.NodeOk(node("a", watch, l...)) || impl.NodeOk(node("A", watch, l...)) {
				t.Errorf("a node with the list %v and the Watch %d is valid", l, watch)
			}
		}
	}
	if impl.NodeOk(impl.Node{}) || !impl.NodeOk(impl.Node{Name: "a"}) || !impl.NodeOk(impl.Node{Name: "a", Label: []int{}}) || impl.NodeOk(node("a", 0, make([]int, 100000)...)) {
		t.Error("the zero value or a node without a label is not as it should be")
	}
}

func TestNodeOkOfShortNames(t *testing.T) {
	check := func(name string) {
		if n := node(name, 1, 1, -3); impl.NodeOk(n) != isValidNode(n) {
			t.Errorf("NodeOk of the name %q = %v", name, !isValidNode(n))
		}
	}
	for i := range 1 << 16 {
		check(string([]byte{byte(i >> 8), byte(i)}))
	}
	for b := range 256 {
		check(string([]byte{byte(b)}))
		for at := range 9 {
			name := []byte("abcdefghi")
			name[at] = byte(b)
			check(string(name))
			check(string(name[:8]))
		}
	}
}

func TestGoodShows(t *testing.T) {
	for i, c := range goodShows {
		if !impl.ShowOk(c.s) {
			t.Errorf("show %d: ShowOk = false, but the broken rules are %q", i, brokenRules(c.s))
		}
		for _, n := range showNumbers {
			want := -1
			if isNodeOf(c.s, n) {
				want = c.ends[n]
			}
			if got := impl.FreeTie(c.s, n); got != want || impl.IsFree(c.s, n) != (want >= 0) {
				t.Errorf("show %d: FreeTie of %d = %d, want %d, and IsFree = %v", i, n, got, want, impl.IsFree(c.s, n))
			}
			want = -1
			if n >= 1 && n <= 3 {
				want = c.watchers[n-1]
			}
			if got := impl.WatcherOf(c.s, n); got != want {
				t.Errorf("show %d: WatcherOf %d = %d, want %d", i, n, got, want)
			}
		}
		if got := impl.ChosenNodes(c.s); !slices.Equal(got, c.chosen) {
			t.Errorf("show %d: ChosenNodes = %v, want %v", i, got, c.chosen)
		}
		for k, n := range c.s.Nodes {
			if got := impl.NodeNamed(c.s, n.Name); got != k {
				t.Errorf("show %d: NodeNamed %q = %d, want %d", i, n.Name, got, k)
			}
		}
		checkShow(t, c.s)
	}
}

func TestBadShows(t *testing.T) {
	for i, c := range badShows {
		s := changedShow(c.change)
		// The list says what it means to say: this fault, and no other.
		if got := brokenRules(s); !slices.Equal(got, c.rules) {
			t.Errorf("show %d breaks %q instead of %q", i, got, c.rules)
		}
		if got := impl.ShowOk(s); got != (len(c.rules) == 0) {
			t.Errorf("show %d breaks %q, but ShowOk = %v", i, c.rules, got)
		}
		checkShow(t, s)
		if len(c.rules) == 0 {
			continue
		}
		for _, n := range showNumbers {
			if impl.FreeTie(s, n) != -1 || impl.IsFree(s, n) || impl.WatcherOf(s, n) != -1 || len(impl.ChosenNodes(s)) != 0 {
				t.Errorf("show %d is not valid, but FreeTie of %d = %d, WatcherOf = %d and ChosenNodes = %v", i, n, impl.FreeTie(s, n), impl.WatcherOf(s, n), impl.ChosenNodes(s))
			}
		}
	}
}

// everyChange calls visit with s after each change of one field to one of these numbers, and of the number of nodes and ties by one.
// The show that visit is given is changed back afterwards.
func everyChange(s impl.Show, numbers []int, visit func(s impl.Show)) {
	s = cloneShow(s)
	try := func(field *int) {
		for _, n := range numbers {
			kept := *field
			*field = n
			visit(s)
			*field = kept
		}
	}
	try(&s.Horizon)
	for i := range s.Ties {
		x := &s.Ties[i]
		for _, field := range []*int{&x.From, &x.To, &x.Low, &x.High} {
			try(field)
		}
		x.Free = !x.Free
		visit(s)
		x.Free = !x.Free
		less := cloneShow(s)
		less.Ties = slices.Delete(less.Ties, i, i+1)
		visit(less)
		more := cloneShow(s)
		more.Ties = slices.Insert(more.Ties, i, s.Ties[i])
		visit(more)
	}
	for i := range s.Nodes {
		everyNodeChange(s, &s.Nodes[i], try, visit)
		less := cloneShow(s)
		less.Nodes = slices.Delete(less.Nodes, i, i+1)
		visit(less)
		more := cloneShow(s)
		more.Nodes = slices.Insert(more.Nodes, i, node("new", 0))
		visit(more)
	}
}

func everyNodeChange(s impl.Show, n *impl.Node, try func(field *int), visit func(s impl.Show)) {
	try(&n.Watch)
	for k := range n.Label {
		try(&n.Label[k])
	}
	kept := *n
	for _, c := range labelTexts {
		n.Label = slices.Clone(c.l)
		visit(s)
	}
	for _, l := range noLabels {
		n.Label = slices.Clone(l)
		visit(s)
	}
	*n = kept
	for _, name := range []string{"", "go", "a", "b", "zz", "Go", "abcdefghi", kept.Name + "\x00", kept.Name + "0"} {
		n.Name = name
		visit(s)
	}
	*n = kept
}

func TestShowsWithOneChange(t *testing.T) {
	valid, invalid := 0, 0
	check := func(s impl.Show) {
		if checkShow(t, s) {
			valid++
		} else {
			invalid++
		}
	}
	for _, c := range goodShows {
		everyChange(c.s, showNumbers, check)
	}
	everyChange(rich(), showNumbers, check)
	if valid < 1500 || invalid < 5000 {
		t.Errorf("%d valid and %d invalid shows are too few", valid, invalid)
	}
}

// All labels and Watches of two nodes after node 0, and those with two propositions of three nodes.
func TestLabelsAndWatchesOfSmallShows(t *testing.T) {
	valid := 0
	check := func(s impl.Show) {
		is := impl.ShowOk(s)
		if is != isShow(s) {
			t.Fatalf("ShowOk(%v) = %v, but the broken rules are %q", s, is, brokenRules(s))
		}
		if is {
			valid++
		}
		for p := 1; p <= 3; p++ {
			if got, want := impl.WatcherOf(s, p), watcherIn(s, p); got != want {
				t.Fatalf("WatcherOf(%v, %d) = %d, want %d", s, p, got, want)
			}
		}
	}
	var all, few []impl.Node
	for _, c := range labelTexts {
		for watch := range 4 {
			all = append(all, node("", watch, c.l...))
			if watch < 3 && !slices.Contains(c.l, 3) && !slices.Contains(c.l, -3) {
				few = append(few, node("", watch, c.l...))
			}
		}
	}
	for i, from := range [][]impl.Node{all, all, few} {
		everyList(i+1, spread(len(from)), func(chosen []int) {
			s := show(3, []impl.Node{node("go", 0)})
			for i, k := range chosen {
				n := from[k]
				n.Name = "abc"[i : i+1]
				s.Nodes = append(s.Nodes, n)
			}
			check(s)
		})
	}
	if valid < 200 {
		t.Errorf("%d valid shows are too few", valid)
	}
}

// All pairs of ties between few nodes, of which some have labels or watch.
func TestTiesOfSmallShows(t *testing.T) {
	var ties []impl.Tie
	for from := -1; from <= 4; from++ {
		for to := -1; to <= 4; to++ {
			ties = append(ties, tie(from, to, 1, 2), free(from, to, 1, 2))
		}
	}
	valid := 0
	for _, nodes := range [][]impl.Node{
		{node("go", 0), node("a", 0), node("b", 0)},
		{node("go", 0), node("a", 1), node("b", 0, 1), node("c", 0, 1)},
		{node("go", 0), node("a", 2), node("b", 0, -2), node("c", 0, 2)},
		{node("go", 0), node("a", 1), node("b", 2, 1), node("c", 0, 1)},
		{node("go", 0), node("a", 1), node("b", 2, 1), node("c", 0, 1, 2)},
	} {
		for _, first := range ties {
			for _, second := range ties {
				if checkShow(t, show(4, nodes, first, second)) {
					valid++
				}
			}
		}
	}
	// In the order of the lists: pairs of 10, 14, 12, 13 and 12 ties, without those in which a node is free twice.
	if want := 100 - 8 + 196 - 2 + 144 + 169 - 1 + 144; valid != want {
		t.Errorf("%d shows are valid instead of %d", valid, want)
	}
}

func TestBoundsOfTies(t *testing.T) {
	valid := 0
	for low := -23; low <= 23; low++ {
		for high := -23; high <= 23; high++ {
			for _, is := range []bool{true, false} {
				x := impl.Tie{From: 0, To: 1, Low: low, High: high, Free: is}
				if checkShow(t, show(4, []impl.Node{node("go", 0), node("a", 0)}, x)) {
					valid++
				}
			}
		}
	}
	if want := 41*42/2 + 20*21/2; valid != want {
		t.Errorf("%d of the ties are valid instead of %d", valid, want)
	}
}

// As many nodes and ties as the numbers say, all of them valid.
func TestShowsOfEverySize(t *testing.T) {
	for nodes := range 12 {
		for ties := range 20 {
			s := impl.Show{Horizon: 5}
			for i := range nodes {
				s.Nodes = append(s.Nodes, node("n"+fmt.Sprint(i), 0))
			}
			for range ties {
				s.Ties = append(s.Ties, tie(0, 1, -1, 1))
			}
			want := nodes >= 1 && nodes <= 7 && ties <= 14 && (nodes > 1 || ties == 0)
			if impl.ShowOk(s) != want || checkShow(t, s) != want {
				t.Errorf("a show of %d nodes and %d ties: ShowOk = %v", nodes, ties, !want)
			}
		}
	}
	for _, s := range []impl.Show{
		show(5, slices.Repeat([]impl.Node{node("a", 0)}, 100000)), show(5, slices.Repeat([]impl.Node{node("a", 1, 1)}, 100000)), show(5, []impl.Node{node("a", 0), node("b", 0)}, slices.Repeat([]impl.Tie{free(0, 1, 1, 1)}, 100000)...),
		show(5, []impl.Node{node("a", 0), node("b", 1, slices.Repeat([]int{1}, 100000)...), node("c", 0, 1)}), show(5, []impl.Node{node(strings.Repeat("a", 100000), 0)}), show(5, nil, slices.Repeat([]impl.Tie{{}}, 100000)...),
	} {
		if impl.ShowOk(s) || impl.FreeTie(s, 1) != -1 || impl.IsFree(s, 1) || impl.WatcherOf(s, 1) != -1 || impl.ChosenNodes(s) != nil {
			t.Errorf("a long show of %d nodes and %d ties is valid", len(s.Nodes), len(s.Ties))
		}
	}
}

func TestNodeNamed(t *testing.T) {
	s := rich()
	odd := show(-5, []impl.Node{node("Aa", 9), node("", 0, 0), node("\xff", 0), node("b", 0), node("a", 0), node("", 0), node("b", 3), node("\ufffd", 0), node("a", 1), node("a\x00", 0), node("\u00e9", 0), node("e\u0301", 0), node("a b", 0), node(strings.Repeat("x", 100000), 0)})
	for _, c := range []struct {
		s    impl.Show
		name string
		want int
	}{
		{s, "go", 0}, {s, "a", 1}, {s, "b", 2}, {s, "c", 3}, {s, "cz", 4}, {s, "d", 5}, {s, "e", 6},
		{s, "", -1}, {s, "f", -1}, {s, "g", -1}, {s, "goo", -1}, {s, "czz", -1}, {s, "z", -1}, {s, "A", -1}, {s, "Go", -1}, {s, "a ", -1}, {s, " a", -1}, {s, "a\x00", -1}, {s, "\xff", -1}, {s, "0", -1}, {s, "1", -1}, {s, strings.Repeat("a", 100000), -1},
		// This show is not valid; the first of several nodes is meant.
		{odd, "Aa", 0}, {odd, "", 1}, {odd, "\xff", 2}, {odd, "b", 3}, {odd, "a", 4}, {odd, "\ufffd", 7}, {odd, "a\x00", 9}, {odd, "\u00e9", 10}, {odd, "e\u0301", 11}, {odd, "a b", 12}, {odd, strings.Repeat("x", 100000), 13},
		{odd, "aA", -1}, {odd, "AA", -1}, {odd, "aa", -1}, {odd, "\xfe", -1}, {odd, "\xff\xff", -1}, {odd, "\x00", -1}, {odd, "e", -1}, {odd, "a\x00\x00", -1}, {odd, strings.Repeat("x", 99999), -1}, {odd, strings.Repeat("x", 99999) + "y", -1},
		{impl.Show{}, "", -1}, {impl.Show{}, "go", -1}, {show(5, nil, tie(0, 1, 1, 1)), "go", -1}, {show(5, []impl.Node{}), "", -1}, {show(0, []impl.Node{{}}), "", 0}, {show(0, []impl.Node{{}}), "go", -1},
	} {
		if got := impl.NodeNamed(c.s, c.name); got != c.want {
			t.Errorf("NodeNamed(.., %.20q) = %d, want %d", c.name, got, c.want)
		}
	}
	many := show(5, nil)
	for i := range 3000 {
		many.Nodes = append(many.Nodes, node(fmt.Sprint(i%1000), 0))
	}
	for i := range 1010 {
		if got, want := impl.NodeNamed(many, fmt.Sprint(i)), i; got != want && i < 1000 || i >= 1000 && got != -1 {
			t.Errorf("NodeNamed of %d = %d", i, got)
		}
	}
}

// variousShows calls visit with some thousand shows, the same ones in every run. Most are valid, or were before a change.
func variousShows(visit func(s impl.Show)) {
	r := rand.New(rand.NewSource(8))
	for k := range 6000 {
		s := variousShow(r)
		for range max(0, k%4-1) {
			spoil(r, &s)
		}
		visit(s)
	}
}

// variousShow returns a valid show, whose nodes are in any order after node 0.
func variousShow(r *rand.Rand) impl.Show {
	s := show(1+r.Intn(10), []impl.Node{node("go", 0)})
	watches := append(r.Perm(3), -1)
	for i := range max(r.Intn(7), r.Intn(7)) {
		n := impl.Node{Name: string(rune('a'+i)) + []string{"", "z", "0", "long123"}[r.Intn(4)]}
		for _, w := range s.Nodes {
			// The label of a watcher comes with its literal, where it fits.
			x := []int{w.Watch, -w.Watch}[r.Intn(2)]
			if more, ok := impl.JoinLabels(w.Label, []int{x}); ok && r.Intn(3) > 0 {
				if joined, ok := impl.JoinLabels(n.Label, more); ok {
					n.Label = joined
				}
			}
		}
		if r.Intn(3) == 0 {
			n.Label = slices.Clone(s.Nodes[r.Intn(len(s.Nodes))].Label)
		}
		if watch := watches[r.Intn(4)] + 1; watch > 0 && !slices.Contains(n.Label, watch) && !slices.Contains(n.Label, -watch) && watcherAmong(s.Nodes, watch) < 0 {
			n.Watch = watch
		}
		s.Nodes = append(s.Nodes, n)
	}
	r.Shuffle(len(s.Nodes)-1, func(i, k int) { s.Nodes[i+1], s.Nodes[k+1] = s.Nodes[k+1], s.Nodes[i+1] })
	for range r.Intn(15) {
		if x, ok := variousTie(r, s); ok {
			s.Ties = append(s.Ties, x)
		}
	}
	return s
}

func watcherAmong(nodes []impl.Node, watch int) int {
	return slices.IndexFunc(nodes, func(n impl.Node) bool { return n.Watch == watch })
}

func variousTie(r *rand.Rand, s impl.Show) (impl.Tie, bool) {
	from, to, low := r.Intn(len(s.Nodes)), r.Intn(len(s.Nodes)), r.Intn(41)-20
	x := tie(from, to, low, low+r.Intn(21-low))
	if from == to {
		return x, false
	}
	isEnd := slices.ContainsFunc(s.Ties, func(y impl.Tie) bool { return y.Free && y.To == to })
	if low >= 1 && to > 0 && s.Nodes[to].Watch == 0 && !isEnd && slices.Equal(s.Nodes[from].Label, s.Nodes[to].Label) {
		x.Free = r.Intn(4) > 0
	}
	return x, true
}

// spoil changes something, which may leave a show valid.
func spoil(r *rand.Rand, s *impl.Show) {
	n := &s.Nodes[r.Intn(len(s.Nodes))]
	switch r.Intn(6) {
	case 0:
		n.Watch = r.Intn(6) - 1
	case 1:
		n.Label = slices.Clone(labelTexts[r.Intn(len(labelTexts))].l)
	case 2:
		n.Name = s.Nodes[r.Intn(len(s.Nodes))].Name
	case 3:
		s.Horizon = r.Intn(13) - 1
	default:
		if len(s.Ties) == 0 {
			return
		}
		x := &s.Ties[r.Intn(len(s.Ties))]
		*[]*int{&x.From, &x.To, &x.Low, &x.High}[r.Intn(4)] = r.Intn(24) - 2
		x.Free = x.Free || r.Intn(3) == 0
	}
}

func TestVariousShows(t *testing.T) {
	valid, invalid, labelled, chosen, free := 0, 0, 0, 0, 0
	variousShows(func(s impl.Show) {
		if !checkShow(t, s) {
			invalid++
			return
		}
		valid++
		all := len(impl.ChosenNodes(s))
		chosen += all
		free += len(s.Nodes) - 1 - all
		if slices.ContainsFunc(s.Nodes, func(n impl.Node) bool { return len(n.Label) > 1 }) {
			labelled++
		}
	})
	if valid < 2500 || invalid < 1000 || labelled < 1000 || chosen < 4000 || free < 1000 {
		t.Errorf("%d valid, %d invalid, %d labelled shows, %d chosen and %d free nodes are too few", valid, invalid, labelled, chosen, free)
	}
}

// Wherever all literals of a label have been observed, a watcher of each of them has happened, for whatever it observes.
func TestValidLabelsCanBeKnown(t *testing.T) {
	labels := 0
	variousShows(func(s impl.Show) {
		if !impl.ShowOk(s) {
			return
		}
		everyObserved(func(v []int) {
			for _, n := range s.Nodes {
				if impl.LabelState(n.Label, v) != 1 {
					continue
				}
				for _, x := range n.Label {
					w := impl.WatcherOf(s, max(x, -x))
					if w < 0 || impl.LabelState(s.Nodes[w].Label, v) != 1 || len(impl.WithoutLiteral(s.Nodes[w].Label, x)) != len(s.Nodes[w].Label) {
						t.Fatalf("the literal %d of %v in %v is watched by %d", x, n, s, w)
					}
					labels++
				}
			}
		})
	})
	if labels < 10000 {
		t.Errorf("%d literals are too few", labels)
	}
}

func TestSameShows(t *testing.T) {
	n := []impl.Node{node("go", 0), node("a", 1), node("b", 0, 1)}
	x := []impl.Tie{tie(0, 1, 1, 2), free(0, 2, 1, 2)}
	change := func(change func(s *impl.Show)) impl.Show {
		s := cloneShow(show(5, n, x...))
		change(&s)
		return s
	}
	same := change(func(s *impl.Show) {})
	for i, other := range []impl.Show{
		{}, show(5, n), show(5, nil, x...), show(0, n, x...), show(6, n, x...), show(-5, n, x...), show(5, n[:2], x...), show(5, n[1:], x...), show(5, n, x[:1]...), show(5, n, x[1:]...),
		change(func(s *impl.Show) { s.Nodes = append(s.Nodes, node("c", 0)) }), change(func(s *impl.Show) { s.Nodes = append(s.Nodes, impl.Node{}) }), change(func(s *impl.Show) { s.Nodes = append(s.Nodes, s.Nodes...) }),
		change(func(s *impl.Show) { s.Ties = append(s.Ties, tie(1, 2, 1, 1)) }), change(func(s *impl.Show) { s.Ties = append(s.Ties, impl.Tie{}) }), change(func(s *impl.Show) { s.Ties = append(s.Ties, s.Ties...) }),
		change(func(s *impl.Show) { slices.Reverse(s.Nodes) }), change(func(s *impl.Show) { slices.Reverse(s.Ties) }),
		change(func(s *impl.Show) { s.Nodes[0].Name = "" }), change(func(s *impl.Show) { s.Nodes[1].Name = "A" }), change(func(s *impl.Show) { s.Nodes[2].Name = "b " }), change(func(s *impl.Show) { s.Nodes[2].Name = "b\x00" }), change(func(s *impl.Show) { s.Nodes[0].Name = "og" }),
		change(func(s *impl.Show) { s.Nodes[0].Watch = 1 }), change(func(s *impl.Show) { s.Nodes[1].Watch = 2 }), change(func(s *impl.Show) { s.Nodes[2].Watch = -1 }), change(func(s *impl.Show) { s.Nodes[2].Watch = math.MinInt }),
		change(func(s *impl.Show) { s.Nodes[2].Label = nil }), change(func(s *impl.Show) { s.Nodes[2].Label = []int{-1} }), change(func(s *impl.Show) { s.Nodes[2].Label = []int{1, 2} }), change(func(s *impl.Show) { s.Nodes[2].Label = []int{0, 1} }), change(func(s *impl.Show) { s.Nodes[0].Label = []int{0} }), change(func(s *impl.Show) { s.Nodes[2].Label = []int{1, 1} }),
		change(func(s *impl.Show) { s.Ties[0].From = 2 }), change(func(s *impl.Show) { s.Ties[1].From = -1 }), change(func(s *impl.Show) { s.Ties[0].To = 2 }), change(func(s *impl.Show) { s.Ties[1].To = 1 }),
		change(func(s *impl.Show) { s.Ties[0].Low = 0 }), change(func(s *impl.Show) { s.Ties[1].Low = -1 }), change(func(s *impl.Show) { s.Ties[0].High = 1 }), change(func(s *impl.Show) { s.Ties[1].High = math.MaxInt }),
		change(func(s *impl.Show) { s.Ties[0].Free = true }), change(func(s *impl.Show) { s.Ties[1].Free = false }),
	} {
		if impl.SameShows(same, other) || impl.SameShows(other, same) || !impl.SameShows(other, cloneShow(other)) || !impl.SameShows(other, other) {
			t.Errorf("show %d is taken for another one, or not for itself", i)
		}
	}
	if !impl.SameShows(same, show(5, n, x...)) || !impl.SameShows(same, same) || !impl.SameShows(impl.Show{}, impl.Show{}) {
		t.Error("a show is not taken for itself")
	}
}

// Any two shows that differ by what everyChange does, or more, are told apart.
func TestAllDifferentShowsAreToldApart(t *testing.T) {
	all := knownShows()
	for _, s := range []impl.Show{goodShows[2].s, goodShows[1].s, {}, show(3, []impl.Node{{}, {}}, impl.Tie{}, impl.Tie{})} {
		everyChange(s, []int{-1, 0, 1, 2, math.MaxInt}, func(s impl.Show) { all = append(all, cloneShow(s)) })
	}
	texts := map[string]int{}
	var ids []int
	for _, s := range all {
		text := textOf(s)
		if _, ok := texts[text]; !ok {
			texts[text] = len(texts)
		}
		ids = append(ids, texts[text])
	}
	if len(texts) < 400 {
		t.Errorf("%d different shows are too few", len(texts))
	}
	for i, a := range all {
		for k, b := range all {
			if got, want := impl.SameShows(a, b), ids[i] == ids[k]; got != want {
				t.Fatalf("SameShows(%v, %v) = %v", a, b, got)
			}
		}
		if !impl.SameShows(a, cloneShow(a)) {
			t.Fatalf("a copy of %v is not the same", a)
		}
	}
}

// emptied returns s with all empty lists as nil, or as lists with spare capacity.
func emptied(s impl.Show, asNil bool) impl.Show {
	s = cloneShow(s)
	for i := range s.Nodes {
		if len(s.Nodes[i].Label) == 0 {
			s.Nodes[i].Label = map[bool][]int{true: nil, false: []int{1, 9, -9}[:0]}[asNil]
		}
	}
	if len(s.Nodes) == 0 {
		s.Nodes = map[bool][]impl.Node{true: nil, false: []impl.Node{node("go", 0)}[:0]}[asNil]
	}
	if len(s.Ties) == 0 {
		s.Ties = map[bool][]impl.Tie{true: nil, false: []impl.Tie{free(0, 0, 5, 3)}[:0]}[asNil]
	}
	return s
}

func TestNilAndEmptyListsOfShowsAreEquivalent(t *testing.T) {
	mixed := show(6, []impl.Node{node("go", 0), node("a", 0), node("b", 0), node("c", 0)}, free(0, 1, 1, 1), free(1, 2, 1, 1), free(2, 3, 1, 1))
	mixed.Nodes[1].Label, mixed.Nodes[2].Label, mixed.Nodes[3].Label = []int{}, nil, []int{5}[:0]
	for _, s := range append(knownShows(), mixed, show(5, nil), show(5, []impl.Node{node("go", 0)})) {
		a, b := emptied(s, true), emptied(s, false)
		for _, x := range []impl.Show{a, b, s} {
			if checkShow(t, x) != isShow(s) || !impl.SameShows(x, a) || !impl.SameShows(b, x) || !impl.SameShows(x, s) {
				t.Errorf("nil and empty lists differ in %v", s)
			}
		}
	}
	for _, l := range [][]int{nil, {}, []int{7}[:0]} {
		if !impl.NodeOk(impl.Node{Name: "a", Label: l}) {
			t.Errorf("a node with an empty label is not valid: %v", l)
		}
	}
	if got := impl.ChosenNodes(goodShows[3].s); len(got) != 0 || !impl.ShowOk(mixed) || len(impl.ChosenNodes(mixed)) != 0 {
		t.Errorf("chosen nodes in shows without them: %v", got)
	}
}

// spacious returns s with spare capacity behind each of its lists, and those lists with what is behind them.
func spacious(s impl.Show) (impl.Show, func() string) {
	nodes := append(slices.Clone(s.Nodes), node("spare", 3, 1, 2), node("a", 1), impl.Node{})
	ties := append(slices.Clone(s.Ties), free(0, 1, 7, 7), tie(1, 0, 8, 8), impl.Tie{})
	labels := make([][]int, len(nodes))
	for i := range nodes {
		labels[i] = append(slices.Clone(nodes[i].Label), 3, -2, 1, 0, 77)
		nodes[i].Label = labels[i][:len(nodes[i].Label)]
	}
	return impl.Show{Nodes: nodes[:len(s.Nodes)], Ties: ties[:len(s.Ties)], Horizon: s.Horizon}, func() string {
		return textOf(impl.Show{Nodes: nodes, Ties: ties}) + fmt.Sprint(labels)
	}
}

// callShowFunctions calls all functions of the chapter, and returns what they say.
func callShowFunctions(s, other impl.Show) string {
	var b strings.Builder
	fmt.Fprint(&b, impl.ShowOk(s), impl.ChosenNodes(s), impl.SameShows(s, other), impl.SameShows(other, s))
	for n := -1; n <= 8; n++ {
		fmt.Fprint(&b, impl.FreeTie(s, n), impl.IsFree(s, n), impl.WatcherOf(s, n))
	}
	for _, n := range s.Nodes {
		fmt.Fprint(&b, impl.NodeOk(n), impl.NodeNamed(s, n.Name))
	}
	fmt.Fprint(&b, impl.NodeNamed(s, "a"), impl.NodeNamed(s, ""))
	return b.String()
}

func TestShowArgumentsAreKept(t *testing.T) {
	shows := knownShows()
	for i, s := range shows {
		a, keptA := spacious(s)
		b, keptB := spacious(shows[(i+1)%len(shows)])
		c, keptC := spacious(s)
		before, beforeB := keptA()+fmt.Sprint(a), keptB()+fmt.Sprint(b)
		callShowFunctions(a, b)
		callShowFunctions(a, a)
		callShowFunctions(a, c)
		if keptA()+fmt.Sprint(a) != before || keptC()+fmt.Sprint(c) != before || keptB()+fmt.Sprint(b) != beforeB {
			t.Errorf("an argument has changed: %v, %v", a, b)
		}
	}
}

func TestShowResultsAreNew(t *testing.T) {
	for _, c := range goodShows {
		s, kept := spacious(c.s)
		before := kept()
		if len(c.chosen) > 0 {
			checkNewList(t, "ChosenNodes", 77, func() []int { return impl.ChosenNodes(s) })
		}
		if kept() != before {
			t.Errorf("a show has changed: %v", s)
		}
	}
	one, two := impl.ChosenNodes(rich()), impl.ChosenNodes(goodShows[8].s)
	one[0], two[1] = 55, 66
	if !slices.Equal(one, []int{55, 2, 3, 5}) || !slices.Equal(two, []int{1, 66, 3, 4, 5, 6}) {
		t.Errorf("the results of two calls share memory: %v, %v", one, two)
	}
}

// Calls between other calls, many times: nothing is kept, and no order of a map shows.
func TestShowResultsAreAlwaysTheSame(t *testing.T) {
	shows := knownShows()
	answers := make([]string, len(shows))
	for round := range 30 {
		for i, s := range shows {
			got := callShowFunctions(s, shows[(i+1)%len(shows)])
			if round == 0 {
				answers[i] = got
			}
			if got != answers[i] {
				t.Fatalf("the answers for %v have changed: %s, before %s", s, got, answers[i])
			}
		}
	}
	// The same memory with another content is another show.
	s := rich()
	for range 30 {
		s.Nodes[1].Watch = 3
		if impl.ShowOk(s) || impl.WatcherOf(s, 1) != -1 || impl.WatcherOf(s, 3) != -1 {
			t.Fatal("a changed show is taken for the old one")
		}
		s.Nodes[1].Watch, s.Ties[5].Free = 1, false
		if !impl.ShowOk(s) || impl.WatcherOf(s, 1) != 1 || impl.FreeTie(s, 6) != -1 || !slices.Equal(impl.ChosenNodes(s), []int{1, 2, 3, 5, 6}) {
			t.Fatal("a changed show is taken for the old one")
		}
		s.Ties[5].Free, s.Nodes[5].Name = true, "dd"
		if impl.FreeTie(s, 6) != 5 || impl.NodeNamed(s, "dd") != 5 || impl.NodeNamed(s, "d") != -1 {
			t.Fatal("a changed show is taken for the old one")
		}
		s.Nodes[5].Name = "d"
	}
}
