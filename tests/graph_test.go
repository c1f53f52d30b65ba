package tests

import (
	"math"
	"math/rand"
	"slices"
	"testing"

	"loop.example/g00827/impl"
)

// edge is written as its From, To and Weight.
type edge = [3]int

func graph(nodes int, edges ...edge) impl.Graph {
	g := impl.Graph{Nodes: nodes}
	for _, e := range edges {
		g.Edges = append(g.Edges, impl.Edge{From: e[0], To: e[1], Weight: e[2]})
	}
	return g
}

// ring is a graph in which an edge of this weight leads from each node to the next one, and from the last one to node 0.
func ring(nodes int, weight int) impl.Graph {
	g := impl.Graph{Nodes: nodes}
	for n := range nodes {
		g.Edges = append(g.Edges, impl.Edge{From: n, To: (n + 1) % nodes, Weight: weight})
	}
	return g
}

// repeated is a graph with this many edges from node 0 to node 1, of the weights 0, 1, 2 and so on.
func repeated(edges int) impl.Graph {
	g := impl.Graph{Nodes: 2}
	for i := range edges {
		g.Edges = append(g.Edges, impl.Edge{From: 0, To: 1, Weight: i})
	}
	return g
}

func isNode(g impl.Graph, n int) bool { return 0 <= n && n < g.Nodes }

func isEdge(g impl.Graph, i int) bool { return 0 <= i && i < len(g.Edges) }

// isGraph is what the document says of a valid graph, with its numbers written out.
func isGraph(g impl.Graph) bool {
	ok := g.Nodes >= 0 && g.Nodes <= 8 && len(g.Edges) <= 80
	for _, e := range g.Edges {
		ok = ok && isNode(g, e.From) && isNode(g, e.To) && e.Weight >= -999999 && e.Weight <= 999999
	}
	return ok
}

var validGraphs = []impl.Graph{
	{}, {Edges: []impl.Edge{}}, graph(1), graph(5), graph(8), {Nodes: 8, Edges: []impl.Edge{}},
	graph(1, edge{0, 0, 0}), graph(1, edge{0, 0, 5}), graph(1, edge{0, 0, -5}), graph(2, edge{0, 1, 3}), graph(2, edge{1, 0, -3}),
	graph(2, edge{0, 1, 3}, edge{0, 1, 3}, edge{0, 1, -4}), graph(8, edge{7, 0, 1}, edge{0, 7, 1}, edge{7, 7, 1}),
	graph(2, edge{0, 1, 999999}, edge{1, 0, -999999}), graph(2, edge{0, 1, 999998}, edge{1, 0, -999998}),
	ring(8, 1), ring(8, -1), ring(8, 999999), ring(8, -999999), repeated(79), repeated(80),
}

var invalidGraphs = []impl.Graph{
	{Nodes: -1}, {Nodes: 9}, {Nodes: 10}, {Nodes: math.MinInt}, {Nodes: math.MaxInt}, {Nodes: -1, Edges: []impl.Edge{}}, {Nodes: 9, Edges: []impl.Edge{}},
	graph(-1, edge{0, 0, -1}), graph(9, edge{0, 0, -1}), graph(9, edge{8, 8, -1}), graph(math.MaxInt, edge{0, 0, -1}), graph(math.MinInt, edge{0, 0, -1}),
	graph(0, edge{0, 0, -1}), graph(0, edge{0, 0, 0}), graph(-1, edge{-1, -1, -1}),
	graph(1, edge{0, 0, -1}, edge{1, 0, -1}), graph(1, edge{0, 0, -1}, edge{0, 1, -1}), graph(1, edge{0, 0, -1}, edge{-1, 0, -1}), graph(1, edge{0, 0, -1}, edge{0, -1, -1}),
	graph(2, edge{0, 1, -1}, edge{1, 0, -1}, edge{2, 0, 0}), graph(2, edge{0, 1, -1}, edge{1, 0, -1}, edge{0, 2, 0}), graph(8, edge{0, 0, -1}, edge{8, 0, 0}), graph(8, edge{0, 0, -1}, edge{0, 8, 0}),
	graph(1, edge{0, 0, -1}, edge{math.MinInt, 0, 0}), graph(1, edge{0, 0, -1}, edge{math.MaxInt, 0, 0}), graph(1, edge{0, 0, -1}, edge{0, math.MinInt, 0}), graph(1, edge{0, 0, -1}, edge{0, math.MaxInt, 0}),
	graph(1, edge{0, 0, 1000000}), graph(1, edge{0, 0, -1000000}), graph(1, edge{0, 0, 1000001}), graph(1, edge{0, 0, -1000001}), graph(1, edge{0, 0, math.MaxInt}), graph(1, edge{0, 0, math.MinInt}),
	graph(2, edge{0, 0, -1}, edge{0, 1, 1000000}), graph(2, edge{0, 0, -1}, edge{0, 1, -1000000}), graph(2, edge{0, 1, math.MinInt}, edge{0, 0, -1}), graph(2, edge{0, 1, math.MaxInt}, edge{0, 0, -1}),
	graph(3, edge{3, 0, -1}, edge{0, 0, -1}), graph(3, edge{0, 0, -1}, edge{3, 3, -1}, edge{0, 0, -1}),
	repeated(81), repeated(82), repeated(1000), {Nodes: 1, Edges: make([]impl.Edge, 81)},
}

// smallGraphs calls visit with each graph of this many nodes and edges whose weights are among these.
func smallGraphs(nodes, edges int, weights []int, visit func(g impl.Graph)) {
	g := impl.Graph{Nodes: nodes, Edges: make([]impl.Edge, edges)}
	var from func(i int)
	from = func(i int) {
		if i == edges {
			visit(g)
			return
		}
		for pair := range nodes * nodes {
			for _, w := range weights {
				g.Edges[i] = impl.Edge{From: pair / nodes, To: pair % nodes, Weight: w}
				from(i + 1)
			}
		}
	}
	from(0)
}

// everySmallGraph calls visit with each of many small graphs.
func everySmallGraph(visit func(g impl.Graph)) {
	for nodes := range 4 {
		for edges := range 4 {
			smallGraphs(nodes, edges, []int{-1, 0, 1}, visit)
		}
	}
	smallGraphs(2, 4, []int{-2, -1, 1}, visit)
	smallGraphs(2, 3, []int{-999999, -2, 1, 999999}, visit)
}

// variousGraphs calls visit with some thousand larger graphs, the same ones in every run.
func variousGraphs(visit func(g impl.Graph)) {
	r := rand.New(rand.NewSource(3))
	ranges := [][2]int{{-1, 1}, {-1, 5}, {-2, 20}, {-3, 9}, {0, 4}, {8, 20}, {-999999, 999999}, {-100000, 999999}, {-4, 4}, {5, 40}, {999990, 999999}, {-999999, -999990}}
	for k := range 6000 {
		g := impl.Graph{Nodes: 1 + r.Intn(8)}
		edges := r.Intn(3 * g.Nodes)
		if k%20 == 0 {
			edges = r.Intn(81)
		}
		low, high := ranges[k%len(ranges)][0], ranges[k%len(ranges)][1]
		for range edges {
			g.Edges = append(g.Edges, impl.Edge{From: r.Intn(g.Nodes), To: r.Intn(g.Nodes), Weight: low + r.Intn(high-low+1)})
		}
		if low >= -4 && r.Intn(3) == 0 {
			g.Edges = append(g.Edges, nearRing(r, g.Nodes)...)
			r.Shuffle(len(g.Edges), func(i, k int) { g.Edges[i], g.Edges[k] = g.Edges[k], g.Edges[i] })
		}
		g.Edges = g.Edges[:min(len(g.Edges), 80)]
		visit(g)
	}
}

// nearRing returns a cycle through some of the nodes, whose sum is -1, 0 or 1.
func nearRing(r *rand.Rand, nodes int) []impl.Edge {
	order := r.Perm(nodes)[:1+r.Intn(nodes)]
	var edges []impl.Edge
	rest := r.Intn(3) - 1
	for k, n := range order {
		edges = append(edges, impl.Edge{From: n, To: order[(k+1)%len(order)], Weight: r.Intn(20)})
		rest -= edges[k].Weight
	}
	edges[r.Intn(len(edges))].Weight += rest
	return edges
}

func TestGraphTypes(t *testing.T) {
	if impl.MaxNodes != 8 || impl.MaxEdges != 80 {
		t.Errorf("MaxNodes = %d, MaxEdges = %d", impl.MaxNodes, impl.MaxEdges)
	}
	g := impl.Graph{Nodes: 2, Edges: []impl.Edge{{From: 0, To: 1, Weight: -7}}}
	if g.Nodes != 2 || g.Edges[0] != (impl.Edge{From: 0, To: 1, Weight: -7}) || g.Edges[0] == (impl.Edge{From: 1, To: 0, Weight: -7}) {
		t.Error("a graph is not its Nodes and Edges")
	}
}

func TestGraphOk(t *testing.T) {
	for _, g := range validGraphs {
		if !impl.GraphOk(g) || !isGraph(g) {
			t.Errorf("GraphOk(%v) = %v", g, impl.GraphOk(g))
		}
	}
	for _, g := range invalidGraphs {
		if impl.GraphOk(g) || isGraph(g) {
			t.Errorf("GraphOk(%v) = %v", g, impl.GraphOk(g))
		}
	}
}

func TestGraphOkOfEveryNumber(t *testing.T) {
	numbers := []int{
		math.MinInt, math.MinInt + 1, -1000001, -1000000, -999999, -81, -9, -8, -2, -1,
		0, 1, 2, 3, 7, 8, 9, 79, 80, 81, 999999, 1000000, 1000001, math.MaxInt - 1, math.MaxInt,
	}
	for _, nodes := range numbers {
		for _, n := range numbers {
			for _, g := range []impl.Graph{
				graph(nodes), graph(nodes, edge{n, 0, 0}), graph(nodes, edge{0, n, 0}), graph(nodes, edge{n, n, 1}), graph(nodes, edge{0, 0, n}),
				graph(nodes, edge{0, 0, 0}, edge{n, 0, 0}, edge{0, 0, 0}), graph(nodes, edge{0, 0, 0}, edge{0, n, 0}), graph(nodes, edge{0, 0, n}, edge{0, 0, 0}),
			} {
				if got := impl.GraphOk(g); got != isGraph(g) {
					t.Errorf("GraphOk(%v) = %v", g, got)
				}
			}
		}
	}
	for edges := range 200 {
		if got := impl.GraphOk(repeated(edges)); got != (edges <= 80) {
			t.Errorf("GraphOk is %v for %d edges", got, edges)
		}
	}
}

func TestShortestFrom(t *testing.T) {
	const far = 1000000
	for _, c := range []struct {
		g      impl.Graph
		source int
		want   []int
	}{
		{graph(1), 0, []int{0}}, {graph(3), 0, []int{0, far, far}}, {graph(3), 2, []int{far, far, 0}}, {graph(8), 7, []int{far, far, far, far, far, far, far, 0}},
		{impl.Graph{Nodes: 2, Edges: []impl.Edge{}}, 1, []int{far, 0}},
		{graph(3, edge{0, 1, 4}, edge{1, 2, -1}, edge{0, 2, 5}), 0, []int{0, 4, 3}}, {graph(3, edge{0, 1, 4}, edge{1, 2, -1}, edge{0, 2, 5}), 1, []int{far, 0, -1}},
		{graph(3, edge{0, 1, 4}, edge{1, 2, -1}, edge{0, 2, 5}), 2, []int{far, far, 0}}, {graph(3, edge{0, 1, 4}, edge{1, 2, 2}, edge{0, 2, 5}), 0, []int{0, 4, 5}},
		// Several edges between the same nodes.
		{graph(2, edge{0, 1, 4}, edge{0, 1, 2}, edge{0, 1, 3}), 0, []int{0, 2}}, {graph(2, edge{0, 1, 4}, edge{0, 1, -2}, edge{1, 0, 2}, edge{1, 0, 9}), 1, []int{2, 0}},
		// Edges from a node to itself.
		{graph(1, edge{0, 0, 0}), 0, []int{0}}, {graph(1, edge{0, 0, 7}), 0, []int{0}}, {graph(2, edge{1, 1, 3}, edge{0, 1, -4}, edge{0, 0, 0}), 0, []int{0, -4}},
		// Cycles whose sum is 0 or positive.
		{graph(2, edge{0, 1, 3}, edge{1, 0, -3}), 0, []int{0, 3}}, {graph(2, edge{0, 1, 3}, edge{1, 0, -3}), 1, []int{-3, 0}}, {graph(2, edge{0, 1, -3}, edge{1, 0, 4}), 0, []int{0, -3}},
		{ring(8, 0), 5, []int{0, 0, 0, 0, 0, 0, 0, 0}}, {ring(8, 1), 3, []int{5, 6, 7, 0, 1, 2, 3, 4}},
		// A path that goes through every node, whose edges are examined backwards: each round reaches one node more.
		{graph(8, edge{6, 7, -1}, edge{5, 6, -1}, edge{4, 5, -1}, edge{3, 4, -1}, edge{2, 3, -1}, edge{1, 2, -1}, edge{0, 1, -1}), 0, []int{0, -1, -2, -3, -4, -5, -6, -7}},
		{graph(8, edge{0, 7, 9}, edge{6, 7, 1}, edge{5, 6, 1}, edge{4, 5, 1}, edge{3, 4, 1}, edge{2, 3, 1}, edge{1, 2, 1}, edge{0, 1, 1}), 0, []int{0, 1, 2, 3, 4, 5, 6, 7}},
		// Sums about Inf, and below -Inf.
		{graph(2, edge{0, 1, 999999}), 0, []int{0, 999999}}, {graph(3, edge{0, 1, 999999}, edge{1, 2, 1}), 0, []int{0, 999999, far}}, {graph(3, edge{0, 1, 999999}, edge{1, 2, 0}), 0, []int{0, 999999, 999999}},
		{graph(3, edge{0, 1, 999998}, edge{1, 2, 1}), 0, []int{0, 999998, 999999}}, {graph(3, edge{0, 1, 999999}, edge{1, 2, 2}), 0, []int{0, 999999, far}}, {graph(3, edge{0, 1, 999999}, edge{1, 2, 999999}), 0, []int{0, 999999, far}},
		{graph(4, edge{0, 1, 999999}, edge{1, 2, 999999}, edge{2, 3, -999999}), 0, []int{0, 999999, far, 999999}}, {graph(4, edge{0, 1, 999999}, edge{1, 2, 1}, edge{2, 3, -1}), 0, []int{0, 999999, far, 999999}},
		{graph(4, edge{2, 3, -999999}, edge{1, 2, 999999}, edge{0, 1, 999999}), 0, []int{0, 999999, far, 999999}}, {graph(4, edge{0, 1, 999999}, edge{1, 2, 1}, edge{2, 3, 0}), 0, []int{0, 999999, far, far}},
		{graph(5, edge{0, 1, 999999}, edge{1, 2, 999999}, edge{2, 3, 999999}, edge{3, 4, -999999}), 0, []int{0, 999999, far, far, far}},
		{graph(3, edge{0, 1, -999999}, edge{1, 2, -1}), 0, []int{0, -999999, -1000000}}, {graph(3, edge{0, 1, -999999}, edge{1, 2, -2}), 0, []int{0, -999999, -1000001}},
		{graph(4, edge{0, 1, -999999}, edge{1, 2, -999999}, edge{2, 3, 999999}), 0, []int{0, -999999, -1999998, -999999}}, {graph(3, edge{0, 1, -999999}, edge{1, 2, -999999}, edge{2, 0, 999999}), 1, nil},
		{graph(8, edge{0, 1, -999999}, edge{1, 2, -999999}, edge{2, 3, -999999}, edge{3, 4, -999999}, edge{4, 5, -999999}, edge{5, 6, -999999}, edge{6, 7, -999999}), 0,
			[]int{0, -999999, -1999998, -2999997, -3999996, -4999995, -5999994, -6999993}},
		{graph(8, edge{0, 1, 999999}, edge{1, 2, 999999}, edge{2, 3, 999999}, edge{3, 4, -999999}, edge{4, 5, -999999}, edge{5, 6, -999999}, edge{6, 7, -999999}), 0,
			[]int{0, 999999, far, far, far, 999999, 0, -999999}},
		// An edge of a node that no path reaches, however small its weight.
		{graph(3, edge{1, 2, -999999}), 0, []int{0, far, far}}, {graph(3, edge{1, 2, -5}, edge{2, 0, -5}), 0, []int{0, far, far}}, {graph(3, edge{1, 0, -5}, edge{0, 2, 3}), 0, []int{0, far, 3}},
		// A negative cycle that the source reaches.
		{graph(1, edge{0, 0, -1}), 0, nil}, {graph(1, edge{0, 0, -999999}), 0, nil}, {graph(2, edge{0, 1, 3}, edge{1, 1, -1}), 0, nil}, {graph(2, edge{0, 1, 3}, edge{1, 0, -4}), 0, nil}, {graph(2, edge{0, 1, 3}, edge{1, 0, -4}), 1, nil},
		{graph(4, edge{0, 1, 999999}, edge{1, 2, 999999}, edge{2, 3, 1}, edge{3, 2, -2}), 0, nil}, {graph(3, edge{0, 0, 1}, edge{0, 0, -1}, edge{0, 1, 1}), 0, nil}, {ring(8, -1), 4, nil},
		{graph(8, edge{0, 1, 1}, edge{1, 2, 1}, edge{2, 3, 1}, edge{3, 4, 1}, edge{4, 5, 1}, edge{5, 6, 1}, edge{6, 7, 1}, edge{7, 0, -8}), 0, nil},
		{graph(8, edge{0, 1, 1}, edge{1, 2, 1}, edge{2, 3, 1}, edge{3, 4, 1}, edge{4, 5, 1}, edge{5, 6, 1}, edge{6, 7, 1}, edge{7, 0, -7}), 0, []int{0, 1, 2, 3, 4, 5, 6, 7}},
		{graph(8, edge{7, 7, -1}, edge{6, 7, 1}, edge{5, 6, 1}, edge{4, 5, 1}, edge{3, 4, 1}, edge{2, 3, 1}, edge{1, 2, 1}, edge{0, 1, 1}), 0, nil},
		// A negative cycle that the source does not reach.
		{graph(2, edge{1, 1, -1}), 0, []int{0, far}}, {graph(2, edge{1, 1, -1}, edge{1, 0, -3}), 0, []int{0, far}}, {graph(2, edge{1, 1, -1}, edge{1, 0, -3}), 1, nil},
		{graph(4, edge{2, 3, 1}, edge{3, 2, -2}, edge{2, 0, -1}, edge{0, 1, 6}), 0, []int{0, 6, far, far}}, {graph(4, edge{2, 3, 1}, edge{3, 2, -2}, edge{2, 0, -1}, edge{0, 1, 6}), 1, []int{far, 0, far, far}},
	} {
		got, ok := impl.ShortestFrom(c.g, c.source)
		if !slices.Equal(got, c.want) || ok != (c.want != nil) {
			t.Errorf("ShortestFrom(%v, %d) = %v, %v, want %v", c.g, c.source, got, ok, c.want)
		}
	}
}

func TestShortestFromRefuses(t *testing.T) {
	for _, g := range invalidGraphs {
		for _, source := range []int{-1, 0, 1, 8} {
			if got, ok := impl.ShortestFrom(g, source); len(got) != 0 || ok {
				t.Errorf("ShortestFrom(%v, %d) = %v, %v", g, source, got, ok)
			}
		}
	}
	for _, g := range validGraphs {
		for _, source := range []int{math.MinInt, -2, -1, g.Nodes, g.Nodes + 1, 8, 9, math.MaxInt} {
			if got, ok := impl.ShortestFrom(g, source); len(got) != 0 || ok {
				t.Errorf("ShortestFrom(%v, %d) = %v, %v", g, source, got, ok)
			}
		}
	}
}

// paths calls visit with each path from a node on that visits no node twice, and each edge of a cycle that closes one of them.
func paths(g impl.Graph, node, sum int, sums map[int]int, visit func(node, sum int), closed func(sum int)) {
	sums[node] = sum
	visit(node, sum)
	for _, e := range g.Edges {
		if before, on := sums[e.To]; e.From == node && on {
			closed(sum + e.Weight - before)
		} else if e.From == node {
			paths(g, e.To, sum+e.Weight, sums, visit, closed)
		}
	}
	delete(sums, node)
}

// leastSums is what the document says of ShortestFrom, by looking at all paths and cycles.
func leastSums(g impl.Graph, source int) ([]int, bool) {
	least := map[int]int{}
	negative := false
	paths(g, source, 0, map[int]int{}, func(node, sum int) {
		if l, ok := least[node]; !ok || sum < l {
			least[node] = sum
		}
	}, func(sum int) { negative = negative || sum < 0 })
	if negative {
		return nil, false
	}
	list := make([]int, g.Nodes)
	for n := range list {
		list[n] = 1000000
		if l, ok := least[n]; ok && l < 1000000 {
			list[n] = l
		}
	}
	return list, true
}

func checkShortest(t *testing.T, g impl.Graph, sums func(g impl.Graph, source int) ([]int, bool)) {
	for source := range g.Nodes {
		want, is := sums(g, source)
		got, ok := impl.ShortestFrom(g, source)
		if !slices.Equal(got, want) || ok != is {
			t.Fatalf("ShortestFrom(%v, %d) = %v, %v, want %v, %v", g, source, got, ok, want, is)
		}
	}
}

func TestDistancesOfEverySmallGraph(t *testing.T) {
	everySmallGraph(func(g impl.Graph) { checkShortest(t, g, leastSums) })
}

// tableSums computes the distances in a table of all pairs of nodes, through one more node at a time.
func tableSums(g impl.Graph, source int) ([]int, bool) {
	const none = math.MaxInt / 2
	var d [8][8]int
	for i := range d {
		for k := range d[i] {
			d[i][k] = none
		}
		d[i][i] = 0
	}
	for _, e := range g.Edges {
		d[e.From][e.To] = min(d[e.From][e.To], e.Weight)
	}
	for j := range g.Nodes {
		for i := range g.Nodes {
			for k := range g.Nodes {
				if d[i][j] != none && d[j][k] != none {
					d[i][k] = max(min(d[i][k], d[i][j]+d[j][k]), -none) // a negative cycle doubles its sum with each node
				}
			}
		}
	}
	list := make([]int, g.Nodes)
	for n := range list {
		if d[source][n] != none && d[n][n] < 0 {
			return nil, false
		}
		list[n] = min(d[source][n], 1000000)
	}
	return list, true
}

func TestDistancesOfVariousGraphs(t *testing.T) {
	everySmallGraph(func(g impl.Graph) { checkShortest(t, g, tableSums) })
	found, refused := 0, 0
	variousGraphs(func(g impl.Graph) {
		checkShortest(t, g, tableSums)
		if _, ok := impl.ShortestFrom(g, 0); ok {
			found++
		} else {
			refused++
		}
	})
	if found < 1000 || refused < 1000 {
		t.Errorf("%d graphs with distances and %d without are too few", found, refused)
	}
}

// No edge allows a lesser number, and each number is reached by an edge that is tight: these numbers are the least sums.
func TestDistancesKeepTheEdges(t *testing.T) {
	variousGraphs(func(g impl.Graph) {
		for source := range g.Nodes {
			d, ok := impl.ShortestFrom(g, source)
			if !ok {
				continue
			}
			if d[source] != 0 {
				t.Fatalf("ShortestFrom(%v, %d) = %v", g, source, d)
			}
			for _, e := range g.Edges {
				if d[e.From] < 1000000 && d[e.To] > d[e.From]+e.Weight {
					t.Fatalf("ShortestFrom(%v, %d) = %v, against %v", g, source, d, e)
				}
			}
		}
	})
}

// writtenCycle computes NegativeCycle as the document writes it, in full rounds.
func writtenCycle(g impl.Graph) []int {
	number, last := make([]int, g.Nodes), make([]int, g.Nodes)
	for n := range last {
		last[n] = -1
	}
	changed := -1
	for range g.Nodes {
		changed = -1
		for i := 0; i < len(g.Edges); i++ {
			if number[g.Edges[i].From]+g.Edges[i].Weight < number[g.Edges[i].To] {
				number[g.Edges[i].To] = number[g.Edges[i].From] + g.Edges[i].Weight
				last[g.Edges[i].To] = i
				changed = i
			}
		}
	}
	if changed == -1 {
		return nil
	}
	node := g.Edges[changed].To
	for range g.Nodes {
		node = g.Edges[last[node]].From
	}
	var back []int
	for at := node; len(back) == 0 || at != node; {
		back = append(back, last[at])
		at = g.Edges[last[at]].From
	}
	var cycle []int
	for k := len(back) - 1; k >= 0; k-- {
		cycle = append(cycle, back[k])
	}
	return cycle
}

// The wanted cycles are worked out by hand from the document's rounds.
func TestNegativeCycle(t *testing.T) {
	for _, c := range []struct {
		g    impl.Graph
		want []int
	}{
		{graph(0), nil}, {graph(1), nil}, {graph(8), nil}, {impl.Graph{Nodes: 3, Edges: []impl.Edge{}}, nil},
		// Edges from a node to itself.
		{graph(1, edge{0, 0, -1}), []int{0}}, {graph(1, edge{0, 0, 0}), nil}, {graph(1, edge{0, 0, 1}), nil}, {graph(1, edge{0, 0, -999999}), []int{0}}, {graph(8, edge{0, 1, 1}, edge{7, 7, -1}), []int{1}},
		{graph(1, edge{0, 0, -1}, edge{0, 0, -2}), []int{1}}, {graph(1, edge{0, 0, 1}, edge{0, 0, -2}, edge{0, 0, 0}), []int{1}}, {graph(3, edge{0, 0, -1}, edge{1, 1, -1}, edge{2, 2, 1}), []int{1}},
		// No cycle, cycles whose sum is 0, and cycles whose sum is positive.
		{graph(3, edge{0, 1, 4}, edge{1, 2, -1}, edge{0, 2, 5}), nil}, {graph(3, edge{0, 1, -4}, edge{1, 2, -1}, edge{0, 2, -5}), nil}, {graph(2, edge{0, 1, -999999}), nil},
		{graph(2, edge{0, 1, 3}, edge{1, 0, -3}), nil}, {graph(2, edge{0, 1, -999999}, edge{1, 0, 999999}), nil}, {graph(2, edge{0, 1, -3}, edge{1, 0, 4}), nil}, {ring(8, 0), nil}, {ring(8, 1), nil},
		{graph(3, edge{0, 1, 2}, edge{1, 2, -3}, edge{2, 0, 1}), nil}, {graph(8, edge{0, 1, 1}, edge{1, 2, 1}, edge{2, 3, 1}, edge{3, 4, 1}, edge{4, 5, 1}, edge{5, 6, 1}, edge{6, 7, 1}, edge{7, 0, -7}), nil},
		// A path that goes through every node, whose edges are examined backwards: numbers change in all rounds but the last.
		{graph(4, edge{2, 3, -1}, edge{1, 2, -1}, edge{0, 1, -1}), nil}, {graph(8, edge{6, 7, -1}, edge{5, 6, -1}, edge{4, 5, -1}, edge{3, 4, -1}, edge{2, 3, -1}, edge{1, 2, -1}, edge{0, 1, -1}), nil},
		// Two nodes. The last edge to change a number leads to 0, two steps back are 0 again, and edge 0 leaves it.
		{graph(2, edge{0, 1, -1}, edge{1, 0, 0}), []int{0, 1}}, {graph(2, edge{0, 1, 3}, edge{1, 0, -4}), []int{0, 1}},
		// Here it leads to 1.
		{graph(2, edge{1, 0, 0}, edge{0, 1, -1}), []int{0, 1}}, {graph(2, edge{1, 0, -4}, edge{0, 1, 3}), []int{0, 1}},
		// The last edge of all changes nothing.
		{graph(2, edge{0, 0, -1}, edge{0, 1, 5}), []int{0}}, {graph(2, edge{0, 1, -1}, edge{1, 0, 0}, edge{0, 1, 7}), []int{0, 1}},
		// Three nodes and three steps: the result begins at the node to which the last edge leads, 0, then 2, then 1, then 0 again.
		{graph(3, edge{0, 1, -1}, edge{1, 2, -1}, edge{2, 0, -1}), []int{0, 1, 2}}, {graph(3, edge{2, 0, -1}, edge{0, 1, -1}, edge{1, 2, -1}), []int{0, 1, 2}}, {graph(3, edge{2, 0, -1}, edge{1, 2, -1}, edge{0, 1, -1}), []int{1, 0, 2}},
		{graph(3, edge{0, 1, 4}, edge{1, 2, -1}, edge{0, 2, 5}, edge{2, 0, -4}), []int{0, 1, 3}},
		// A ring of three among four nodes: four steps back from 0 are one more than around, so 2 is reached.
		{graph(4, edge{0, 1, -1}, edge{1, 2, -1}, edge{2, 0, -1}), []int{2, 0, 1}}, {graph(5, edge{0, 1, -1}, edge{1, 2, -1}, edge{2, 0, -1}), []int{1, 2, 0}}, {graph(6, edge{0, 1, -1}, edge{1, 2, -1}, edge{2, 0, -1}), []int{0, 1, 2}},
		// A ring of two, and a tail that leads away from its node 1: the way back begins at the end of the tail, and leads to 1.
		{graph(3, edge{0, 1, -1}, edge{1, 0, -1}, edge{1, 2, -1}), []int{1, 0}}, {graph(4, edge{0, 1, -1}, edge{1, 0, -1}, edge{1, 2, -1}, edge{2, 3, -1}), []int{1, 0}},
		// Once more with a node more, to which no edge leads: now to 0.
		{graph(4, edge{0, 1, -1}, edge{1, 0, -1}, edge{1, 2, -1}), []int{0, 1}},
		// Several edges between the same nodes: the last edge is the last one that changed the number, and an equal sum does not change it.
		{graph(2, edge{0, 1, -1}, edge{0, 1, -1}, edge{1, 0, 0}), []int{0, 2}}, {graph(2, edge{0, 1, -1}, edge{0, 1, -2}, edge{1, 0, 0}), []int{1, 2}}, {graph(2, edge{0, 1, -2}, edge{0, 1, -1}, edge{1, 0, 0}), []int{0, 2}},
		// Two negative cycles apart from each other: the result is the one that changes a number last.
		{graph(2, edge{0, 0, -1}, edge{1, 1, -5}), []int{1}}, {graph(2, edge{1, 1, -5}, edge{0, 0, -1}), []int{1}}, {graph(4, edge{0, 1, -1}, edge{1, 0, 0}, edge{2, 3, 0}, edge{3, 2, -9}), []int{2, 3}},
		{graph(4, edge{2, 3, 0}, edge{3, 2, -9}, edge{0, 1, -1}, edge{1, 0, 0}), []int{2, 3}}, {graph(4, edge{0, 1, 5}, edge{1, 0, -9}, edge{2, 3, -1}, edge{3, 2, 0}), []int{2, 3}},
		// Two apart, and after them an edge that changes nothing: the last change is at 1, from which three steps back lead to 2.
		{graph(3, edge{0, 0, -1}, edge{1, 2, -1}, edge{2, 1, 0}, edge{0, 0, 0}), []int{2, 1}},
		// Two negative cycles through node 0: edge 3 is the last one to change its number, whichever of the two it belongs to.
		{graph(3, edge{0, 1, -1}, edge{1, 0, 0}, edge{0, 2, -1}, edge{2, 0, 0}), []int{3, 2}}, {graph(3, edge{0, 2, -1}, edge{2, 0, 0}, edge{0, 1, -1}, edge{1, 0, 0}), []int{3, 2}},
		{graph(1, edge{0, 0, -5}, edge{0, 0, -1}), []int{1}},
	} {
		if got := impl.NegativeCycle(c.g); !slices.Equal(got, c.want) {
			t.Errorf("NegativeCycle(%v) = %v, want %v (as written: %v)", c.g, got, c.want, writtenCycle(c.g))
		}
	}
}

func TestNegativeCycleOfInvalidGraphs(t *testing.T) {
	for _, g := range invalidGraphs {
		if got := impl.NegativeCycle(g); len(got) != 0 {
			t.Errorf("NegativeCycle(%v) = %v", g, got)
		}
	}
}

func checkNegativeCycle(t *testing.T, g impl.Graph, negative bool) {
	got := impl.NegativeCycle(g)
	if want := writtenCycle(g); !slices.Equal(got, want) {
		t.Fatalf("NegativeCycle(%v) = %v, want %v", g, got, want)
	}
	if (len(got) > 0) != negative {
		t.Fatalf("NegativeCycle(%v) = %v, but it is %v that there is one", g, got, negative)
	}
	if negative && (!isNegativeWalk(g, got) || !impl.IsNegativeCycle(g, got) || impl.PathWeight(g, got) >= 0) {
		t.Fatalf("NegativeCycle(%v) = %v is no negative cycle", g, got)
	}
	seen := map[int]bool{}
	for _, i := range got {
		if seen[g.Edges[i].From] {
			t.Fatalf("NegativeCycle(%v) = %v visits node %d twice", g, got, g.Edges[i].From)
		}
		seen[g.Edges[i].From] = true
	}
}

// hasNegativeCycle reports whether one of these distances fails.
func hasNegativeCycle(g impl.Graph, sums func(g impl.Graph, source int) ([]int, bool)) bool {
	for source := range g.Nodes {
		if _, ok := sums(g, source); !ok {
			return true
		}
	}
	return false
}

func TestNegativeCycleOfEverySmallGraph(t *testing.T) {
	everySmallGraph(func(g impl.Graph) { checkNegativeCycle(t, g, hasNegativeCycle(g, leastSums)) })
}

func TestNegativeCycleOfVariousGraphs(t *testing.T) {
	long := 0
	variousGraphs(func(g impl.Graph) {
		checkNegativeCycle(t, g, hasNegativeCycle(g, tableSums))
		if len(impl.NegativeCycle(g)) > 3 {
			long++
		}
	})
	if long < 100 {
		t.Errorf("%d graphs with a cycle of more than three edges are too few", long)
	}
}

func TestNegativeCycleOfRings(t *testing.T) {
	for nodes := 1; nodes <= 8; nodes++ {
		for size := 1; size <= nodes; size++ {
			for _, weight := range []int{-999999, -1, 0, 1, 999999} {
				g := ring(size, weight)
				g.Nodes = nodes
				checkNegativeCycle(t, g, weight < 0)
				slices.Reverse(g.Edges)
				checkNegativeCycle(t, g, weight < 0)
				g.Edges[size/2].Weight = max(-999999, min(-weight*(size-1), 999999))
				checkNegativeCycle(t, g, weight*(size-1)+g.Edges[size/2].Weight < 0)
			}
		}
	}
}

// isNegativeWalk is what the document says of IsNegativeCycle for a valid graph.
func isNegativeWalk(g impl.Graph, cycle []int) bool {
	for _, i := range cycle {
		if !isEdge(g, i) {
			return false
		}
	}
	sum := 0
	for k, i := range cycle {
		next := cycle[0]
		if k+1 < len(cycle) {
			next = cycle[k+1]
		}
		if g.Edges[i].To != g.Edges[next].From {
			return false
		}
		sum += g.Edges[i].Weight
	}
	return sum < 0
}

// twoRings has two cycles through node 0: 0, 1, 2 with the sum -1, and 3, 4 with the sum 2; 5 and 6 lead from 1 to itself.
var twoRings = graph(4, edge{0, 1, 4}, edge{1, 2, -6}, edge{2, 0, 1}, edge{0, 3, 5}, edge{3, 0, -3}, edge{1, 1, -1}, edge{1, 1, 0}, edge{2, 0, 2}, edge{2, 0, 3})

func TestIsNegativeCycle(t *testing.T) {
	for _, c := range [][]int{
		{0, 1, 2}, {1, 2, 0}, {2, 0, 1}, {5}, {5, 5}, {5, 6}, {6, 5}, {5, 6, 6, 6, 5}, {0, 5, 1, 2}, {0, 5, 1, 7}, {0, 6, 1, 2}, {0, 5, 5, 1, 8},
		{0, 1, 2, 0, 1, 2}, {0, 1, 2, 0, 1, 7}, {0, 1, 7, 0, 5, 1, 7}, {0, 1, 2, 0, 1, 2, 0, 1, 2, 3, 4}, {3, 4, 0, 1, 2, 0, 1, 2, 0, 1, 2}, {4, 0, 5, 5, 5, 1, 2, 3},
	} {
		if !impl.IsNegativeCycle(twoRings, c) || !isNegativeWalk(twoRings, c) {
			t.Errorf("IsNegativeCycle(%v, %v) = false", twoRings, c)
		}
	}
	for _, c := range [][]int{
		nil, {}, {6}, {6, 6}, {0, 1, 7}, {0, 1, 8}, {3, 4}, {4, 3}, {0, 6, 1, 7}, {0, 5, 1, 8}, {0, 1, 2, 3, 4}, {0, 1, 2, 0, 1, 2, 3, 4}, {0, 1, 2, 0, 1, 8},
		{0}, {1}, {2}, {4}, {0, 1}, {1, 2}, {1, 0}, {1, 1}, {4, 4}, {2, 1, 0}, {0, 2, 1}, {0, 1, 2, 2}, {0, 0, 1, 2}, {0, 1, 2, 0}, {0, 1, 1, 2}, {5, 1}, {1, 5}, {5, 0, 1, 2}, {0, 1, 2, 5}, {0, 1, 5, 2}, {3, 1, 2}, {0, 1, 2, 4}, {0, 1, 4}, {0, 4, 1, 2},
		{-1}, {9}, {10}, {80}, {-9}, {math.MinInt}, {math.MaxInt}, {0, 1, 2, 9}, {0, 1, 2, -1}, {9, 0, 1, 2}, {-1, 0, 1, 2}, {0, -1, 1, 2}, {0, 9, 1, 2}, {0, 1, 9, 2}, {5, 9}, {5, -1}, {9, 5}, {-1, 5}, {5, math.MinInt, 5}, {math.MaxInt, 5}, {-1, -1}, {9, 9},
	} {
		if impl.IsNegativeCycle(twoRings, c) || isNegativeWalk(twoRings, c) {
			t.Errorf("IsNegativeCycle(%v, %v) = true", twoRings, c)
		}
	}
	for _, g := range []impl.Graph{{}, graph(1), graph(8)} {
		for _, c := range [][]int{nil, {}, {0}, {-1}, {1, 0}} {
			if impl.IsNegativeCycle(g, c) {
				t.Errorf("IsNegativeCycle(%v, %v) = true", g, c)
			}
		}
	}
}

func TestIsNegativeCycleOfInvalidGraphs(t *testing.T) {
	for _, g := range invalidGraphs {
		for _, c := range [][]int{nil, {}, {0}, {1}, {2}, {0, 1}, {1, 0}, {0, 0}} {
			if impl.IsNegativeCycle(g, c) {
				t.Errorf("IsNegativeCycle(%v, %v) = true", g, c)
			}
		}
	}
	// The cycle itself is one: what else the graph holds makes it invalid.
	loop := edge{0, 0, -1}
	for _, g := range []impl.Graph{graph(9, loop), graph(1, loop, edge{0, 1, 0}), graph(1, loop, edge{-1, 0, 0}), graph(1, loop, edge{0, 0, 1000000}), graph(1, loop, edge{0, 0, -1000000}), {Nodes: 1, Edges: slices.Repeat(graph(1, loop).Edges, 81)}} {
		if impl.IsNegativeCycle(g, []int{0}) {
			t.Errorf("IsNegativeCycle(%v, [0]) = true", g)
		}
	}
	if full := (impl.Graph{Nodes: 1, Edges: slices.Repeat(graph(1, loop).Edges, 80)}); !impl.IsNegativeCycle(full, []int{79}) || !impl.IsNegativeCycle(full, []int{0}) || impl.IsNegativeCycle(full, []int{80}) {
		t.Error("IsNegativeCycle is wrong for 80 edges")
	}
}

func TestIsNegativeCycleOfLongWalks(t *testing.T) {
	for _, times := range []int{26, 27, 28, 100, 5000} {
		walk := slices.Repeat([]int{1, 2, 0}, times)
		if !impl.IsNegativeCycle(twoRings, walk) {
			t.Errorf("IsNegativeCycle is false for a cycle that is followed %d times", times)
		}
		if impl.IsNegativeCycle(twoRings, walk[:len(walk)-1]) || impl.IsNegativeCycle(twoRings, walk[1:]) || impl.IsNegativeCycle(twoRings, append(walk, 9)) {
			t.Errorf("IsNegativeCycle is true for a walk of %d edges that is not closed", 3*times-1)
		}
	}
	if far := ring(8, -999999); !impl.IsNegativeCycle(far, slices.Repeat([]int{0, 1, 2, 3, 4, 5, 6, 7}, 5000)) || impl.IsNegativeCycle(ring(8, 999999), slices.Repeat([]int{0, 1, 2, 3, 4, 5, 6, 7}, 5000)) {
		t.Error("IsNegativeCycle is wrong for sums beyond the bounds")
	}
}

// everyWalk calls visit with each list of at most most indices, from one below those of edges to one above.
func everyWalk(edges, most int, visit func(walk []int)) {
	walk := []int{}
	var more func()
	more = func() {
		visit(walk)
		if len(walk) == most {
			return
		}
		for i := -1; i <= edges; i++ {
			walk = append(walk, i)
			more()
			walk = walk[:len(walk)-1]
		}
	}
	more()
}

func TestEveryShortWalk(t *testing.T) {
	check := func(g impl.Graph, walk []int) {
		if got := impl.IsNegativeCycle(g, walk); got != isNegativeWalk(g, walk) {
			t.Fatalf("IsNegativeCycle(%v, %v) = %v", g, walk, got)
		}
		sum := 0
		for _, i := range walk {
			if isEdge(g, i) {
				sum += g.Edges[i].Weight
			}
		}
		if got := impl.PathWeight(g, walk); got != sum {
			t.Fatalf("PathWeight(%v, %v) = %d, want %d", g, walk, got, sum)
		}
	}
	for _, g := range []impl.Graph{twoRings, graph(0), graph(1, edge{0, 0, -1}), graph(2, edge{0, 1, 999999}, edge{1, 0, -999999}, edge{1, 1, -1}), ring(5, -2)} {
		everyWalk(len(g.Edges), 4, func(walk []int) { check(g, walk) })
	}
	smallGraphs(3, 2, []int{-1, 1}, func(g impl.Graph) {
		everyWalk(2, 4, func(walk []int) { check(g, walk) })
	})
}

func TestPathWeight(t *testing.T) {
	g := graph(3, edge{0, 1, 4}, edge{1, 2, -1}, edge{0, 2, 5}, edge{2, 2, 0}, edge{0, 1, 999999}, edge{1, 0, -999999})
	for _, c := range []struct {
		path []int
		want int
	}{
		{nil, 0}, {[]int{}, 0}, {[]int{0}, 4}, {[]int{1}, -1}, {[]int{3}, 0}, {[]int{0, 1}, 3}, {[]int{1, 0}, 3}, {[]int{0, 1, 2, 3}, 8},
		// The edges need not join, and may be repeated.
		{[]int{0, 2}, 9}, {[]int{2, 0, 2}, 14}, {[]int{0, 0}, 8}, {[]int{1, 1, 1}, -3}, {[]int{4, 5}, 0}, {[]int{4, 4}, 1999998}, {[]int{5, 5, 5}, -2999997},
		// Elements that are no index.
		{[]int{-1}, 0}, {[]int{6}, 0}, {[]int{0, 9}, 4}, {[]int{9, 0}, 4}, {[]int{-1, 0}, 4}, {[]int{0, -1, 1, 6, 2, 80}, 8}, {[]int{math.MinInt, 1, math.MaxInt}, -1}, {[]int{6, -6, 7}, 0},
		{slices.Repeat([]int{0}, 79), 316}, {slices.Repeat([]int{0}, 80), 320}, {slices.Repeat([]int{0}, 81), 0}, {slices.Repeat([]int{0}, 82), 0}, {slices.Repeat([]int{0}, 5000), 0},
		{slices.Repeat([]int{4}, 80), 79999920}, {slices.Repeat([]int{5}, 80), -79999920}, {slices.Repeat([]int{5}, 81), 0}, {slices.Repeat([]int{0, -1}, 40), 160},
		// Elements that are no index count as elements.
		{append(slices.Repeat([]int{-1}, 79), 0), 4}, {append(slices.Repeat([]int{-1}, 80), 0), 0}, {append([]int{0}, slices.Repeat([]int{99}, 79)...), 4}, {append([]int{0}, slices.Repeat([]int{99}, 80)...), 0},
	} {
		if got := impl.PathWeight(g, c.path); got != c.want {
			t.Errorf("PathWeight of %v = %d, want %d", c.path, got, c.want)
		}
	}
	for _, empty := range []impl.Graph{{}, graph(8), {Edges: []impl.Edge{}}} {
		if got := impl.PathWeight(empty, []int{0, -1, 1}); got != 0 {
			t.Errorf("PathWeight(%v, [0 -1 1]) = %d", empty, got)
		}
	}
	if got := impl.PathWeight(repeated(80), []int{79, 80, 1}); got != 80 {
		t.Errorf("PathWeight of 80 edges = %d, want 80", got)
	}
}

func TestPathWeightOfInvalidGraphs(t *testing.T) {
	for _, g := range append(invalidGraphs, graph(9, edge{0, 1, 5}, edge{1, 0, 7}), graph(2, edge{0, 1, 5}, edge{0, 2, 7}), graph(2, edge{0, 1, 1000000}, edge{1, 0, 3})) {
		for _, path := range [][]int{nil, {0}, {1}, {80}, {0, 1}, {0, 0, 1, 2}} {
			if got := impl.PathWeight(g, path); got != 0 {
				t.Errorf("PathWeight(%v, %v) = %d", g, path, got)
			}
		}
	}
}

func TestGraphArgumentsAreKept(t *testing.T) {
	for _, g := range []impl.Graph{twoRings, graph(3, edge{0, 1, 4}, edge{1, 2, -1}), ring(8, -1), ring(8, 1), graph(2, edge{1, 1, -1}), repeated(70), graph(1, edge{0, 0, 1000000}), graph(9, edge{0, 0, -1})} {
		// Behind both lists there is spare capacity, which must be kept as well.
		spare := append(slices.Clone(g.Edges), slices.Repeat([]impl.Edge{{From: 7, To: 7, Weight: -77}}, 20)...)
		indices := []int{5, 0, 1, 2, -1, 99, 0, 55, 66, 77}
		edges, list := slices.Clone(spare), slices.Clone(indices)
		g.Edges = spare[:len(g.Edges)]
		impl.GraphOk(g)
		for source := -1; source <= 8; source++ {
			impl.ShortestFrom(g, source)
		}
		impl.NegativeCycle(g)
		for length := range len(indices) {
			impl.IsNegativeCycle(g, indices[:length])
			impl.PathWeight(g, indices[:length])
		}
		if !slices.Equal(spare, edges) || !slices.Equal(indices, list) {
			t.Errorf("an argument has changed: %v, %v", spare, indices)
		}
	}
}

func TestGraphResultsAreNew(t *testing.T) {
	g := ring(8, 2)
	first, _ := impl.ShortestFrom(g, 0)
	kept := slices.Clone(first)
	second, _ := impl.ShortestFrom(g, 0)
	for i := range first {
		first[i] = -5
	}
	third, _ := impl.ShortestFrom(g, 0)
	if !slices.Equal(second, kept) || !slices.Equal(third, kept) || !slices.Equal(g.Edges, ring(8, 2).Edges) {
		t.Errorf("a list of distances is shared: %v, %v, %v", second, third, g)
	}
	n := ring(8, -2)
	before := impl.NegativeCycle(n)
	cycle := slices.Clone(before)
	after := impl.NegativeCycle(n)
	for i := range before {
		before[i] = -5
	}
	if !slices.Equal(after, cycle) || !slices.Equal(impl.NegativeCycle(n), cycle) || !slices.Equal(n.Edges, ring(8, -2).Edges) {
		t.Errorf("a cycle is shared: %v, %v", after, n)
	}
}

func TestNilAndEmptyEdgesAreEquivalent(t *testing.T) {
	for nodes := -2; nodes <= 10; nodes++ {
		without, empty := impl.Graph{Nodes: nodes}, impl.Graph{Nodes: nodes, Edges: []impl.Edge{}}
		if impl.GraphOk(without) != impl.GraphOk(empty) || len(impl.NegativeCycle(without))+len(impl.NegativeCycle(empty)) != 0 {
			t.Errorf("nil and empty edges differ for %d nodes", nodes)
		}
		for source := -2; source <= 10; source++ {
			a, is := impl.ShortestFrom(without, source)
			b, ok := impl.ShortestFrom(empty, source)
			if is != ok || !slices.Equal(a, b) || is != (nodes <= 8 && source >= 0 && source < nodes) {
				t.Errorf("ShortestFrom without edges, %d nodes and source %d = %v, %v", nodes, source, a, b)
			}
		}
	}
}
