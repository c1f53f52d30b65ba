package tests

import (
	"math"
	"math/rand"
	"slices"
	"testing"

	"loop.example/g00827/impl"
)

// inf is Inf, written out.
const inf = 1000000

// table is the table of these rows.
func table(rows ...[]int) impl.Table {
	return impl.Table{Size: len(rows), Cells: slices.Concat(rows...)}
}

// sparse is the table of this size in which each edge gives one number; the others are Inf.
func sparse(size int, edges ...edge) impl.Table {
	t := impl.Table{Size: size, Cells: slices.Repeat([]int{inf}, size*size)}
	for n := range size {
		t.Cells[n*size+n] = 0
	}
	for _, e := range edges {
		t.Cells[e[0]*size+e[1]] = e[2]
	}
	return t
}

// changed is t with this number in one cell.
func changed(t impl.Table, i, k, n int) impl.Table {
	cells := slices.Clone(t.Cells)
	cells[i*t.Size+k] = n
	return impl.Table{Size: t.Size, Cells: cells}
}

func sameTables(a, b impl.Table) bool { return a.Size == b.Size && slices.Equal(a.Cells, b.Cells) }

func isRow(t impl.Table, i int) bool { return 0 <= i && i < t.Size }

// isTable is what the document says of a valid table, with its numbers written out.
func isTable(t impl.Table) bool {
	if t.Size < 0 || t.Size > 8 || len(t.Cells) != t.Size*t.Size {
		return false
	}
	for i := range t.Size {
		for k := range t.Size {
			n := t.Cells[i*t.Size+k]
			if n < -1000000 || n > 1000000 || i == k && n != 0 {
				return false
			}
		}
	}
	return true
}

// brokenTriples is the number of triples at which a valid table is not closed.
func brokenTriples(t impl.Table) int {
	count := 0
	for i := range t.Size {
		for j := range t.Size {
			for k := range t.Size {
				if t.Cells[i*t.Size+k] > sumOf(t.Cells[i*t.Size+j], t.Cells[j*t.Size+k]) {
					count++
				}
			}
		}
	}
	return count
}

func isClosed(t impl.Table) bool { return isTable(t) && brokenTriples(t) == 0 }

// withEdge is what the document says of TightenTable.
func withEdge(t impl.Table, e impl.Edge) (impl.Table, bool) {
	if !isClosed(t) || !isRow(t, e.From) || !isRow(t, e.To) || e.Weight < -999999 || e.Weight > 999999 || sumOf(e.Weight, t.Cells[e.To*t.Size+e.From]) < 0 {
		return impl.Table{}, false
	}
	tight := impl.Table{Size: t.Size}
	for i := range t.Size {
		for k := range t.Size {
			way := sumOf(sumOf(t.Cells[i*t.Size+e.From], e.Weight), t.Cells[e.To*t.Size+k])
			tight.Cells = append(tight.Cells, min(t.Cells[i*t.Size+k], way))
		}
	}
	return tight, true
}

// windowOf is what the document says of WindowBetween.
func windowOf(t impl.Table, i, k int) (impl.Interval, bool) {
	if !isTable(t) || !isRow(t, i) || !isRow(t, k) || !isSpan(span(-t.Cells[k*t.Size+i], t.Cells[i*t.Size+k])) {
		return impl.Interval{}, false
	}
	return span(-t.Cells[k*t.Size+i], t.Cells[i*t.Size+k]), true
}

// edgesIn is what the document says of EdgesOf.
func edgesIn(t impl.Table) []impl.Edge {
	if !isTable(t) {
		return nil
	}
	var list []impl.Edge
	for i := range t.Size {
		for k := range t.Size {
			if n := t.Cells[i*t.Size+k]; i != k && n >= -999999 && n <= 999999 {
				list = append(list, impl.Edge{From: i, To: k, Weight: n})
			}
		}
	}
	return list
}

// closedTables are valid and closed.
var closedTables = []impl.Table{
	{}, {Cells: []int{}}, table([]int{0}), table([]int{0, 0}, []int{0, 0}), table([]int{0, 3}, []int{-3, 0}), table([]int{0, 3}, []int{-2, 0}), table([]int{0, -3}, []int{4, 0}),
	sparse(2), sparse(8), sparse(2, edge{0, 1, 999999}), sparse(2, edge{1, 0, -999999}), sparse(2, edge{0, 1, -1000000}), sparse(2, edge{1, 0, -1000000}),
	table([]int{0, 999999}, []int{-999999, 0}), table([]int{0, 999999}, []int{999999, 0}),
	table([]int{0, 4, 3}, []int{inf, 0, -1}, []int{inf, inf, 0}), table([]int{0, 2, 5}, []int{-1, 0, 3}, []int{-4, -3, 0}), {Size: 8, Cells: make([]int, 64)},
	// A sum that reaches Inf or goes beyond it is Inf, and Inf takes precedence over -Inf.
	sparse(3, edge{0, 1, 500000}, edge{1, 2, 500000}), sparse(3, edge{0, 1, 999999}, edge{1, 2, 999999}, edge{0, 2, 999999}), sparse(3, edge{0, 1, -1000000}),
	// A sum that reaches -Inf or goes beyond it is -Inf.
	sparse(3, edge{0, 1, -500000}, edge{1, 2, -500000}, edge{0, 2, -1000000}), sparse(3, edge{0, 1, -999999}, edge{1, 2, -999999}, edge{0, 2, -1000000}), sparse(3, edge{0, 1, -1000000}, edge{1, 2, 999999}, edge{0, 2, -1000000}),
}

// looseTables are valid, but not closed.
var looseTables = []impl.Table{
	table([]int{0, 3}, []int{-4, 0}), table([]int{0, -1}, []int{0, 0}), table([]int{0, 0}, []int{-1, 0}), table([]int{0, -1}, []int{-1, 0}),
	table([]int{0, 999999}, []int{-1000000, 0}), table([]int{0, -1000000}, []int{-1000000, 0}), table([]int{0, -1000000}, []int{999999, 0}), table([]int{0, -999999}, []int{999998, 0}),
	sparse(3, edge{0, 1, 2}, edge{1, 2, 3}), sparse(3, edge{0, 1, 2}, edge{1, 2, 3}, edge{0, 2, 6}), sparse(3, edge{0, 1, 500000}, edge{1, 2, 499999}), sparse(3, edge{0, 1, 999999}, edge{1, 2, -999999}),
	sparse(3, edge{0, 1, -999999}, edge{1, 2, -999999}, edge{0, 2, -999999}), sparse(3, edge{0, 1, -1000000}, edge{1, 2, 999999}), sparse(3, edge{0, 1, -1000000}, edge{1, 2, 999999}, edge{0, 2, -1}), sparse(3, edge{0, 1, -1000000}, edge{1, 2, 999999}, edge{0, 2, -999999}),
	sparse(8, edge{5, 6, 1}, edge{6, 7, 1}, edge{5, 7, 3}), sparse(8, edge{7, 0, 1}, edge{0, 7, -2}),
}

// invalidTables are closed or not as far as the numbers go that could be read as theirs.
var invalidTables = []impl.Table{
	{Size: 9}, {Size: 9, Cells: make([]int, 81)}, {Size: 9, Cells: make([]int, 64)}, {Size: 10, Cells: make([]int, 100)}, {Size: 64, Cells: make([]int, 4096)}, {Size: math.MaxInt},
	{Size: -1}, {Size: -1, Cells: []int{}}, {Size: -1, Cells: []int{0}}, {Size: -2, Cells: make([]int, 4)}, {Size: -8, Cells: make([]int, 64)}, {Size: math.MinInt + 1, Cells: []int{0}},
	// The squares of these wrap around to the number of their cells.
	{Size: math.MinInt}, {Size: math.MinInt, Cells: []int{}}, {Size: 1 << 32}, {Size: 1 << 32, Cells: []int{}}, {Size: -1 << 32}, {Size: 3 << 32}, {Size: 1 << 62}, {Size: math.MaxInt, Cells: []int{0}}, {Size: 1<<63 - 2, Cells: make([]int, 4)}, {Size: 1<<62 + 1<<61, Cells: nil}, {Size: math.MaxInt - 7, Cells: make([]int, 64)},
	// Too few cells and too many.
	{Cells: []int{0}}, {Cells: make([]int, 64)}, {Size: 1}, {Size: 1, Cells: []int{}}, {Size: 1, Cells: []int{0, 0}}, {Size: 2}, {Size: 2, Cells: []int{}}, {Size: 2, Cells: make([]int, 3)}, {Size: 2, Cells: make([]int, 5)}, {Size: 2, Cells: make([]int, 2)}, {Size: 3, Cells: make([]int, 8)}, {Size: 3, Cells: make([]int, 10)},
	{Size: 8}, {Size: 8, Cells: make([]int, 63)}, {Size: 8, Cells: make([]int, 65)}, {Size: 8, Cells: make([]int, 81)}, {Size: 7, Cells: make([]int, 64)}, {Size: 8, Cells: make([]int, 49)},
	// Numbers beyond the bounds.
	sparse(2, edge{0, 1, 1000001}), sparse(2, edge{0, 1, -1000001}), sparse(2, edge{1, 0, 1000001}), sparse(2, edge{1, 0, -1000001}), sparse(2, edge{0, 1, math.MaxInt}), sparse(2, edge{0, 1, math.MinInt}), sparse(2, edge{1, 0, math.MaxInt}), sparse(2, edge{1, 0, math.MinInt}),
	sparse(8, edge{7, 6, 1000001}), sparse(8, edge{6, 7, -1000001}), sparse(8, edge{0, 7, math.MaxInt}), sparse(8, edge{7, 0, math.MinInt}), sparse(3, edge{0, 1, 1}, edge{1, 2, 1}, edge{0, 2, 2}, edge{2, 1, 1000001}),
	// A diagonal number that is not 0.
	table([]int{1}), table([]int{-1}), table([]int{inf}), table([]int{-inf}), table([]int{math.MaxInt}), table([]int{math.MinInt}), sparse(2, edge{0, 0, 1}), sparse(2, edge{1, 1, 1}), sparse(2, edge{0, 0, -1}), sparse(2, edge{1, 1, -1}), sparse(2, edge{1, 1, inf}), sparse(8, edge{7, 7, 1}), sparse(8, edge{3, 3, -5}), sparse(8, edge{0, 0, inf}),
}

// smallTables calls visit with each valid table of this size whose other numbers are among these. The table is only good during the visit.
func smallTables(size int, numbers []int, visit func(t impl.Table)) {
	t := sparse(size)
	var from func(at int)
	from = func(at int) {
		if at == len(t.Cells) {
			visit(t)
			return
		}
		if at/size == at%size {
			from(at + 1)
			return
		}
		for _, n := range numbers {
			t.Cells[at] = n
			from(at + 1)
		}
	}
	from(0)
}

// everySmallTable calls visit with each of many small tables.
func everySmallTable(visit func(t impl.Table)) {
	critical := []int{-1000000, -999999, -999998, -600000, -500000, -499999, -2, -1, 0, 1, 2, 499999, 500000, 600000, 999998, 999999, 1000000}
	for size := range 3 {
		smallTables(size, critical, visit)
	}
	smallTables(3, []int{-1000000, -999999, -1, 1, 999999, 1000000}, visit)
	smallTables(3, []int{-600000, -2, 0, 3, 600000, 1000000}, visit)
}

func TestTableIsSizeAndCells(t *testing.T) {
	x := impl.Table{Size: 1, Cells: []int{0}}
	if x.Size != 1 || len(x.Cells) != 1 || x.Cells[0] != 0 {
		t.Error("a table is not its Size and Cells")
	}
}

func TestTableOk(t *testing.T) {
	for _, x := range slices.Concat(closedTables, looseTables) {
		if !impl.TableOk(x) || !isTable(x) {
			t.Errorf("TableOk(%v) = %v", x, impl.TableOk(x))
		}
	}
	for _, x := range invalidTables {
		if impl.TableOk(x) || isTable(x) {
			t.Errorf("TableOk(%v) = %v", x, impl.TableOk(x))
		}
	}
}

func TestTableOkOfEverySize(t *testing.T) {
	for _, size := range []int{math.MinInt, -9, -8, -3, -2, -1, 0, 1, 2, 3, 4, 5, 6, 7, 8, 9, 10, 64, 1 << 31, 1 << 32, 1 << 33, math.MaxInt} {
		for cells := range 130 {
			x := impl.Table{Size: size, Cells: make([]int, cells)}
			if got := impl.TableOk(x); got != isTable(x) {
				t.Errorf("TableOk is %v for the Size %d and %d cells", got, size, cells)
			}
		}
	}
}

func TestTableOkOfEveryCell(t *testing.T) {
	for size := 1; size <= 8; size++ {
		for i := range size {
			for k := range size {
				for _, n := range bounds {
					ok := n >= -1000000 && n <= 1000000 && (i != k || n == 0)
					for _, x := range []impl.Table{sparse(size), {Size: size, Cells: make([]int, size*size)}} {
						if got := impl.TableOk(changed(x, i, k, n)); got != ok {
							t.Errorf("TableOk is %v with %d in row %d and column %d of %d", got, n, i, k, size)
						}
					}
				}
			}
		}
	}
}

func TestCellOf(t *testing.T) {
	x := table([]int{0, 4, 3}, []int{inf, 0, -1}, []int{-inf, -999999, 0})
	for _, c := range []struct{ i, k, want int }{
		{0, 0, 0}, {0, 1, 4}, {0, 2, 3}, {1, 0, 1000000}, {1, 1, 0}, {1, 2, -1}, {2, 0, -1000000}, {2, 1, -999999}, {2, 2, 0},
		// No such row or column, although the place in Cells may exist.
		{0, 3, 0}, {0, 4, 0}, {0, 5, 0}, {0, 7, 0}, {1, -1, 0}, {1, -2, 0}, {1, 3, 0}, {1, 4, 0}, {2, -1, 0}, {2, -4, 0}, {2, -5, 0}, {-1, 4, 0}, {-1, 5, 0}, {-1, 0, 0}, {-1, 1, 0}, {3, 0, 0}, {3, -1, 0}, {3, -2, 0}, {3, -4, 0}, {3, 3, 0}, {-1, -1, 0},
		{math.MinInt, 1, 0}, {math.MaxInt, 1, 0}, {0, math.MinInt, 0}, {0, math.MaxInt, 0}, {math.MinInt, math.MinInt, 0}, {math.MaxInt, math.MaxInt, 0}, {math.MinInt, math.MinInt + 1, 0},
	} {
		if got := impl.CellOf(x, c.i, c.k); got != c.want {
			t.Errorf("CellOf(%v, %d, %d) = %d, want %d", x, c.i, c.k, got, c.want)
		}
	}
}

// nodesToTry are nodes of tables of any size, and what is no node.
var nodesToTry = []int{math.MinInt, -1 << 32, -9, -2, -1, 0, 1, 2, 3, 4, 5, 6, 7, 8, 9, 10, 64, 1 << 32, 1 << 61, 1 << 63 / 8, math.MaxInt}

func TestCellOfEveryCell(t *testing.T) {
	numbered := sparse(8)
	for at := range numbered.Cells {
		if at/8 != at%8 {
			numbered.Cells[at] = at - 20
		}
	}
	for _, x := range slices.Concat([]impl.Table{numbered}, closedTables, looseTables, invalidTables) {
		for _, i := range nodesToTry {
			for _, k := range nodesToTry {
				want := 0
				if isTable(x) && isRow(x, i) && isRow(x, k) {
					want = x.Cells[i*x.Size+k]
				}
				if got := impl.CellOf(x, i, k); got != want {
					t.Errorf("CellOf(%v, %d, %d) = %d, want %d", x, i, k, got, want)
				}
			}
		}
	}
}

func TestCellOfInvalidTables(t *testing.T) {
	for _, x := range []impl.Table{
		{Size: 2, Cells: []int{0, 5, 5}}, {Size: 2, Cells: []int{0, 5, 5, 0, 5}}, table([]int{0, 5}, []int{1000001, 0}), table([]int{0, 5}, []int{-1000001, 0}), table([]int{0, 5}, []int{5, 1}), table([]int{-1, 5}, []int{5, 0}),
		{Size: 9, Cells: slices.Repeat([]int{5}, 81)}, {Size: -2, Cells: []int{0, 5, 5, 0}}, {Size: 1, Cells: []int{5}},
	} {
		for i := -2; i <= 9; i++ {
			for k := -2; k <= 9; k++ {
				if got := impl.CellOf(x, i, k); got != 0 {
					t.Errorf("CellOf(%v, %d, %d) = %d", x, i, k, got)
				}
			}
		}
	}
}

func TestCloseGraph(t *testing.T) {
	for _, c := range []struct {
		g    impl.Graph
		want impl.Table
	}{
		{graph(0), impl.Table{}}, {impl.Graph{Edges: []impl.Edge{}}, impl.Table{}}, {graph(1), table([]int{0})}, {graph(2), table([]int{0, inf}, []int{inf, 0})}, {graph(8), sparse(8)},
		{graph(1, edge{0, 0, 0}), table([]int{0})}, {graph(1, edge{0, 0, 7}), table([]int{0})}, {graph(2, edge{1, 1, 999999}, edge{0, 0, 0}), sparse(2)},
		{graph(2, edge{0, 1, 3}), sparse(2, edge{0, 1, 3})}, {graph(2, edge{1, 0, 3}), sparse(2, edge{1, 0, 3})}, {graph(2, edge{0, 1, 3}, edge{0, 1, 2}, edge{0, 1, 4}), sparse(2, edge{0, 1, 2})},
		{graph(2, edge{0, 1, 3}, edge{1, 0, -3}), table([]int{0, 3}, []int{-3, 0})}, {graph(2, edge{0, 1, 999999}, edge{1, 0, -999999}), table([]int{0, 999999}, []int{-999999, 0})},
		{graph(3, edge{0, 1, 4}, edge{1, 2, -1}, edge{0, 2, 5}), table([]int{0, 4, 3}, []int{inf, 0, -1}, []int{inf, inf, 0})},
		{graph(3, edge{0, 1, 2}, edge{1, 2, 3}, edge{2, 0, -4}), table([]int{0, 2, 5}, []int{-1, 0, 3}, []int{-4, -2, 0})},
		{ring(3, 1), table([]int{0, 1, 2}, []int{2, 0, 1}, []int{1, 2, 0})}, {ring(8, 0), impl.Table{Size: 8, Cells: make([]int, 64)}},
		// Two parts that do not reach one another.
		{graph(4, edge{0, 1, 5}, edge{1, 0, -5}, edge{2, 3, 7}), sparse(4, edge{0, 1, 5}, edge{1, 0, -5}, edge{2, 3, 7})},
		// Distances that reach Inf or go beyond it, and one that comes back from there.
		{graph(3, edge{0, 1, 999999}, edge{1, 2, 0}), sparse(3, edge{0, 1, 999999}, edge{1, 2, 0}, edge{0, 2, 999999})}, {graph(3, edge{0, 1, 999999}, edge{1, 2, 1}), sparse(3, edge{0, 1, 999999}, edge{1, 2, 1})},
		{graph(3, edge{0, 1, 999999}, edge{1, 2, 999999}), sparse(3, edge{0, 1, 999999}, edge{1, 2, 999999})},
		{graph(4, edge{0, 1, 999999}, edge{1, 2, 999999}, edge{2, 3, -999999}), sparse(4, edge{0, 1, 999999}, edge{1, 2, 999999}, edge{2, 3, -999999}, edge{0, 3, 999999}, edge{1, 3, 0})},
		// Distances at -Inf and below, and one that comes back from there.
		{graph(3, edge{0, 1, -999999}, edge{1, 2, 0}), sparse(3, edge{0, 1, -999999}, edge{1, 2, 0}, edge{0, 2, -999999})}, {graph(3, edge{0, 1, -999999}, edge{1, 2, -1}), sparse(3, edge{0, 1, -999999}, edge{1, 2, -1}, edge{0, 2, -1000000})},
		{graph(3, edge{0, 1, -999999}, edge{1, 2, -2}), sparse(3, edge{0, 1, -999999}, edge{1, 2, -2}, edge{0, 2, -1000000})}, {graph(3, edge{0, 1, -999999}, edge{1, 2, -999999}), sparse(3, edge{0, 1, -999999}, edge{1, 2, -999999}, edge{0, 2, -1000000})},
		{graph(4, edge{0, 1, -999999}, edge{1, 2, -600000}, edge{2, 3, 999999}), sparse(4, edge{0, 1, -999999}, edge{1, 2, -600000}, edge{2, 3, 999999}, edge{0, 2, -1000000}, edge{0, 3, -600000}, edge{1, 3, 399999})},
	} {
		got, ok := impl.CloseGraph(c.g)
		if !ok || !sameTables(got, c.want) {
			t.Errorf("CloseGraph(%v) = %v, %v, want %v", c.g, got, ok, c.want)
		}
	}
}

func TestCloseGraphRefuses(t *testing.T) {
	negative := []impl.Graph{
		graph(1, edge{0, 0, -1}), graph(2, edge{0, 1, 3}, edge{1, 0, -4}), ring(8, -1), ring(8, -999999), graph(2, edge{0, 0, -1}, edge{0, 1, -999999}),
		// Only some nodes reach the cycle: the first, the last, one in the middle, all but the last.
		graph(3, edge{0, 0, -1}), graph(3, edge{2, 2, -1}), graph(3, edge{1, 1, -1}), graph(8, edge{7, 7, -1}), graph(8, edge{7, 6, 3}, edge{6, 7, -4}, edge{0, 1, 3}), graph(3, edge{0, 1, 5}, edge{1, 1, -1}), graph(3, edge{2, 2, -1}, edge{2, 0, 1}),
	}
	for _, g := range slices.Concat(negative, invalidGraphs) {
		if got, ok := impl.CloseGraph(g); ok || got.Size != 0 || len(got.Cells) != 0 {
			t.Errorf("CloseGraph(%v) = %v, %v", g, got, ok)
		}
	}
}

// closedBy is the table of these distances, and whether there are all of them.
func closedBy(g impl.Graph, sums func(g impl.Graph, source int) ([]int, bool)) (impl.Table, bool) {
	t := impl.Table{Size: g.Nodes}
	for source := range g.Nodes {
		row, ok := sums(g, source)
		if !ok {
			return impl.Table{}, false
		}
		for _, n := range row {
			t.Cells = append(t.Cells, max(n, -1000000))
		}
	}
	return t, true
}

func checkClosure(t *testing.T, g impl.Graph, sums func(g impl.Graph, source int) ([]int, bool)) {
	want, is := closedBy(g, sums)
	got, ok := impl.CloseGraph(g)
	if ok != is || !sameTables(got, want) {
		t.Fatalf("CloseGraph(%v) = %v, %v, want %v, %v", g, got, ok, want, is)
	}
	if ok && !impl.TableOk(got) {
		t.Fatalf("CloseGraph(%v) = %v is not valid", g, got)
	}
}

func TestClosuresAreShortestDistances(t *testing.T) {
	everySmallGraph(func(g impl.Graph) {
		checkClosure(t, g, leastSums)
		checkClosure(t, g, impl.ShortestFrom)
	})
	found, refused := 0, 0
	variousGraphs(func(g impl.Graph) {
		checkClosure(t, g, tableSums)
		checkClosure(t, g, impl.ShortestFrom)
		if _, ok := impl.CloseGraph(g); ok {
			found++
		} else {
			refused++
		}
	})
	if found < 1000 || refused < 1000 {
		t.Errorf("%d graphs with a table and %d without are too few", found, refused)
	}
}

func TestIsClosed(t *testing.T) {
	for _, x := range closedTables {
		if !impl.IsClosed(x) || !isClosed(x) {
			t.Errorf("IsClosed(%v) = %v", x, impl.IsClosed(x))
		}
	}
	for _, x := range slices.Concat(looseTables, invalidTables) {
		if impl.IsClosed(x) || isClosed(x) {
			t.Errorf("IsClosed(%v) = %v", x, impl.IsClosed(x))
		}
	}
}

func TestIsClosedBreaksAtOneTriple(t *testing.T) {
	for size := 3; size <= 8; size++ {
		for i := range size {
			for j := range size {
				for k := range size {
					if i == j || j == k || i == k {
						continue
					}
					x := sparse(size, edge{i, j, 2}, edge{j, k, 3}, edge{i, k, 5})
					y := changed(x, i, k, 6)
					if brokenTriples(y) != 1 || !impl.IsClosed(x) || impl.IsClosed(y) {
						t.Errorf("IsClosed is %v for %v and %v for %v", impl.IsClosed(x), x, impl.IsClosed(y), y)
					}
				}
			}
		}
	}
}

func TestIsClosedBreaksAtOneOfManyTriples(t *testing.T) {
	full := impl.Table{Size: 8}
	for i := range 8 {
		for k := range 8 {
			full.Cells = append(full.Cells, k*k-i*i)
		}
	}
	if !impl.IsClosed(full) {
		t.Errorf("IsClosed(%v) = false", full)
	}
	// Every sum is exact here, so that each number breaks some triples when it is raised or lowered by one.
	for i := range 8 {
		for k := range 8 {
			if i == k {
				continue
			}
			for _, by := range []int{-1, 1} {
				if x := changed(full, i, k, k*k-i*i+by); impl.IsClosed(x) {
					t.Errorf("IsClosed is true with %d added in row %d and column %d", by, i, k)
				}
			}
		}
	}
}

func TestIsClosedOfEverySmallTable(t *testing.T) {
	closed, loose := 0, 0
	everySmallTable(func(x impl.Table) {
		is := isClosed(x)
		if got := impl.IsClosed(x); got != is {
			t.Fatalf("IsClosed(%v) = %v", x, got)
		}
		if is {
			closed++
		} else {
			loose++
		}
	})
	if closed < 1000 || loose < 1000 {
		t.Errorf("%d closed tables and %d others are too few", closed, loose)
	}
}

func TestClosuresAreClosed(t *testing.T) {
	r := rand.New(rand.NewSource(4))
	broken := 0
	variousGraphs(func(g impl.Graph) {
		x, ok := impl.CloseGraph(g)
		if !ok {
			return
		}
		if got := impl.IsClosed(x); got != isClosed(x) || !got && isTame(g) {
			t.Fatalf("IsClosed(%v) = %v, for the graph %v", x, got, g)
		}
		i, k := r.Intn(x.Size), r.Intn(x.Size)
		if i == k {
			return
		}
		y := changed(x, i, k, min(x.Cells[i*x.Size+k]+r.Intn(5)-2, 1000000))
		if got := impl.IsClosed(y); got != isClosed(y) {
			t.Fatalf("IsClosed(%v) = %v", y, got)
		}
		if isTable(y) && !isClosed(y) {
			broken++
		}
	})
	if broken < 200 {
		t.Errorf("%d tables that are not closed are too few", broken)
	}
}

// isTame reports whether all sums in g stay far from Inf and -Inf.
func isTame(g impl.Graph) bool {
	for _, e := range g.Edges {
		if e.Weight < -1000 || e.Weight > 1000 {
			return false
		}
	}
	return true
}

var rising = table([]int{0, 4, 3}, []int{inf, 0, -1}, []int{inf, inf, 0})

func TestTightenTable(t *testing.T) {
	for _, c := range []struct {
		x    impl.Table
		e    edge
		want impl.Table
	}{
		{sparse(2), edge{0, 1, 3}, sparse(2, edge{0, 1, 3})}, {sparse(2), edge{1, 0, -3}, sparse(2, edge{1, 0, -3})}, {sparse(2, edge{0, 1, 3}), edge{1, 0, -2}, table([]int{0, 3}, []int{-2, 0})},
		{rising, edge{2, 0, -2}, table([]int{0, 4, 3}, []int{-3, 0, -1}, []int{-2, 2, 0})}, {rising, edge{1, 0, 5}, table([]int{0, 4, 3}, []int{5, 0, -1}, []int{inf, inf, 0})}, {rising, edge{0, 1, 2}, table([]int{0, 2, 1}, []int{inf, 0, -1}, []int{inf, inf, 0})},
		{sparse(4, edge{0, 1, 2}, edge{2, 3, 5}), edge{1, 2, 7}, sparse(4, edge{0, 1, 2}, edge{2, 3, 5}, edge{1, 2, 7}, edge{0, 2, 9}, edge{0, 3, 14}, edge{1, 3, 12})},
		// The way over the edge is not always shorter.
		{sparse(4, edge{0, 1, 2}, edge{2, 3, 5}, edge{0, 3, 13}, edge{1, 3, 13}), edge{1, 2, 7}, sparse(4, edge{0, 1, 2}, edge{2, 3, 5}, edge{1, 2, 7}, edge{0, 2, 9}, edge{0, 3, 13}, edge{1, 3, 12})},
		// Edges that change nothing.
		{rising, edge{0, 1, 4}, rising}, {rising, edge{0, 1, 5}, rising}, {rising, edge{0, 2, 999999}, rising}, {rising, edge{0, 2, 3}, rising}, {rising, edge{1, 2, 0}, rising}, {table([]int{0, 0}, []int{0, 0}), edge{1, 0, 0}, table([]int{0, 0}, []int{0, 0})}, {table([]int{0, 0}, []int{0, 0}), edge{1, 0, 1}, table([]int{0, 0}, []int{0, 0})},
		// From equal to To.
		{table([]int{0}), edge{0, 0, 0}, table([]int{0})}, {table([]int{0}), edge{0, 0, 1}, table([]int{0})}, {table([]int{0}), edge{0, 0, 999999}, table([]int{0})}, {rising, edge{2, 2, 0}, rising}, {rising, edge{0, 0, 0}, rising}, {rising, edge{1, 1, 1}, rising}, {sparse(3, edge{0, 1, -1000000}), edge{1, 1, 7}, sparse(3, edge{0, 1, -1000000})},
		// The least and the greatest weight.
		{sparse(2), edge{0, 1, 999999}, sparse(2, edge{0, 1, 999999})}, {sparse(2), edge{0, 1, -999999}, sparse(2, edge{0, 1, -999999})}, {sparse(2, edge{0, 1, -1}), edge{0, 1, -999999}, sparse(2, edge{0, 1, -999999})}, {sparse(2, edge{0, 1, -1000000}), edge{0, 1, -999999}, sparse(2, edge{0, 1, -1000000})},
		// The sum back is 0, or Inf.
		{rising, edge{2, 0, -3}, table([]int{0, 4, 3}, []int{-4, 0, -1}, []int{-3, 1, 0})}, {rising, edge{1, 0, -4}, table([]int{0, 4, 3}, []int{-4, 0, -1}, []int{inf, inf, 0})}, {rising, edge{2, 1, 1}, table([]int{0, 4, 3}, []int{inf, 0, -1}, []int{inf, 1, 0})},
		{sparse(2, edge{0, 1, 999999}), edge{1, 0, -999999}, table([]int{0, 999999}, []int{-999999, 0})}, {sparse(2, edge{0, 1, -999999}), edge{1, 0, 999999}, table([]int{0, -999999}, []int{999999, 0})}, {sparse(2, edge{0, 1, -1000000}), edge{0, 1, 5}, sparse(2, edge{0, 1, -1000000})},
		// From left to right: a sum that has reached Inf or -Inf stays there, whatever follows, but Inf takes precedence.
		{sparse(4, edge{0, 1, 600000}, edge{2, 3, -600000}), edge{1, 2, 600000}, sparse(4, edge{0, 1, 600000}, edge{2, 3, -600000}, edge{1, 2, 600000}, edge{1, 3, 0})},
		{sparse(4, edge{0, 1, -600000}, edge{2, 3, 600000}), edge{1, 2, 600000}, sparse(4, edge{0, 1, -600000}, edge{2, 3, 600000}, edge{1, 2, 600000}, edge{0, 2, 0}, edge{0, 3, 600000})},
		{sparse(4, edge{0, 1, -600000}, edge{2, 3, 600000}), edge{1, 2, -600000}, sparse(4, edge{0, 1, -600000}, edge{2, 3, 600000}, edge{1, 2, -600000}, edge{0, 2, -1000000}, edge{1, 3, 0}, edge{0, 3, -1000000})},
		{sparse(4, edge{0, 1, 600000}, edge{2, 3, -600000}), edge{1, 2, -600000}, sparse(4, edge{0, 1, 600000}, edge{2, 3, -600000}, edge{1, 2, -600000}, edge{0, 2, 0}, edge{1, 3, -1000000}, edge{0, 3, -600000})},
		{sparse(4, edge{0, 1, -1000000}), edge{1, 2, 999999}, sparse(4, edge{0, 1, -1000000}, edge{1, 2, 999999}, edge{0, 2, -1000000})}, {sparse(4, edge{0, 1, -1000000}, edge{2, 3, 999999}), edge{1, 2, 999999}, sparse(4, edge{0, 1, -1000000}, edge{2, 3, 999999}, edge{1, 2, 999999}, edge{0, 2, -1000000}, edge{0, 3, -1000000})},
		{sparse(4, edge{2, 3, -1000000}), edge{1, 2, 999999}, sparse(4, edge{2, 3, -1000000}, edge{1, 2, 999999}, edge{1, 3, -1000000})}, {sparse(4, edge{0, 1, 5}, edge{2, 3, -1000000}), edge{1, 2, 999999}, sparse(4, edge{0, 1, 5}, edge{2, 3, -1000000}, edge{1, 2, 999999}, edge{1, 3, -1000000})},
		// The last sum goes beyond a bound.
		{sparse(4, edge{0, 1, 1}, edge{2, 3, 1}), edge{1, 2, 999998}, sparse(4, edge{0, 1, 1}, edge{2, 3, 1}, edge{1, 2, 999998}, edge{0, 2, 999999}, edge{1, 3, 999999})},
		{sparse(4, edge{0, 1, -1}, edge{2, 3, -2}), edge{1, 2, -999998}, sparse(4, edge{0, 1, -1}, edge{2, 3, -2}, edge{1, 2, -999998}, edge{0, 2, -999999}, edge{1, 3, -1000000}, edge{0, 3, -1000000})},
	} {
		got, ok := impl.TightenTable(c.x, impl.Edge{From: c.e[0], To: c.e[1], Weight: c.e[2]})
		if !ok || !sameTables(got, c.want) {
			t.Errorf("TightenTable(%v, %v) = %v, %v, want %v", c.x, c.e, got, ok, c.want)
		}
	}
}

func TestTightenTableRefuses(t *testing.T) {
	for _, c := range []struct {
		x impl.Table
		e edge
	}{
		{rising, edge{-1, 0, 5}}, {rising, edge{0, -1, 5}}, {rising, edge{3, 0, 5}}, {rising, edge{0, 3, 5}}, {rising, edge{-1, -1, 5}}, {rising, edge{3, 3, 5}}, {rising, edge{math.MinInt, 0, 5}}, {rising, edge{math.MaxInt, 0, 5}}, {rising, edge{0, math.MinInt, 5}}, {rising, edge{0, math.MaxInt, 5}},
		{rising, edge{-1, 4, 5}}, {rising, edge{3, -2, 5}}, {rising, edge{0, 8, 5}}, {rising, edge{8, 0, 5}}, {impl.Table{}, edge{0, 0, 0}}, {impl.Table{}, edge{-1, -1, 0}}, {table([]int{0}), edge{1, 0, 0}}, {table([]int{0}), edge{0, 1, 0}}, {sparse(8), edge{8, 0, 0}}, {sparse(8), edge{0, 8, 0}},
		{rising, edge{0, 1, 1000000}}, {rising, edge{0, 1, -1000000}}, {rising, edge{0, 1, 1000001}}, {rising, edge{0, 1, -1000001}}, {rising, edge{0, 1, math.MaxInt}}, {rising, edge{0, 1, math.MinInt}}, {sparse(2), edge{0, 1, -1000000}}, {sparse(2), edge{0, 1, 1000000}}, {rising, edge{1, 1, 1000000}}, {rising, edge{1, 1, -1000000}},
		// The sum back is negative.
		{table([]int{0}), edge{0, 0, -1}}, {table([]int{0}), edge{0, 0, -999999}}, {rising, edge{2, 2, -1}}, {rising, edge{2, 0, -4}}, {rising, edge{1, 0, -5}}, {rising, edge{2, 1, 0}}, {rising, edge{2, 1, -999999}}, {sparse(2, edge{0, 1, 999998}), edge{1, 0, -999999}},
		{sparse(2, edge{0, 1, -999999}), edge{1, 0, 999998}}, {sparse(2, edge{0, 1, -1000000}), edge{1, 0, 999999}}, {sparse(2, edge{0, 1, -1000000}), edge{1, 0, -999999}}, {table([]int{0, 0}, []int{0, 0}), edge{0, 1, -1}},
	} {
		e := impl.Edge{From: c.e[0], To: c.e[1], Weight: c.e[2]}
		if got, ok := impl.TightenTable(c.x, e); ok || got.Size != 0 || len(got.Cells) != 0 || !impl.IsClosed(c.x) {
			t.Errorf("TightenTable(%v, %v) = %v, %v", c.x, e, got, ok)
		}
	}
	for _, x := range slices.Concat(looseTables, invalidTables) {
		for _, e := range []edge{{0, 0, 0}, {0, 1, 5}, {1, 0, 999999}, {0, 1, -1}, {2, 0, 4}, {7, 7, 1}, {-1, -1, 0}, {8, 8, 8}} {
			if got, ok := impl.TightenTable(x, impl.Edge{From: e[0], To: e[1], Weight: e[2]}); ok || got.Size != 0 || len(got.Cells) != 0 {
				t.Errorf("TightenTable(%v, %v) = %v, %v", x, e, got, ok)
			}
		}
	}
}

func checkTightened(t *testing.T, x impl.Table, e impl.Edge) bool {
	want, is := withEdge(x, e)
	got, ok := impl.TightenTable(x, e)
	if ok != is || !sameTables(got, want) {
		t.Fatalf("TightenTable(%v, %v) = %v, %v, want %v, %v", x, e, got, ok, want, is)
	}
	return ok
}

func TestTightenEverySmallTable(t *testing.T) {
	tightened, refused := 0, 0
	weights := []int{math.MinInt, -1000001, -1000000, -999999, -999998, -600000, -500000, -2, -1, 0, 1, 2, 3, 500000, 600000, 999998, 999999, 1000000, 1000001, math.MaxInt}
	everySmallTable(func(x impl.Table) {
		if !isClosed(x) {
			return
		}
		for from := -1; from <= x.Size; from++ {
			for to := -1; to <= x.Size; to++ {
				for _, w := range weights {
					if checkTightened(t, x, impl.Edge{From: from, To: to, Weight: w}) {
						tightened++
					} else {
						refused++
					}
				}
			}
		}
	})
	if tightened < 10000 || refused < 10000 {
		t.Errorf("%d tables that are tightened and %d that are not are too few", tightened, refused)
	}
}

// weightsAbout are weights of an edge at which the table with it changes: it is shorter than the number there or not, and the sum back is negative or not.
func weightsAbout(x impl.Table, from, to int) []int {
	there, back := x.Cells[from*x.Size+to], x.Cells[to*x.Size+from]
	return []int{there - 1, there, there + 1, -back - 1, -back, 1 - back, 0, 5, -5}
}

// checkTightenedGraph holds TightenTable against CloseGraph of the graph with the edge, where no sum comes near Inf.
func checkTightenedGraph(t *testing.T, g impl.Graph, x impl.Table, e impl.Edge) bool {
	more := impl.Graph{Nodes: g.Nodes, Edges: append(slices.Clone(g.Edges), e)}
	want, is := impl.CloseGraph(more)
	got, ok := impl.TightenTable(x, e)
	if ok != is || !sameTables(got, want) {
		t.Fatalf("TightenTable(%v, %v) = %v, %v, want %v, %v", x, e, got, ok, want, is)
	}
	if ok && !impl.IsClosed(got) {
		t.Fatalf("TightenTable(%v, %v) = %v is not closed", x, e, got)
	}
	return ok
}

func TestTightenedTablesAreShortestOfSmallGraphs(t *testing.T) {
	for nodes := range 4 {
		for edges := range 3 {
			smallGraphs(nodes, edges, []int{-2, 0, 1, 4}, func(g impl.Graph) {
				x, ok := impl.CloseGraph(g)
				if !ok {
					return
				}
				for from := range nodes {
					for to := range nodes {
						for _, w := range weightsAbout(x, from, to) {
							if w >= -1000 && w <= 1000 {
								checkTightenedGraph(t, g, x, impl.Edge{From: from, To: to, Weight: w})
							}
						}
					}
				}
			})
		}
	}
}

func TestTightenedTablesAreShortest(t *testing.T) {
	r := rand.New(rand.NewSource(5))
	tightened, refused := 0, 0
	variousGraphs(func(g impl.Graph) {
		x, ok := impl.CloseGraph(g)
		if !ok {
			return
		}
		for range 8 {
			from, to := r.Intn(g.Nodes), r.Intn(g.Nodes)
			for _, w := range weightsAbout(x, from, to) {
				e := impl.Edge{From: from, To: to, Weight: w}
				checkTightened(t, x, e)
				if !isTame(g) || len(g.Edges) == 80 || w < -1000 || w > 1000 {
					continue
				}
				if checkTightenedGraph(t, g, x, e) {
					tightened++
				} else {
					refused++
				}
			}
		}
	})
	if tightened < 10000 || refused < 10000 {
		t.Errorf("%d tables that are tightened and %d that are not are too few", tightened, refused)
	}
}

// Adding the edges of a graph one after the other leads to its table.
func TestTablesAreTightenedEdgeByEdge(t *testing.T) {
	variousGraphs(func(g impl.Graph) {
		if !isTame(g) {
			return
		}
		x, ok := sparse(g.Nodes), true
		for _, e := range g.Edges {
			if ok {
				x, ok = impl.TightenTable(x, e)
			}
		}
		if want, is := impl.CloseGraph(g); ok != is || !sameTables(x, want) {
			t.Fatalf("the edges of %v lead to %v, %v, want %v, %v", g, x, ok, want, is)
		}
	})
}

func TestWindowBetween(t *testing.T) {
	x := table([]int{0, 4, 3, inf}, []int{-3, 0, -1, inf}, []int{-2, 2, 0, inf}, []int{0, 999999, -inf, 0})
	for _, c := range []struct {
		i, k int
		want impl.Interval
	}{
		{0, 1, span(3, 4)}, {1, 0, span(-4, -3)}, {0, 2, span(2, 3)}, {2, 0, span(-3, -2)}, {1, 2, span(-2, -1)}, {2, 1, span(1, 2)},
		// A node with itself.
		{0, 0, span(0, 0)}, {1, 1, span(0, 0)}, {3, 3, span(0, 0)},
		// Inf on one side.
		{0, 3, span(0, 1000000)}, {3, 0, span(-1000000, 0)}, {1, 3, span(-999999, 1000000)}, {3, 1, span(-1000000, 999999)},
	} {
		if got, ok := impl.WindowBetween(x, c.i, c.k); !ok || got != c.want {
			t.Errorf("WindowBetween(%v, %d, %d) = %v, %v, want %v", x, c.i, c.k, got, ok, c.want)
		}
	}
	for _, c := range []struct {
		there, back int
		want        impl.Interval
	}{
		{5, -5, span(5, 5)}, {-5, 5, span(-5, -5)}, {5, 3, span(-3, 5)}, {-2, 7, span(-7, -2)}, {inf, inf, span(-1000000, 1000000)}, {inf, 3, span(-3, 1000000)}, {3, inf, span(-1000000, 3)},
		{inf, -999999, span(999999, 1000000)}, {999999, -999999, span(999999, 999999)}, {-999999, 999999, span(-999999, -999999)}, {-999999, inf, span(-1000000, -999999)}, {inf, 999999, span(-999999, 1000000)}, {0, 0, span(0, 0)},
	} {
		if got, ok := impl.WindowBetween(sparse(2, edge{0, 1, c.there}, edge{1, 0, c.back}), 0, 1); !ok || got != c.want {
			t.Errorf("WindowBetween with the numbers %d and %d = %v, %v, want %v", c.there, c.back, got, ok, c.want)
		}
	}
}

func TestWindowBetweenRefuses(t *testing.T) {
	// A pair of numbers that is no interval, in a table that is not closed.
	for _, c := range [][2]int{{5, -6}, {-6, 5}, {-1, 0}, {0, -1}, {-1, -1}, {999999, -1000000}, {inf, -inf}, {-inf, inf}, {-inf, -inf}, {-inf, 999999}, {-inf, 0}, {0, -inf}, {-999999, 999998}, {999998, -999999}} {
		x := sparse(2, edge{0, 1, c[0]}, edge{1, 0, c[1]})
		for _, pair := range [][2]int{{0, 1}, {1, 0}} {
			if got, ok := impl.WindowBetween(x, pair[0], pair[1]); ok || got != (impl.Interval{}) {
				t.Errorf("WindowBetween(%v, %v) = %v, %v", x, pair, got, ok)
			}
		}
		if got, ok := impl.WindowBetween(x, 1, 1); !ok || got != span(0, 0) {
			t.Errorf("WindowBetween(%v, 1, 1) = %v, %v", x, got, ok)
		}
	}
	for _, x := range slices.Concat(closedTables, looseTables, invalidTables) {
		for _, i := range nodesToTry {
			for _, k := range nodesToTry {
				got, ok := impl.WindowBetween(x, i, k)
				if want, is := windowOf(x, i, k); ok != is || got != want {
					t.Errorf("WindowBetween(%v, %d, %d) = %v, %v, want %v, %v", x, i, k, got, ok, want, is)
				}
			}
		}
	}
}

func TestWindowsOfEverySmallTable(t *testing.T) {
	everySmallTable(func(x impl.Table) {
		for i := -1; i <= x.Size; i++ {
			for k := -1; k <= x.Size; k++ {
				got, ok := impl.WindowBetween(x, i, k)
				if want, is := windowOf(x, i, k); ok != is || got != want {
					t.Fatalf("WindowBetween(%v, %d, %d) = %v, %v, want %v, %v", x, i, k, got, ok, want, is)
				}
			}
		}
	})
}

func TestEdgesOf(t *testing.T) {
	for _, c := range []struct {
		x    impl.Table
		want []edge
	}{
		{impl.Table{}, nil}, {impl.Table{Cells: []int{}}, nil}, {table([]int{0}), nil}, {sparse(2), nil}, {sparse(8), nil}, {table([]int{0, -inf}, []int{-inf, 0}), nil}, {table([]int{0, inf}, []int{-inf, 0}), nil},
		{rising, []edge{{0, 1, 4}, {0, 2, 3}, {1, 2, -1}}}, {table([]int{0, 7}, []int{-3, 0}), []edge{{0, 1, 7}, {1, 0, -3}}}, {table([]int{0, 0}, []int{0, 0}), []edge{{0, 1, 0}, {1, 0, 0}}}, {table([]int{0, 1}, []int{-3, 0}), []edge{{0, 1, 1}, {1, 0, -3}}},
		{table([]int{0, 999999, -999999}, []int{1000000, 0, -1000000}, []int{999998, -999998, 0}), []edge{{0, 1, 999999}, {0, 2, -999999}, {2, 0, 999998}, {2, 1, -999998}}},
		{table([]int{0, 6, 5}, []int{4, 0, 3}, []int{2, 1, 0}), []edge{{0, 1, 6}, {0, 2, 5}, {1, 0, 4}, {1, 2, 3}, {2, 0, 2}, {2, 1, 1}}}, {sparse(8, edge{7, 0, 1}, edge{0, 7, 2}, edge{6, 7, 3}, edge{7, 6, 4}), []edge{{0, 7, 2}, {6, 7, 3}, {7, 0, 1}, {7, 6, 4}}},
	} {
		if got := impl.EdgesOf(c.x); !slices.Equal(got, graph(8, c.want...).Edges) {
			t.Errorf("EdgesOf(%v) = %v, want %v", c.x, got, c.want)
		}
	}
	for _, x := range invalidTables {
		if got := impl.EdgesOf(x); len(got) != 0 {
			t.Errorf("EdgesOf(%v) = %v", x, got)
		}
	}
}

func TestEdgesOfEveryTable(t *testing.T) {
	check := func(x impl.Table) {
		if got := impl.EdgesOf(x); !slices.Equal(got, edgesIn(x)) {
			t.Fatalf("EdgesOf(%v) = %v, want %v", x, got, edgesIn(x))
		}
	}
	everySmallTable(check)
	for _, x := range slices.Concat(closedTables, looseTables) {
		check(x)
	}
	full := impl.Table{Size: 8, Cells: make([]int, 64)}
	if check(full); len(impl.EdgesOf(full)) != 56 {
		t.Errorf("%d edges of a full table", len(impl.EdgesOf(full)))
	}
}

// The edges of a closed table have this table, if no number is -Inf.
func TestTablesAreRecoveredFromTheirEdges(t *testing.T) {
	variousGraphs(func(g impl.Graph) {
		x, ok := impl.CloseGraph(g)
		if !ok || !isTame(g) {
			return
		}
		if got, ok := impl.CloseGraph(impl.Graph{Nodes: x.Size, Edges: impl.EdgesOf(x)}); !ok || !sameTables(got, x) {
			t.Fatalf("CloseGraph of EdgesOf(%v) = %v, %v", x, got, ok)
		}
	})
}

func TestTableArgumentsAreKept(t *testing.T) {
	for _, x := range slices.Concat(closedTables, looseTables, invalidTables) {
		// Behind the cells there is spare capacity, which must be kept as well.
		spare := append(slices.Clone(x.Cells), slices.Repeat([]int{-77}, 80)...)
		cells := slices.Clone(spare)
		x.Cells = spare[:len(x.Cells)]
		impl.TableOk(x)
		impl.IsClosed(x)
		impl.EdgesOf(x)
		for i := -1; i <= 8; i++ {
			for k := -1; k <= 8; k++ {
				impl.CellOf(x, i, k)
				impl.WindowBetween(x, i, k)
				for _, w := range []int{-3, 0, 3} {
					impl.TightenTable(x, impl.Edge{From: i, To: k, Weight: w})
				}
			}
		}
		if !slices.Equal(spare, cells) {
			t.Errorf("an argument has changed: %v", spare)
		}
	}
	for _, g := range slices.Concat(validGraphs, invalidGraphs) {
		spare := append(slices.Clone(g.Edges), slices.Repeat([]impl.Edge{{From: 7, To: 7, Weight: -77}}, 20)...)
		edges := slices.Clone(spare)
		g.Edges = spare[:len(g.Edges)]
		impl.CloseGraph(g)
		if !slices.Equal(spare, edges) {
			t.Errorf("an argument has changed: %v", spare)
		}
	}
}

// checkNew checks that a call returns a new table each time. Its results are overwritten, with their spare capacity.
func checkNew(t *testing.T, name string, call func() (impl.Table, bool)) {
	first, _ := call()
	kept := impl.Table{Size: first.Size, Cells: slices.Clone(first.Cells)}
	second, _ := call()
	for i := range first.Cells[:cap(first.Cells)] {
		first.Cells[:cap(first.Cells)][i] = -5
	}
	if third, ok := call(); !ok || len(kept.Cells) == 0 || !sameTables(second, kept) || !sameTables(third, kept) {
		t.Errorf("a table of %s is shared: %v, %v, want %v", name, second, third, kept)
	}
}

func TestTableResultsAreNew(t *testing.T) {
	g := ring(8, 2)
	checkNew(t, "CloseGraph", func() (impl.Table, bool) { return impl.CloseGraph(g) })
	if !slices.Equal(g.Edges, ring(8, 2).Edges) {
		t.Errorf("a graph has changed: %v", g)
	}
	for _, e := range []impl.Edge{{From: 0, To: 1, Weight: 1}, {From: 0, To: 1, Weight: 4}, {From: 2, To: 2, Weight: 0}} {
		x := table([]int{0, 4, 3}, []int{inf, 0, -1}, []int{inf, inf, 0})
		checkNew(t, "TightenTable", func() (impl.Table, bool) { return impl.TightenTable(x, e) })
		if !sameTables(x, rising) {
			t.Errorf("a table has changed: %v", x)
		}
	}
	before := impl.EdgesOf(rising)
	kept := slices.Clone(before)
	after := impl.EdgesOf(rising)
	for i := range before {
		before[i] = impl.Edge{From: 7, To: 7, Weight: -5}
	}
	if len(kept) != 3 || !slices.Equal(after, kept) || !slices.Equal(impl.EdgesOf(rising), kept) {
		t.Errorf("a list of edges is shared: %v", after)
	}
}

func TestNilAndEmptyCellsAreEquivalent(t *testing.T) {
	for size := -2; size <= 10; size++ {
		for _, x := range []impl.Table{{Size: size}, {Size: size, Cells: []int{}}} {
			_, tight := impl.TightenTable(x, impl.Edge{})
			_, window := impl.WindowBetween(x, 0, 0)
			if impl.TableOk(x) != (size == 0) || impl.IsClosed(x) != (size == 0) || tight || window || impl.CellOf(x, 0, 0) != 0 || len(impl.EdgesOf(x)) != 0 {
				t.Errorf("a table of the Size %d without cells is wrong", size)
			}
		}
	}
}
