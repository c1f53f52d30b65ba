package tests

import (
	"math"
	"slices"
	"strings"
	"testing"

	"loop.example/g00827/impl"
)

// labelTexts are all labels with their texts.
var labelTexts = []struct {
	l    []int
	text string
}{
	{nil, "-"}, {[]int{1}, "p1"}, {[]int{2}, "p2"}, {[]int{3}, "p3"}, {[]int{-1}, "!p1"}, {[]int{-2}, "!p2"}, {[]int{-3}, "!p3"},
	{[]int{1, 2}, "p1&p2"}, {[]int{1, -2}, "p1&!p2"}, {[]int{-1, 2}, "!p1&p2"}, {[]int{-1, -2}, "!p1&!p2"},
	{[]int{1, 3}, "p1&p3"}, {[]int{1, -3}, "p1&!p3"}, {[]int{-1, 3}, "!p1&p3"}, {[]int{-1, -3}, "!p1&!p3"},
	{[]int{2, 3}, "p2&p3"}, {[]int{2, -3}, "p2&!p3"}, {[]int{-2, 3}, "!p2&p3"}, {[]int{-2, -3}, "!p2&!p3"},
	{[]int{1, 2, 3}, "p1&p2&p3"}, {[]int{1, 2, -3}, "p1&p2&!p3"}, {[]int{1, -2, 3}, "p1&!p2&p3"}, {[]int{1, -2, -3}, "p1&!p2&!p3"},
	{[]int{-1, 2, 3}, "!p1&p2&p3"}, {[]int{-1, 2, -3}, "!p1&p2&!p3"}, {[]int{-1, -2, 3}, "!p1&!p2&p3"}, {[]int{-1, -2, -3}, "!p1&!p2&!p3"},
}

// noLabels are lists that are no labels.
var noLabels = [][]int{
	{0}, {4}, {-4}, {7}, {-7}, {100}, {math.MinInt}, {math.MinInt + 1}, {math.MaxInt}, {math.MinInt + 2}, {math.MaxInt - 2}, {1 << 32}, {1<<32 + 1}, {-1<<32 + 2},
	{1, 1}, {1, -1}, {-1, 1}, {-1, -1}, {2, 2}, {2, -2}, {-2, 2}, {-2, -2}, {3, 3}, {3, -3}, {-3, 3}, {-3, -3},
	{2, 1}, {2, -1}, {-2, 1}, {-2, -1}, {3, 1}, {-3, -1}, {3, 2}, {3, -2}, {-3, 2}, {-3, -2}, {3, 2, 1}, {-3, -2, -1}, {1, 3, 2}, {2, 1, 3}, {-1, -3, -2}, {-2, -1, -3},
	{0, 1}, {1, 0}, {-1, 0}, {0, -1}, {0, 0}, {1, 0, 2}, {0, 1, 2, 3}, {1, 2, 3, 0}, {1, 2, 0, 3}, {-3, -2, 1},
	{1, 4}, {1, -4}, {-4, 1}, {4, 1}, {3, 4}, {-3, -4}, {-4, -3}, {1, 2, 4}, {1, 2, 3, 4}, {-1, -2, -3, -4}, {-4, -3, -2, -1},
	{1, 1, 2}, {1, 2, 2}, {1, -2, 2}, {1, 2, -2}, {1, 2, 1}, {1, 2, 3, 3}, {1, 2, 3, -3}, {1, 2, 3, 1}, {1, 2, 3, 1, 2, 3}, {1, -1, 2, 3},
	{math.MinInt, 1}, {1, math.MinInt}, {1, 2, math.MinInt}, {1, math.MinInt, 2}, {1, 2, 3, math.MinInt}, {3, math.MaxInt}, {math.MaxInt, 1}, {math.MinInt, math.MaxInt},
}

// isLabel looks a list up among all labels.
func isLabel(l []int) bool {
	for _, c := range labelTexts {
		if slices.Equal(c.l, l) {
			return true
		}
	}
	return false
}

// noValues are lists that are no values.
var noValues = [][]int{
	nil, {}, {0}, {1}, {1, 1}, {0, 0}, {-1, 1}, {0, 0, 0, 0}, {1, -1, 0, 1}, {0, 0, 0, 0, 0, 0}, {1, 1, 1, 1, 1},
	{2, 0, 0}, {0, 2, 0}, {0, 0, 2}, {-2, 0, 0}, {0, -2, 0}, {0, 0, -2}, {2, 2, 2}, {-2, -2, -2}, {1, 1, 2}, {-1, -1, -2}, {-2, 1, 2}, {3, 0, 0}, {0, -3, 1},
	{math.MinInt, 0, 0}, {0, math.MaxInt, 0}, {1, -1, math.MinInt}, {math.MaxInt, 1, 1}, {1 << 32, 1, 1}, {1<<32 + 1, 1, 1}, {256, 0, 0}, {255, 0, 0},
}

func isValues(v []int) bool {
	if len(v) != 3 {
		return false
	}
	for _, n := range v {
		if n != -1 && n != 0 && n != 1 {
			return false
		}
	}
	return true
}

// everyValues calls visit with all 27 values.
func everyValues(visit func(v []int)) { everyList(3, []int{-1, 0, 1}, visit) }

// everyObserved calls visit with the eight values in which all propositions are observed.
func everyObserved(visit func(v []int)) { everyList(3, []int{-1, 1}, visit) }

// holdsUnder is what the document says of a label that holds: each proposition in it has the value that it asks for.
func holdsUnder(l, v []int) bool {
	for p := 1; p <= 3; p++ {
		if slices.Contains(l, p) && v[p-1] != 1 || slices.Contains(l, -p) && v[p-1] != -1 {
			return false
		}
	}
	return true
}

// contradictedUnder is what the document says of a label that is contradicted.
func contradictedUnder(l, v []int) bool {
	for p := 1; p <= 3; p++ {
		if slices.Contains(l, p) && v[p-1] == -1 || slices.Contains(l, -p) && v[p-1] == 1 {
			return true
		}
	}
	return false
}

func TestMaxProps(t *testing.T) {
	if impl.MaxProps != 3 {
		t.Errorf("MaxProps = %d", impl.MaxProps)
	}
}

func TestLabelOk(t *testing.T) {
	for _, c := range labelTexts {
		if !impl.LabelOk(c.l) {
			t.Errorf("LabelOk(%v) = false", c.l)
		}
	}
	for _, l := range noLabels {
		if impl.LabelOk(l) {
			t.Errorf("LabelOk(%v) = true", l)
		}
	}
	if !impl.LabelOk([]int{}) {
		t.Error("the empty label is not valid")
	}
	for _, long := range []int{4, 7, 1000, 100000} {
		for _, n := range []int{0, 1, -3, 4} {
			if impl.LabelOk(slices.Repeat([]int{n}, long)) {
				t.Errorf("%d times %d is a label", long, n)
			}
		}
	}
}

func TestEverySmallLabel(t *testing.T) {
	valid := 0
	for length := range 6 {
		everyList(length, []int{-4, -3, -2, -1, 0, 1, 2, 3, 4}, func(l []int) {
			is := isLabel(l)
			if is {
				valid++
			}
			if impl.LabelOk(l) != is {
				t.Errorf("LabelOk(%v) = %v", l, !is)
			}
		})
	}
	for length := range 4 {
		everyList(length, []int{math.MinInt, math.MinInt + 1, -3, -1, 0, 2, 3, math.MaxInt}, func(l []int) {
			if impl.LabelOk(l) != isLabel(l) {
				t.Errorf("LabelOk(%v) = %v", l, !isLabel(l))
			}
		})
	}
	if valid != 27 {
		t.Errorf("%d labels instead of 27", valid)
	}
}

func TestValuesOk(t *testing.T) {
	everyValues(func(v []int) {
		if !impl.ValuesOk(v) {
			t.Errorf("ValuesOk(%v) = false", v)
		}
	})
	for _, v := range noValues {
		if impl.ValuesOk(v) {
			t.Errorf("ValuesOk(%v) = true", v)
		}
	}
	for length := range 6 {
		everyList(length, []int{math.MinInt, -2, -1, 0, 1, 2, math.MaxInt}, func(v []int) {
			if impl.ValuesOk(v) != isValues(v) {
				t.Errorf("ValuesOk(%v) = %v", v, !isValues(v))
			}
		})
	}
	if impl.ValuesOk(make([]int, 100000)) {
		t.Error("100000 zeros are values")
	}
}

func TestLabelState(t *testing.T) {
	for _, c := range []struct {
		l, v []int
		want int
	}{
		{nil, []int{0, 0, 0}, 1}, {nil, []int{-1, 1, -1}, 1}, {[]int{}, []int{1, 1, 1}, 1},
		{[]int{1}, []int{1, 0, 0}, 1}, {[]int{1}, []int{0, 1, 1}, 0}, {[]int{1}, []int{-1, 1, 1}, -1},
		{[]int{-1}, []int{1, -1, -1}, -1}, {[]int{-1}, []int{0, -1, -1}, 0}, {[]int{-1}, []int{-1, 0, 0}, 1},
		{[]int{3}, []int{-1, -1, 1}, 1}, {[]int{3}, []int{1, 1, 0}, 0}, {[]int{3}, []int{1, 1, -1}, -1}, {[]int{-3}, []int{0, 0, -1}, 1}, {[]int{-2}, []int{0, 1, 0}, -1},
		// One literal is contradicted and another one is open.
		{[]int{1, 2}, []int{-1, 0, 0}, -1}, {[]int{1, 2}, []int{0, -1, 0}, -1}, {[]int{-1, 3}, []int{1, 0, 0}, -1}, {[]int{-1, 3}, []int{0, 1, -1}, -1},
		{[]int{1, 2, 3}, []int{0, 0, -1}, -1}, {[]int{-1, -2, -3}, []int{1, 0, 0}, -1}, {[]int{1, -2, 3}, []int{0, 1, 0}, -1},
		{[]int{1, 2}, []int{1, 0, 0}, 0}, {[]int{1, 2}, []int{0, 1, 0}, 0}, {[]int{1, 2}, []int{0, 0, 1}, 0}, {[]int{1, 2}, []int{1, 1, 0}, 1},
		{[]int{1, -2, 3}, []int{1, -1, 1}, 1}, {[]int{1, -2, 3}, []int{1, -1, 0}, 0}, {[]int{1, -2, 3}, []int{1, -1, -1}, -1}, {[]int{1, -2, 3}, []int{1, 1, 1}, -1},
		// The label or the values are not valid.
		{[]int{0}, []int{1, 1, 1}, -1}, {[]int{4}, []int{1, 1, 1}, -1}, {[]int{-4}, []int{-1, -1, -1}, -1}, {[]int{1, 1}, []int{1, 1, 1}, -1}, {[]int{2, 1}, []int{1, 1, 1}, -1},
		{[]int{1, 0}, []int{1, 1, 1}, -1}, {[]int{1}, []int{1, 1, 2}, -1}, {[]int{1}, []int{1}, -1}, {[]int{1}, []int{1, 0, 0, 0}, -1}, {[]int{1}, nil, -1},
		{nil, nil, -1}, {nil, []int{}, -1}, {nil, []int{0, 0}, -1}, {nil, []int{0, 0, 0, 0}, -1}, {nil, []int{0, 0, 2}, -1}, {nil, []int{-2, 0, 0}, -1},
		{[]int{2, 1}, []int{0, 0, 0}, -1}, {[]int{1, -1}, []int{0, 0, 0}, -1}, {[]int{math.MinInt}, []int{0, 0, 0}, -1}, {[]int{math.MaxInt}, []int{1, 1, 1}, -1}, {[]int{0}, nil, -1},
	} {
		if got := impl.LabelState(c.l, c.v); got != c.want {
			t.Errorf("LabelState(%v, %v) = %d, want %d", c.l, c.v, got, c.want)
		}
	}
}

// Under values that are observed in part, a label holds if it holds for all values that may still be observed,
// and is contradicted if it holds for none of them.
func TestLabelStateOfAllLabels(t *testing.T) {
	count := map[int]int{}
	for _, c := range labelTexts {
		everyValues(func(v []int) {
			want := 0
			if holdsUnder(c.l, v) {
				want = 1
			} else if contradictedUnder(c.l, v) {
				want = -1
			}
			got := impl.LabelState(c.l, v)
			if got != want {
				t.Errorf("LabelState(%v, %v) = %d, want %d", c.l, v, got, want)
			}
			all, some := true, false
			everyObserved(func(more []int) {
				for i, n := range v {
					if n != 0 && n != more[i] {
						return
					}
				}
				all = all && holdsUnder(c.l, more)
				some = some || holdsUnder(c.l, more)
			})
			if all != (got == 1) || some != (got != -1) {
				t.Errorf("LabelState(%v, %v) = %d, but of all values after it, it holds for all %v, for some %v", c.l, v, got, all, some)
			}
			count[got]++
		})
	}
	// For each proposition, the label and the value have 3 * 3 cases, of which 5 hold and 2 are open.
	if count[1] != 125 || count[0] != 343-125 || count[-1] != 729-343 {
		t.Errorf("%v labels in each state", count)
	}
}

func TestLabelStateOfInvalidArguments(t *testing.T) {
	for _, l := range noLabels {
		everyValues(func(v []int) {
			if got := impl.LabelState(l, v); got != -1 {
				t.Errorf("LabelState(%v, %v) = %d", l, v, got)
			}
		})
	}
	for _, v := range noValues {
		for _, c := range labelTexts {
			if got := impl.LabelState(c.l, v); got != -1 {
				t.Errorf("LabelState(%v, %v) = %d", c.l, v, got)
			}
		}
		for _, l := range noLabels {
			if got := impl.LabelState(l, v); got != -1 {
				t.Errorf("LabelState(%v, %v) = %d", l, v, got)
			}
		}
	}
}

func TestJoinLabels(t *testing.T) {
	for _, c := range []struct {
		a, b, want []int
		ok         bool
	}{
		{nil, nil, nil, true}, {nil, []int{}, nil, true}, {[]int{1}, nil, []int{1}, true}, {nil, []int{-3}, []int{-3}, true}, {[]int{}, []int{1, -2, 3}, []int{1, -2, 3}, true},
		{[]int{1}, []int{2}, []int{1, 2}, true}, {[]int{2}, []int{1}, []int{1, 2}, true}, {[]int{-3}, []int{1}, []int{1, -3}, true}, {[]int{2}, []int{1, 3}, []int{1, 2, 3}, true},
		{[]int{1, 3}, []int{-2}, []int{1, -2, 3}, true}, {[]int{-1, -2}, []int{-2, -3}, []int{-1, -2, -3}, true}, {[]int{-2, 3}, []int{-1, -2}, []int{-1, -2, 3}, true},
		{[]int{1}, []int{1}, []int{1}, true}, {[]int{-2}, []int{-2}, []int{-2}, true}, {[]int{1, -2, 3}, []int{1, -2, 3}, []int{1, -2, 3}, true}, {[]int{1, -2, 3}, []int{-2}, []int{1, -2, 3}, true},
		{[]int{1}, []int{-1}, nil, false}, {[]int{-3}, []int{3}, nil, false}, {[]int{1, 2}, []int{-2}, nil, false}, {[]int{-2}, []int{1, 2}, nil, false},
		{[]int{1, 2, 3}, []int{1, 2, -3}, nil, false}, {[]int{1, 2, 3}, []int{-1, 2, 3}, nil, false}, {[]int{1, 2}, []int{-2, 3}, nil, false}, {[]int{1, 2, 3}, []int{-1, -2, -3}, nil, false},
		{[]int{0}, []int{1}, nil, false}, {[]int{1}, []int{0}, nil, false}, {[]int{0}, nil, nil, false}, {nil, []int{4}, nil, false}, {[]int{2, 1}, []int{1}, nil, false}, {[]int{3}, []int{2, 1}, nil, false},
		{[]int{1, 1}, []int{1, 1}, nil, false}, {[]int{1, 1}, nil, nil, false}, {[]int{1, -1}, nil, nil, false}, {[]int{math.MinInt}, []int{1}, nil, false}, {nil, []int{1, 2, 3, 4}, nil, false},
	} {
		if got, ok := impl.JoinLabels(c.a, c.b); ok != c.ok || !slices.Equal(got, c.want) {
			t.Errorf("JoinLabels(%v, %v) = %v, %v, want %v, %v", c.a, c.b, got, ok, c.want, c.ok)
		}
	}
}

// A joined label holds exactly if both of its parts hold, and there is one exactly if they can both hold.
func TestJoinAndImpliesOfAllLabels(t *testing.T) {
	joined, implied := 0, 0
	for _, a := range labelTexts {
		for _, b := range labelTexts {
			l, ok := impl.JoinLabels(a.l, b.l)
			some, implies := false, true
			everyObserved(func(v []int) {
				both := holdsUnder(a.l, v) && holdsUnder(b.l, v)
				some = some || both
				implies = implies && (!holdsUnder(a.l, v) || holdsUnder(b.l, v))
				if ok && holdsUnder(l, v) != both {
					t.Errorf("JoinLabels(%v, %v) = %v, of which it is %v that it holds under %v", a.l, b.l, l, !both, v)
				}
			})
			everyValues(func(v []int) {
				if least := min(impl.LabelState(a.l, v), impl.LabelState(b.l, v)); ok && impl.LabelState(l, v) != least {
					t.Errorf("JoinLabels(%v, %v) = %v, of which the state under %v is not %d", a.l, b.l, l, v, least)
				}
			})
			if ok != some || ok && !isLabel(l) || !ok && len(l) != 0 {
				t.Errorf("JoinLabels(%v, %v) = %v, %v", a.l, b.l, l, ok)
			}
			if back, is := impl.JoinLabels(b.l, a.l); is != ok || !slices.Equal(l, back) {
				t.Errorf("JoinLabels(%v, %v) = %v, %v, but the other way round %v, %v", a.l, b.l, l, ok, back, is)
			}
			if impl.ImpliesLabel(a.l, b.l) != implies || implies != (ok && slices.Equal(l, a.l)) {
				t.Errorf("ImpliesLabel(%v, %v) = %v", a.l, b.l, !implies)
			}
			if ok {
				joined++
			}
			if implies {
				implied++
			}
		}
	}
	// For each proposition, 7 of 9 pairs have a joined label, and 5 of 9 are implied.
	if joined != 343 || implied != 125 {
		t.Errorf("%d joined labels and %d implied ones", joined, implied)
	}
}

func TestImpliesLabel(t *testing.T) {
	for _, c := range []struct {
		a, b []int
		want bool
	}{
		{nil, nil, true}, {nil, []int{}, true}, {[]int{1}, nil, true}, {nil, []int{1}, false}, {[]int{1}, []int{1}, true}, {[]int{1}, []int{-1}, false}, {[]int{-1}, []int{1}, false},
		{[]int{1, 2}, []int{2}, true}, {[]int{2}, []int{1, 2}, false}, {[]int{1, -2, 3}, []int{1, 3}, true}, {[]int{1, -2, 3}, []int{1, 2}, false}, {[]int{1, -2, 3}, []int{-2, 3}, true},
		{[]int{1, -2, 3}, []int{1, -2, 3}, true}, {[]int{1, -2}, []int{1, -2, 3}, false}, {[]int{3}, []int{2}, false}, {[]int{1, 2, 3}, []int{1, 2, -3}, false}, {[]int{1, 2, 3}, []int{-1, 2, 3}, false},
		{[]int{0}, []int{0}, false}, {[]int{0}, nil, false}, {nil, []int{0}, false}, {[]int{4}, []int{4}, false}, {[]int{1, 1}, []int{1, 1}, false}, {[]int{1, 1}, []int{1}, false},
		{[]int{1}, []int{1, 1}, false}, {[]int{2, 1}, []int{2, 1}, false}, {[]int{2, 1}, []int{1}, false}, {[]int{1, 2}, []int{2, 1}, false}, {[]int{1, -1}, nil, false}, {[]int{1, 2, 3, 4}, []int{1}, false},
		{[]int{1, 0}, []int{1}, false}, {[]int{math.MinInt}, []int{math.MinInt}, false}, {[]int{math.MaxInt}, nil, false}, {nil, []int{math.MinInt}, false},
	} {
		if got := impl.ImpliesLabel(c.a, c.b); got != c.want {
			t.Errorf("ImpliesLabel(%v, %v) = %v", c.a, c.b, got)
		}
	}
}

func TestJoinAndImpliesOfInvalidLabels(t *testing.T) {
	check := func(a, b []int) {
		if l, ok := impl.JoinLabels(a, b); ok || len(l) != 0 {
			t.Errorf("JoinLabels(%v, %v) = %v, %v", a, b, l, ok)
		}
		if impl.ImpliesLabel(a, b) {
			t.Errorf("ImpliesLabel(%v, %v) = true", a, b)
		}
	}
	for _, l := range noLabels {
		for _, other := range noLabels {
			check(l, other)
		}
		for _, c := range labelTexts {
			check(l, c.l)
			check(c.l, l)
		}
	}
}

func TestWithoutLiteral(t *testing.T) {
	least := math.MinInt
	for _, c := range []struct {
		l    []int
		p    int
		want []int
	}{
		{[]int{1, -2, 3}, 1, []int{-2, 3}}, {[]int{1, -2, 3}, -1, []int{-2, 3}}, {[]int{1, -2, 3}, 2, []int{1, 3}}, {[]int{1, -2, 3}, -2, []int{1, 3}}, {[]int{1, -2, 3}, 3, []int{1, -2}}, {[]int{1, -2, 3}, -3, []int{1, -2}},
		{[]int{1, -2, 3}, 0, []int{1, -2, 3}}, {[]int{1, -2, 3}, 4, []int{1, -2, 3}}, {[]int{1, -2, 3}, -4, []int{1, -2, 3}}, {[]int{1, -2, 3}, least, []int{1, -2, 3}}, {[]int{1, -2, 3}, math.MaxInt, []int{1, -2, 3}},
		{[]int{2}, 2, nil}, {[]int{2}, -2, nil}, {[]int{-2}, 2, nil}, {[]int{-2}, -2, nil}, {[]int{2}, 1, []int{2}}, {[]int{-2}, 3, []int{-2}},
		{nil, 1, nil}, {nil, 0, nil}, {[]int{}, -1, nil}, {nil, least, nil},
		// These lists are no labels.
		{[]int{0}, 1, []int{0}}, {[]int{0}, 0, nil}, {[]int{1, 0, 2}, 0, []int{1, 2}}, {[]int{1, 0, 2}, 1, []int{0, 2}}, {[]int{0, 3, 0}, 3, []int{0, 0}},
		{[]int{1, 1}, 1, nil}, {[]int{1, -1, 1}, 1, nil}, {[]int{1, -1, 1}, -1, nil}, {[]int{1, 2, -1, 2, 1}, 1, []int{2, 2}}, {[]int{1, 2, -1, 2, 1}, 2, []int{1, -1, 1}}, {[]int{1, 2, -1, 2, 1}, 3, []int{1, 2, -1, 2, 1}},
		{[]int{3, 2, 1}, 2, []int{3, 1}}, {[]int{3, 2, 1}, 5, []int{3, 2, 1}}, {[]int{-3, 9, 3, -9}, 9, []int{-3, 3}}, {[]int{4, 5, 6, 7}, -6, []int{4, 5, 7}},
		{[]int{least, 1}, 1, []int{least}}, {[]int{least, 1}, least, []int{1}}, {[]int{1, least, least, 2}, least, []int{1, 2}}, {[]int{least, 0, 1}, 0, []int{least, 1}},
		{[]int{least, math.MaxInt}, least, []int{math.MaxInt}}, {[]int{least, least + 1, math.MaxInt}, math.MaxInt, []int{least}}, {[]int{least, least + 1, math.MaxInt}, least + 1, []int{least}},
	} {
		if got := impl.WithoutLiteral(c.l, c.p); !slices.Equal(got, c.want) {
			t.Errorf("WithoutLiteral(%v, %d) = %v, want %v", c.l, c.p, got, c.want)
		}
	}
}

// taken are the numbers that WithoutLiteral takes out for p: the least int has no negative of its own.
func taken(p int) []int {
	if p == math.MinInt {
		return []int{p}
	}
	return []int{p, -p}
}

func TestWithoutLiteralOfEverySmallList(t *testing.T) {
	some, none := 0, 0
	numbers := []int{math.MinInt, -4, -3, -2, -1, 0, 1, 2, 3, math.MaxInt}
	for length := range 5 {
		everyList(length, numbers, func(l []int) {
			for _, p := range append([]int{math.MinInt + 1, 4}, numbers...) {
				var want []int
				for _, n := range l {
					if !slices.Contains(taken(p), n) {
						want = append(want, n)
					}
				}
				got := impl.WithoutLiteral(l, p)
				if !slices.Equal(got, want) {
					t.Fatalf("WithoutLiteral(%v, %d) = %v, want %v", l, p, got, want)
				}
				if len(got) < len(l) {
					some++
				} else {
					none++
				}
			}
		})
	}
	if some < 40000 || none < 40000 {
		t.Errorf("%d lists with p and %d without it are too few", some, none)
	}
}

// Without a proposition, a label says the same of all others, and nothing of this one.
func TestWithoutLiteralOfAllLabels(t *testing.T) {
	for _, c := range labelTexts {
		for p := 1; p <= 3; p++ {
			l := impl.WithoutLiteral(c.l, p)
			if !isLabel(l) || !slices.Equal(l, impl.WithoutLiteral(c.l, -p)) {
				t.Errorf("WithoutLiteral(%v, %d) = %v", c.l, p, l)
			}
			everyValues(func(v []int) {
				open, fits := slices.Clone(v), slices.Clone(v)
				open[p-1], fits[p-1] = 0, 1
				if slices.Contains(c.l, -p) {
					fits[p-1] = -1
				}
				if state := impl.LabelState(l, v); state != impl.LabelState(c.l, fits) || state != impl.LabelState(l, open) {
					t.Errorf("WithoutLiteral(%v, %d) = %v, which is in the state %d under %v", c.l, p, l, state, v)
				}
			})
		}
	}
}

func TestFormatLabel(t *testing.T) {
	for _, c := range labelTexts {
		if got := impl.FormatLabel(c.l); got != c.text {
			t.Errorf("FormatLabel(%v) = %q, want %q", c.l, got, c.text)
		}
	}
	if got := impl.FormatLabel([]int{}); got != "-" {
		t.Errorf("FormatLabel of an empty list = %q", got)
	}
	for _, l := range append(noLabels, slices.Repeat([]int{1}, 100000)) {
		if got := impl.FormatLabel(l); got != "" {
			t.Errorf("FormatLabel of the invalid %v = %q", l[:min(len(l), 9)], got)
		}
	}
}

func TestParseLabel(t *testing.T) {
	for _, c := range labelTexts {
		if l, ok := impl.ParseLabel(c.text); !ok || !slices.Equal(l, c.l) {
			t.Errorf("ParseLabel(%q) = %v, %v, want %v", c.text, l, ok, c.l)
		}
	}
}

func TestParseLabelRefuses(t *testing.T) {
	for _, s := range []string{
		"", " ", "&", "&&", "--", "-&", "&-", "-&-", "-&p1", "p1&-", "!-", "- ", " -", "-\n", "p-", "-p1", "-1",
		"!", "!!", "!&!", "p1&!", "!&p1", "p", "!p", "p&p", "p1&p", "p&p1", "!!p1", "!!!p1", "!1", "1", "2&3", "p!1", "p1!", "1p", "pp1", "!pp1", "p1p2", "p1!p2",
		"p0", "!p0", "p4", "!p4", "p5", "p9", "p10", "p11", "p12", "p00", "p01", "!p01", "p001", "p+1", "p-1", "!p-1", "p--1", "p 1", "p1 ", " p1", "! p1", "!p1 ", "p1\n", "\np1", "p1\t", "p1\r", "p1\x00", "\x00p1", "p1.0", "p1e0", "p0x1", "p1_0",
		"P1", "!P1", "P1&p2", "q1", "prop1", "¬p1", "~p1", "not p1", "p1 & p2", "p1& p2", "p1 &p2", "p1,p2", "p1 p2", "p1|p2", "p1+p2", "p1&&p2", "p1&!&p2", "p1;p2", "p1/p2",
		"&p1", "p1&", "&p1&p2", "p1&p2&", "&!p3", "!p3&", "p1&p2&p3&", "&p1&p2&p3",
		"p2&p1", "p3&p1", "p3&p2", "!p2&p1", "p3&p2&p1", "p1&p3&p2", "p2&p1&p3", "!p3&!p2&!p1",
		"p1&p1", "!p1&!p1", "p1&!p1", "!p1&p1", "p2&!p2", "p3&p3", "p1&p2&p2", "p1&p1&p2", "p1&p2&p3&p3", "p1&p2&p3&p1", "p1&p2&p3&p4", "p0&p1", "p1&p4", "p1&p2&p4",
		"\u00df", "p\u0661", "p\uff11", "\uff501", "p1\u0026\uff50", "p1\uff06p2", "\uff01p1", "p\u00b9", "p1\u00a0", "\ufeffp1", "p\xff", "\xffp1", "p1\x80", "\x80", "\xc0\xad", "p1\xc2&p2", "p1&\xffp2", "p1\xa6p2", "\xe2\x80p1",
		"p9223372036854775807", "p9223372036854775808", "!p9223372036854775808", "p-9223372036854775808", "!p-9223372036854775808", "!p-9223372036854775807", "p18446744073709551617", "!p18446744073709551617", "p4294967297", "!p4294967297",
		"p" + strings.Repeat("9", 400), "p" + strings.Repeat("0", 400) + "1", "p" + strings.Repeat("1", 100000), strings.Repeat("!", 100000) + "p1", strings.Repeat("!", 100001) + "p1", strings.Repeat("p", 100000) + "1",
		strings.Repeat("p1&", 100000) + "p1", strings.Repeat("&", 100000), strings.Repeat("-", 100000), "p1&p2&p3" + strings.Repeat("&", 100000), "p1&p2&p3" + strings.Repeat(" ", 100000), strings.Repeat("p1&p2&p3&", 30000),
	} {
		if l, ok := impl.ParseLabel(s); ok || len(l) != 0 {
			t.Errorf("ParseLabel(%q) = %v, %v", s[:min(len(s), 30)], l, ok)
		}
	}
}

func TestLabelTextsAreRecovered(t *testing.T) {
	labels := map[string][]int{}
	for _, c := range labelTexts {
		labels[c.text] = c.l
	}
	found := 0
	check := func(s string) {
		want, is := labels[s]
		l, ok := impl.ParseLabel(s)
		if ok != is || !slices.Equal(l, want) || ok && impl.FormatLabel(l) != s {
			t.Fatalf("ParseLabel(%q) = %v, %v", s, l, ok)
		}
		if ok {
			found++
		}
	}
	every("!&p-01234P +", 5, check)
	every("!&p123", 7, check)
	if found == 0 {
		t.Error("no text of a label was tried")
	}
	// Each text of a label with one byte less, one more, another one, or two of them changed round.
	for _, c := range labelTexts {
		for i := range len(c.text) + 1 {
			for b := range 256 {
				check(c.text[:i] + string([]byte{byte(b)}) + c.text[i:])
				if i < len(c.text) {
					check(c.text[:i] + string([]byte{byte(b)}) + c.text[i+1:])
				}
			}
			if i < len(c.text) {
				check(c.text[:i] + c.text[i+1:])
			}
			check(c.text[i:] + c.text[:i])
		}
	}
	// All lists of up to four words that are literals or nearly so.
	words := []string{"", "-", "!", "p", "p0", "p1", "p2", "p3", "p4", "!p0", "!p1", "!p2", "!p3", "!p4", "1", "!2", "!!p3", "p01", " p2", "p3 "}
	for length := 1; length <= 4; length++ {
		everyList(length, spread(len(words)), func(l []int) {
			var chosen []string
			for _, i := range l {
				chosen = append(chosen, words[i])
			}
			check(strings.Join(chosen, "&"))
		})
	}
}

// spread returns the integers from 0 up to n.
func spread(n int) []int {
	var all []int
	for i := range n {
		all = append(all, i)
	}
	return all
}

func TestTextsOfEverySmallList(t *testing.T) {
	for length := range 5 {
		everyList(length, []int{math.MinInt, -4, -3, -2, -1, 0, 1, 2, 3, 4, math.MaxInt}, func(l []int) {
			text := impl.FormatLabel(l)
			back, ok := impl.ParseLabel(text)
			if ok != isLabel(l) || ok != (text != "") || ok && !slices.Equal(back, l) {
				t.Fatalf("FormatLabel(%v) = %q, which is read as %v, %v", l, text, back, ok)
			}
		})
	}
}

func TestCountValues(t *testing.T) {
	for _, c := range []struct {
		v    []int
		want int
	}{
		{nil, 0}, {[]int{}, 0}, {[]int{0}, 1}, {[]int{1}, 0}, {[]int{-1}, 0}, {[]int{1, -1, 1}, 0}, {[]int{0, 0, 0}, 3}, {[]int{1, 0, -1}, 1}, {[]int{0, 1, 0}, 2}, {[]int{-1, -1, 0}, 1},
		// These lists are no values.
		{[]int{0, 0}, 2}, {[]int{0, 0, 0, 0}, 4}, {[]int{5, 0, -7, 0, 2}, 2}, {[]int{math.MinInt, 0, math.MaxInt}, 1}, {[]int{math.MinInt, math.MaxInt}, 0}, {[]int{1 << 32, -1 << 32, 256}, 0}, {[]int{2, 2, 2}, 0}, {[]int{2, 0, 0}, 2},
		{make([]int, 100000), 100000}, {slices.Repeat([]int{0, 1, -1, 4}, 25000), 25000},
	} {
		if got := impl.CountValues(c.v); got != c.want {
			t.Errorf("CountValues(%v) = %d, want %d", c.v[:min(len(c.v), 9)], got, c.want)
		}
	}
	for length := range 6 {
		everyList(length, []int{math.MinInt, -1, 0, 1, 2}, func(v []int) {
			want := 0
			for i := range v {
				if v[i] == 0 {
					want++
				}
			}
			if got := impl.CountValues(v); got != want {
				t.Errorf("CountValues(%v) = %d, want %d", v, got, want)
			}
		})
	}
}

// callLabelFunctions calls all functions of the chapter that take lists.
func callLabelFunctions(a, b []int) {
	impl.LabelOk(a)
	impl.ValuesOk(a)
	impl.LabelState(a, b)
	impl.JoinLabels(a, b)
	impl.ImpliesLabel(a, b)
	impl.FormatLabel(a)
	impl.CountValues(a)
	for _, p := range []int{math.MinInt, -4, -3, -2, -1, 0, 1, 2, 3, 4, math.MaxInt} {
		impl.WithoutLiteral(a, p)
	}
}

func TestLabelArgumentsAreKept(t *testing.T) {
	var lists [][]int
	for _, c := range labelTexts {
		lists = append(lists, c.l)
	}
	lists = slices.Concat(lists, noLabels, noValues, [][]int{{1, 0, -1}, {0, 0, 0}, {-1, -1, 1}})
	// Behind each list there is spare capacity, which must be kept as well.
	for _, first := range lists {
		for _, second := range lists {
			a := append(slices.Clone(first), -66, 3, 2, 1, 0, -66)
			b := append(slices.Clone(second), -77, 3, 2, 1, 0, -77)
			keptA, keptB := slices.Clone(a), slices.Clone(b)
			callLabelFunctions(a[:len(first)], b[:len(second)])
			if !slices.Equal(a, keptA) || !slices.Equal(b, keptB) {
				t.Fatalf("an argument has changed: %v to %v or %v to %v", keptA, a, keptB, b)
			}
			// Both arguments may be the same list.
			callLabelFunctions(a[:len(first)], a[:len(first)])
			if !slices.Equal(a, keptA) {
				t.Fatalf("an argument has changed: %v to %v", keptA, a)
			}
		}
	}
}

func TestLabelResultsAreNew(t *testing.T) {
	joined := func(a, b []int) func() []int {
		return func() []int { l, _ := impl.JoinLabels(a, b); return l }
	}
	for _, c := range labelTexts {
		if len(c.l) == 0 {
			continue
		}
		// There is room to grow behind the label.
		spare := append(slices.Clone(c.l), -66, -66, -66, -66)
		before := slices.Clone(spare)
		l := spare[:len(c.l)]
		checkNewList(t, "JoinLabels", 77, joined(l, l))
		checkNewList(t, "JoinLabels", 77, joined(l, nil))
		checkNewList(t, "JoinLabels", 77, joined(nil, l))
		checkNewList(t, "JoinLabels", 77, joined(l, l[:1]))
		checkNewList(t, "JoinLabels", 77, joined(l[:1], l))
		checkNewList(t, "JoinLabels", 77, joined(l[:1], l[1:]))
		checkNewList(t, "ParseLabel", 77, func() []int { l, _ := impl.ParseLabel(c.text); return l })
		// Nothing is taken, or nothing behind or before what is kept.
		for _, p := range []int{0, 4, -4, math.MinInt, math.MaxInt} {
			checkNewList(t, "WithoutLiteral", 77, func() []int { return impl.WithoutLiteral(l, p) })
		}
		for p := -3; p <= 3; p++ {
			if len(impl.WithoutLiteral(l, p)) > 0 {
				checkNewList(t, "WithoutLiteral", 77, func() []int { return impl.WithoutLiteral(l, p) })
			}
		}
		if !slices.Equal(spare, before) {
			t.Errorf("a label has changed: %v, want %v", spare, before)
		}
	}
	checkNewList(t, "WithoutLiteral", 77, func() []int { return impl.WithoutLiteral([]int{0, 5, 5, math.MinInt}, 1) })
}

func TestNilAndEmptyLabelsAreEquivalent(t *testing.T) {
	empty := [][]int{nil, {}, make([]int, 0, 5), []int{1, 2, 3}[:0]}
	for _, a := range empty {
		if !impl.LabelOk(a) || impl.ValuesOk(a) || impl.FormatLabel(a) != "-" || impl.CountValues(a) != 0 || len(impl.WithoutLiteral(a, 1)) != 0 {
			t.Errorf("an empty list is not the empty label: %v", a)
		}
		everyValues(func(v []int) {
			if impl.LabelState(a, v) != 1 {
				t.Errorf("the empty label does not hold under %v", v)
			}
		})
		for _, b := range empty {
			if l, ok := impl.JoinLabels(a, b); !ok || len(l) != 0 || !impl.ImpliesLabel(a, b) || impl.LabelState(a, b) != -1 {
				t.Errorf("two empty labels are not one: %v, %v", l, ok)
			}
		}
		for _, c := range labelTexts {
			if l, ok := impl.JoinLabels(a, c.l); !ok || !slices.Equal(l, c.l) || !impl.ImpliesLabel(c.l, a) || impl.ImpliesLabel(a, c.l) != (len(c.l) == 0) {
				t.Errorf("an empty label changes %v: %v, %v", c.l, l, ok)
			}
		}
	}
	if l, ok := impl.ParseLabel("-"); !ok || len(l) != 0 {
		t.Errorf("ParseLabel(\"-\") = %v, %v", l, ok)
	}
}
