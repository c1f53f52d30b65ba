package tests

import (
	"fmt"
	"math"
	"math/rand"
	"slices"
	"strings"
	"testing"

	"loop.example/g00827/impl"
)

func choice(lengths []int, values ...int) impl.Choice {
	return impl.Choice{Lengths: lengths, Values: values}
}

func sameChoices(a, b impl.Choice) bool {
	return slices.Equal(a.Lengths, b.Lengths) && slices.Equal(a.Values, b.Values)
}

func cloneChoice(c impl.Choice) impl.Choice {
	return impl.Choice{Lengths: slices.Clone(c.Lengths), Values: slices.Clone(c.Values)}
}

// isNoChoice and isNoSimple tell zero values.
func isNoChoice(c impl.Choice) bool { return len(c.Lengths) == 0 && len(c.Values) == 0 }

func isNoSimple(s impl.Simple) bool { return s.Events == 0 && len(s.Links) == 0 }

// freeAmong are the indices of the Free ties of a show, valid or not.
func freeAmong(s impl.Show) []int {
	var list []int
	for i, x := range s.Ties {
		if x.Free {
			list = append(list, i)
		}
	}
	return list
}

// lengthsOf are the lengths of a Free tie in ascending order, and valuesOf the values of a proposition in the order of their numbers.
func lengthsOf(x impl.Tie) []int {
	var list []int
	for n := x.Low; n <= x.High; n++ {
		list = append(list, n)
	}
	return list
}

func valuesOf(s impl.Show, p int) []int {
	if watcherAmong(s.Nodes, p) >= 0 {
		return []int{1, -1}
	}
	return []int{1}
}

// course is what the document says of choices of one show. That the show is valid is looked up once.
type course struct {
	s     impl.Show
	valid bool
}

func courseOf(s impl.Show) course { return course{s, isShow(s)} }

func (k course) free() []int {
	if !k.valid {
		return nil
	}
	return freeAmong(k.s)
}

func (k course) isChoice(c impl.Choice) bool {
	ties := freeAmong(k.s)
	if !k.valid || len(c.Lengths) != len(ties) || len(c.Values) != 3 {
		return false
	}
	for i, tie := range ties {
		if !slices.Contains(lengthsOf(k.s.Ties[tie]), c.Lengths[i]) {
			return false
		}
	}
	for i, value := range c.Values {
		if !slices.Contains(valuesOf(k.s, i+1), value) {
			return false
		}
	}
	return true
}

func (k course) count() int {
	if !k.valid {
		return 0
	}
	n := 1
	for _, i := range freeAmong(k.s) {
		n *= len(lengthsOf(k.s.Ties[i]))
	}
	for p := 1; p <= 3; p++ {
		n *= len(valuesOf(k.s, p))
	}
	return n
}

func (k course) at(n int) (impl.Choice, bool) {
	if n < 0 || n >= k.count() {
		return impl.Choice{}, false
	}
	var c impl.Choice
	for _, i := range freeAmong(k.s) {
		lengths := k.s.Ties[i].High - k.s.Ties[i].Low + 1
		c.Lengths = append(c.Lengths, k.s.Ties[i].Low+n%lengths)
		n = n / lengths
	}
	for p := 1; p <= 3; p++ {
		switch {
		case watcherAmong(k.s.Nodes, p) < 0:
			c.Values = append(c.Values, 1)
			continue
		case n%2 == 0:
			c.Values = append(c.Values, 1)
		default:
			c.Values = append(c.Values, -1)
		}
		n = n / 2
	}
	return c, true
}

func (k course) happens(c impl.Choice, node int) bool {
	return k.isChoice(c) && isNodeOf(k.s, node) && holdsUnder(k.s.Nodes[node].Label, c.Values)
}

func (k course) project(c impl.Choice) (impl.Simple, bool) {
	if !k.isChoice(c) {
		return impl.Simple{}, false
	}
	here, away, ties, after, taken := []link{}, []link{}, []link{}, []link{}, 0
	for i, n := range k.s.Nodes {
		if !k.happens(c, i) {
			away = append(away, link{0, i, 0, 0})
			continue
		}
		here = append(here, link{0, i, 0, k.s.Horizon})
		for _, x := range n.Label {
			after = append(after, link{watcherAmong(k.s.Nodes, max(x, -x)), i, 1, inf})
		}
	}
	for _, x := range k.s.Ties {
		low, high := x.Low, x.High
		if x.Free {
			low, high = c.Lengths[taken], c.Lengths[taken]
			taken++
		}
		if k.happens(c, x.From) && k.happens(c, x.To) {
			ties = append(ties, link{x.From, x.To, low, high})
		}
	}
	return simple(len(k.s.Nodes), slices.Concat(here, ties, away, after)...), true
}

// everyChoice calls visit with all choices of a valid show in the order of their numbers. They are counted like
// kilometres: the length of the first Free tie turns first, and the value of the last proposition last.
func everyChoice(s impl.Show, visit func(n int, c impl.Choice)) {
	var wheels [][]int
	for _, i := range freeAmong(s) {
		wheels = append(wheels, lengthsOf(s.Ties[i]))
	}
	lengths := len(wheels)
	for p := 1; p <= 3; p++ {
		wheels = append(wheels, valuesOf(s, p))
	}
	at := make([]int, len(wheels))
	for n, turned := 0, 0; turned < len(wheels); n++ {
		var list []int
		for i, wheel := range wheels {
			list = append(list, wheel[at[i]])
		}
		visit(n, choice(list[:lengths:lengths], list[lengths:]...))
		for turned = 0; turned < len(wheels); turned++ {
			at[turned]++
			if at[turned] < len(wheels[turned]) {
				break
			}
			at[turned] = 0
		}
	}
}

// wouldBe is a choice that would be valid for a show if the show were, wherever the choice can be blamed for nothing.
func wouldBe(s impl.Show) impl.Choice {
	c := choice(nil, 1, 1, 1)
	for _, i := range freeAmong(s) {
		c.Lengths = append(c.Lengths, s.Ties[i].Low)
	}
	return c
}

// changesOf are choices that differ from c in one place, or in their lengths. Some of them may be valid too.
func changesOf(c impl.Choice) []impl.Choice {
	list := []impl.Choice{{}, {Lengths: c.Lengths}, {Values: c.Values}, {Lengths: c.Values, Values: c.Lengths}}
	add := func(lengths, values []int) { list = append(list, choice(lengths, values...)) }
	for _, n := range []int{math.MinInt, -1 << 32, -21, -2, -1, 0, 1, 2, 3, 20, 21, 1 << 32, 1<<32 + 1, math.MaxInt} {
		for i := range c.Lengths {
			add(slices.Concat(c.Lengths[:i], []int{n}, c.Lengths[i+1:]), c.Values)
		}
		for i := range c.Values {
			add(c.Lengths, slices.Concat(c.Values[:i], []int{n}, c.Values[i+1:]))
		}
		add(slices.Concat(c.Lengths, []int{n}), c.Values)
		add(slices.Concat([]int{n}, c.Lengths), c.Values)
		add(c.Lengths, slices.Concat(c.Values, []int{n}))
		add(c.Lengths, slices.Concat([]int{n}, c.Values))
	}
	for i, n := range c.Lengths {
		add(slices.Concat(c.Lengths[:i], c.Lengths[i+1:]), c.Values)
		add(slices.Concat(c.Lengths[:i], []int{n + 1}, c.Lengths[i+1:]), c.Values)
		add(slices.Concat(c.Lengths[:i], []int{n - 1}, c.Lengths[i+1:]), c.Values)
		for k := range i {
			l := slices.Clone(c.Lengths)
			l[i], l[k] = l[k], l[i]
			add(l, c.Values)
		}
	}
	for i, n := range c.Values {
		add(c.Lengths, slices.Concat(c.Values[:i], c.Values[i+1:]))
		add(c.Lengths, slices.Concat(c.Values[:i], []int{-n}, c.Values[i+1:]))
	}
	return list
}

// checkChoice compares the functions that take a choice with the document's words, and reports whether it is valid.
func checkChoice(t *testing.T, k course, c impl.Choice) bool {
	t.Helper()
	is := k.isChoice(c)
	if impl.ChoiceOk(k.s, c) != is {
		t.Fatalf("ChoiceOk(%v, %v) = %v", k.s, c, !is)
	}
	for n := -1; n <= len(k.s.Nodes); n++ {
		if want := k.happens(c, n); impl.HappensIn(k.s, c, n) != want {
			t.Fatalf("HappensIn(%v, %v, %d) = %v", k.s, c, n, !want)
		}
	}
	want, _ := k.project(c)
	if got, ok := impl.ProjectShow(k.s, c); ok != is || !sameSimples(got, want) {
		t.Fatalf("ProjectShow(%v, %v) = %v, %v, want %v", k.s, c, got, ok, want)
	}
	return is
}

// checkNumber compares ChoiceAt with the document's words, and returns the choice.
func checkNumber(t *testing.T, k course, n int) impl.Choice {
	t.Helper()
	want, is := k.at(n)
	got, ok := impl.ChoiceAt(k.s, n)
	if ok != is || !sameChoices(got, want) {
		t.Fatalf("ChoiceAt(%v, %d) = %v, %v, want %v", k.s, n, got, ok, want)
	}
	return want
}

// checkCourses compares all functions of the chapter with the document's words, for some numbers of choices.
func checkCourses(t *testing.T, s impl.Show) bool {
	t.Helper()
	k := courseOf(s)
	if got, want := impl.FreeTies(s), k.free(); !slices.Equal(got, want) {
		t.Fatalf("FreeTies(%v) = %v, want %v", s, got, want)
	}
	count := k.count()
	if got := impl.CountChoices(s); got != count {
		t.Fatalf("CountChoices(%v) = %d, want %d", s, got, count)
	}
	for _, n := range []int{math.MinInt, -1, count, count + 1, 2 * count, 1 << 32, math.MaxInt} {
		checkNumber(t, k, n)
	}
	if !k.valid {
		checkChoice(t, k, impl.Choice{})
		checkChoice(t, k, wouldBe(s))
		return false
	}
	for _, n := range []int{0, count / 3, count / 2, count - 1} {
		c := checkNumber(t, k, n)
		if !checkChoice(t, k, c) {
			t.Fatalf("the choice %d of %v is not valid: %v", n, s, c)
		}
	}
	return true
}

// busy is a show with Free ties ahead of, between and behind the others, one of them in a branch, and without a watcher of the proposition 2.
func busy() impl.Show {
	return show(9, []impl.Node{node("go", 0), node("a", 3), node("az", 0), node("b", 1), node("c", 0, -3), node("cz", 0, -3), node("d", 0, 1, 3)},
		free(1, 2, 2, 4), tie(0, 1, 0, 3), free(4, 5, 1, 2), tie(4, 3, -2, 5), tie(2, 6, -1, 6), tie(5, 6, 1, 1), tie(1, 4, 1, 2))
}

// sixFree has as many Free ties as a show can have, with as many lengths as they can have. They form two chains.
func sixFree() impl.Show {
	nodes := []impl.Node{node("go", 0), node("a", 0), node("b", 0), node("c", 0), node("d", 0), node("e", 0), node("f", 0)}
	return show(10, nodes, free(0, 3, 1, 20), free(3, 1, 1, 20), tie(0, 1, -20, 20), free(1, 2, 1, 20), free(0, 6, 1, 20), free(6, 4, 1, 20), free(4, 5, 1, 20))
}

// fullShow has as many links in its network as a show can have: those of 7 nodes, 14 ties and 12 literals.
func fullShow() impl.Show {
	s := show(10, []impl.Node{node("go", 0), node("x", 1), node("y", 2, 1), node("z", 3, 1, 2), node("p", 0, 1, 2, 3), node("q", 0, 1, 2, 3), node("r", 0, 1, 2, 3)}, free(4, 5, 1, 3), free(5, 6, 2, 4), free(6, 4, 7, 7))
	for i := range 11 {
		s.Ties = append(s.Ties, tie(i%6, i%6+1, i-20, 20-i))
	}
	return s
}

// handChoices are shows with their Free ties, the number of their choices, and some of these with their numbers.
var handChoices = []struct {
	s     impl.Show
	free  []int
	count int
	at    map[int]impl.Choice
}{
	{goodShows[0].s, nil, 1, map[int]impl.Choice{0: choice(nil, 1, 1, 1)}},
	{goodShows[1].s, []int{1}, 3, map[int]impl.Choice{0: choice([]int{1}, 1, 1, 1), 1: choice([]int{2}, 1, 1, 1), 2: choice([]int{3}, 1, 1, 1)}},
	{goodShows[2].s, nil, 2, map[int]impl.Choice{0: choice(nil, 1, 1, 1), 1: choice(nil, -1, 1, 1)}},
	{goodShows[3].s, []int{0, 1, 2}, 20, map[int]impl.Choice{0: choice([]int{1, 20, 1}, 1, 1, 1), 7: choice([]int{8, 20, 1}, 1, 1, 1), 19: choice([]int{20, 20, 1}, 1, 1, 1)}},
	{goodShows[4].s, []int{0, 1, 2}, 6, map[int]impl.Choice{
		0: choice([]int{1, 1, 1}, 1, 1, 1), 1: choice([]int{1, 2, 1}, 1, 1, 1), 2: choice([]int{1, 1, 2}, 1, 1, 1), 3: choice([]int{1, 2, 2}, 1, 1, 1), 4: choice([]int{1, 1, 3}, 1, 1, 1), 5: choice([]int{1, 2, 3}, 1, 1, 1),
	}},
	{goodShows[5].s, []int{2}, 1, map[int]impl.Choice{0: choice([]int{2}, 1, 1, 1)}},
	{goodShows[6].s, []int{0}, 32, map[int]impl.Choice{
		0: choice([]int{1}, 1, 1, 1), 1: choice([]int{2}, 1, 1, 1), 3: choice([]int{4}, 1, 1, 1), 4: choice([]int{1}, -1, 1, 1), 8: choice([]int{1}, 1, -1, 1), 14: choice([]int{3}, -1, -1, 1), 16: choice([]int{1}, 1, 1, -1), 23: choice([]int{4}, -1, 1, -1), 31: choice([]int{4}, -1, -1, -1),
	}},
	{goodShows[7].s, []int{0}, 8, map[int]impl.Choice{0: choice([]int{3}, 1, 1, 1), 1: choice([]int{3}, -1, 1, 1), 2: choice([]int{3}, 1, -1, 1), 4: choice([]int{3}, 1, 1, -1), 5: choice([]int{3}, -1, 1, -1), 7: choice([]int{3}, -1, -1, -1)}},
	{goodShows[8].s, nil, 8, map[int]impl.Choice{0: choice(nil, 1, 1, 1), 1: choice(nil, -1, 1, 1), 2: choice(nil, 1, -1, 1), 3: choice(nil, -1, -1, 1), 4: choice(nil, 1, 1, -1), 6: choice(nil, 1, -1, -1), 7: choice(nil, -1, -1, -1)}},
	// The proposition 2 is not watched, so that 3 follows 1.
	{goodShows[9].s, []int{0}, 8, map[int]impl.Choice{0: choice([]int{2}, 1, 1, 1), 1: choice([]int{3}, 1, 1, 1), 2: choice([]int{2}, -1, 1, 1), 3: choice([]int{3}, -1, 1, 1), 4: choice([]int{2}, 1, 1, -1), 6: choice([]int{2}, -1, 1, -1), 7: choice([]int{3}, -1, 1, -1)}},
	{goodShows[10].s, []int{4}, 160, map[int]impl.Choice{0: choice([]int{1}, 1, 1, 1), 19: choice([]int{20}, 1, 1, 1), 20: choice([]int{1}, -1, 1, 1), 59: choice([]int{20}, 1, -1, 1), 81: choice([]int{2}, 1, 1, -1), 159: choice([]int{20}, -1, -1, -1)}},
	{rich(), []int{3, 5}, 48, map[int]impl.Choice{0: choice([]int{1, 2}, 1, 1, 1), 1: choice([]int{2, 2}, 1, 1, 1), 3: choice([]int{1, 3}, 1, 1, 1), 11: choice([]int{3, 5}, 1, 1, 1), 12: choice([]int{1, 2}, -1, 1, 1), 24: choice([]int{1, 2}, 1, -1, 1), 31: choice([]int{2, 4}, 1, -1, 1), 47: choice([]int{3, 5}, -1, -1, 1)}},
	{busy(), []int{0, 2}, 24, map[int]impl.Choice{0: choice([]int{2, 1}, 1, 1, 1), 2: choice([]int{4, 1}, 1, 1, 1), 3: choice([]int{2, 2}, 1, 1, 1), 6: choice([]int{2, 1}, -1, 1, 1), 12: choice([]int{2, 1}, 1, 1, -1), 16: choice([]int{3, 2}, 1, 1, -1), 23: choice([]int{4, 2}, -1, 1, -1)}},
	{sixFree(), []int{0, 1, 3, 4, 5, 6}, 64000000, map[int]impl.Choice{
		0: choice([]int{1, 1, 1, 1, 1, 1}, 1, 1, 1), 1: choice([]int{2, 1, 1, 1, 1, 1}, 1, 1, 1), 20: choice([]int{1, 2, 1, 1, 1, 1}, 1, 1, 1), 799: choice([]int{20, 20, 2, 1, 1, 1}, 1, 1, 1), 8000: choice([]int{1, 1, 1, 2, 1, 1}, 1, 1, 1),
		3200000: choice([]int{1, 1, 1, 1, 1, 2}, 1, 1, 1), 6728421: choice([]int{2, 2, 2, 2, 3, 3}, 1, 1, 1), 63999999: choice([]int{20, 20, 20, 20, 20, 20}, 1, 1, 1), 60799999: choice([]int{20, 20, 20, 20, 20, 19}, 1, 1, 1),
	}},
	{fullShow(), []int{0, 1, 2}, 72, map[int]impl.Choice{0: choice([]int{1, 2, 7}, 1, 1, 1), 5: choice([]int{3, 3, 7}, 1, 1, 1), 71: choice([]int{3, 4, 7}, -1, -1, -1)}},
}

// validShows are the valid shows of the lists of this file and of the shows, with those of few nodes.
func validShows() []impl.Show {
	list := []impl.Show{show(10, []impl.Node{node("go", 0), node("a", 0)}, free(0, 1, 5, 5)), show(2, []impl.Node{node("go", 0), node("a", 2)}), show(4, []impl.Node{node("go", 0), node("a", 3), node("b", 0, -3), node("c", 0, 3)}, tie(2, 3, 9, 9), tie(1, 2, 1, 1))}
	for _, c := range handChoices {
		list = append(list, cloneShow(c.s))
	}
	for _, s := range knownShows() {
		if isShow(s) {
			list = append(list, s)
		}
	}
	return list
}

func TestChoiceType(t *testing.T) {
	// Another field, another order or another type of a field would not compile.
	type fields struct {
		Lengths []int
		Values  []int
	}
	_ = fields(impl.Choice{})
}

func TestHandChoices(t *testing.T) {
	for i, c := range handChoices {
		if got := impl.FreeTies(c.s); !slices.Equal(got, c.free) {
			t.Errorf("show %d: FreeTies = %v, want %v", i, got, c.free)
		}
		if got := impl.CountChoices(c.s); got != c.count {
			t.Errorf("show %d: CountChoices = %d, want %d", i, got, c.count)
		}
		for n, want := range c.at {
			if got, ok := impl.ChoiceAt(c.s, n); !ok || !sameChoices(got, want) {
				t.Errorf("show %d: ChoiceAt %d = %v, %v, want %v", i, n, got, ok, want)
			}
			if !impl.ChoiceOk(c.s, want) {
				t.Errorf("show %d: ChoiceOk(%v) = false", i, want)
			}
		}
		for _, n := range []int{math.MinInt, math.MinInt + 1, -1 << 32, -c.count, -2, -1, c.count, c.count + 1, 2 * c.count, 1 << 32, 1<<32 + 1, math.MaxInt - 1, math.MaxInt} {
			if got, ok := impl.ChoiceAt(c.s, n); ok || !isNoChoice(got) {
				t.Errorf("show %d: ChoiceAt %d = %v, %v", i, n, got, ok)
			}
		}
	}
}

// Every choice has exactly one number, and every number is that of a valid choice.
func TestEveryNumberOfAChoice(t *testing.T) {
	all := 0
	for _, s := range validShows() {
		k, numbers := courseOf(s), map[string]int{}
		if k.count() > 10000 {
			continue
		}
		everyChoice(s, func(n int, want impl.Choice) {
			got, ok := impl.ChoiceAt(s, n)
			if !ok || !sameChoices(got, want) {
				t.Fatalf("ChoiceAt(%v, %d) = %v, %v, want %v", s, n, got, ok, want)
			}
			if before, ok := numbers[fmt.Sprint(got)]; ok {
				t.Fatalf("the numbers %d and %d of %v are of the same choice %v", before, n, s, got)
			}
			numbers[fmt.Sprint(got)] = n
			if !checkChoice(t, k, got) {
				t.Fatalf("the choice %d of %v is not valid: %v", n, s, got)
			}
		})
		if got := impl.CountChoices(s); got != len(numbers) || got != k.count() {
			t.Fatalf("CountChoices(%v) = %d, but there are %d", s, got, len(numbers))
		}
		all += len(numbers)
	}
	if all < 1000 {
		t.Errorf("%d choices are too few", all)
	}
}

// Of all lists with numbers beside the lengths and the values, exactly the choices with a number are valid.
func TestNoOtherChoiceIsValid(t *testing.T) {
	valid, invalid := 0, 0
	for _, s := range []impl.Show{goodShows[0].s, goodShows[1].s, goodShows[2].s, goodShows[4].s, goodShows[5].s, goodShows[7].s, goodShows[9].s, rich(), busy()} {
		numbered := map[string]bool{}
		for n := range impl.CountChoices(s) {
			c, _ := impl.ChoiceAt(s, n)
			numbered[fmt.Sprint(c)] = true
		}
		found := 0
		for length := range len(freeAmong(s)) + 2 {
			everyList(length, []int{0, 1, 2, 3, 4, 5, 6}, func(lengths []int) {
				everyList(3, []int{-2, -1, 0, 1, 2}, func(values []int) {
					c := choice(lengths, values...)
					ok := impl.ChoiceOk(s, c)
					if ok != numbered[fmt.Sprint(c)] {
						t.Fatalf("ChoiceOk(%v, %v) = %v", s, c, ok)
					}
					if ok {
						found++
					} else {
						invalid++
					}
				})
			})
		}
		if found != len(numbered) {
			t.Errorf("%d of the %d choices of %v are valid", found, len(numbered), s)
		}
		valid += found
	}
	if valid < 100 || invalid < 10000 {
		t.Errorf("%d valid and %d invalid choices are too few", valid, invalid)
	}
}

// All lists of up to four values for shows in which different propositions are watched.
func TestEveryListOfValues(t *testing.T) {
	for watched := range 8 {
		s := show(3, []impl.Node{node("go", 0)})
		want := 1
		for p := 1; p <= 3; p++ {
			if watched>>(p-1)&1 == 1 {
				s.Nodes = append(s.Nodes, node("n"+fmt.Sprint(p), p))
				want *= 2
			}
		}
		slices.Reverse(s.Nodes[1:])
		found := 0
		for length := range 5 {
			everyList(length, []int{math.MinInt, -3, -2, -1, 0, 1, 2, 3, math.MaxInt}, func(values []int) {
				is := length == 3
				for i, v := range values {
					is = is && (v == 1 || v == -1 && watched>>i&1 == 1)
				}
				if got := impl.ChoiceOk(s, choice(nil, values...)); got != is {
					t.Fatalf("ChoiceOk with the values %v = %v, where %b is watched", values, got, watched)
				}
				if is {
					found++
				}
			})
		}
		if found != want || impl.CountChoices(s) != want {
			t.Errorf("%d of %d choices are valid, and CountChoices = %d", found, want, impl.CountChoices(s))
		}
	}
}

func TestChoiceOk(t *testing.T) {
	s := busy()
	for _, c := range []struct {
		c    impl.Choice
		want bool
	}{
		{choice([]int{2, 1}, 1, 1, 1), true}, {choice([]int{4, 2}, -1, 1, -1), true}, {choice([]int{3, 2}, 1, 1, -1), true}, {choice([]int{3, 1}, -1, 1, 1), true}, {choice([]int{2, 2}, 1, 1, 1), true},
		{impl.Choice{}, false}, {choice(nil, 1, 1, 1), false}, {choice([]int{}, 1, 1, 1), false}, {choice([]int{2}, 1, 1, 1), false}, {choice([]int{1}, 1, 1, 1), false}, {choice([]int{2, 1, 1}, 1, 1, 1), false}, {choice([]int{2, 1, 2, 1}, 1, 1, 1), false}, {choice(slices.Repeat([]int{2}, 100000), 1, 1, 1), false},
		{choice([]int{1, 1}, 1, 1, 1), false}, {choice([]int{5, 1}, 1, 1, 1), false}, {choice([]int{2, 0}, 1, 1, 1), false}, {choice([]int{2, 3}, 1, 1, 1), false}, {choice([]int{4, 3}, 1, 1, 1), false}, {choice([]int{0, 0}, 1, 1, 1), false}, {choice([]int{-2, -1}, 1, 1, 1), false},
		{choice([]int{math.MinInt, 1}, 1, 1, 1), false}, {choice([]int{math.MaxInt, 1}, 1, 1, 1), false}, {choice([]int{2, math.MinInt}, 1, 1, 1), false}, {choice([]int{2, math.MaxInt}, 1, 1, 1), false}, {choice([]int{1<<32 + 2, 1}, 1, 1, 1), false},
		// Lengths of the other tie.
		{choice([]int{1, 2}, 1, 1, 1), false}, {choice([]int{1, 4}, 1, 1, 1), false}, {choice([]int{2, 4}, 1, 1, 1), false},
		// A length for each tie, or for each node.
		{choice([]int{2, 0, 1, -2, -1, 1, 1}, 1, 1, 1), false}, {choice([]int{2, 2, 2, 2, 2, 2}, 1, 1, 1), false},
		{choice([]int{2, 1}), false}, {choice([]int{2, 1}, 1), false}, {choice([]int{2, 1}, 1, 1), false}, {choice([]int{2, 1}, 1, -1), false}, {choice([]int{2, 1}, 1, 1, 1, 1), false}, {choice([]int{2, 1}, -1, 1, -1, 1), false}, {choice([]int{2, 1}, slices.Repeat([]int{1}, 100000)...), false},
		{choice([]int{2, 1}, 0, 1, 1), false}, {choice([]int{2, 1}, 1, 0, 1), false}, {choice([]int{2, 1}, 1, 1, 0), false}, {choice([]int{2, 1}, 2, 1, 1), false}, {choice([]int{2, 1}, 1, 2, 1), false}, {choice([]int{2, 1}, 1, 1, 2), false}, {choice([]int{2, 1}, -2, 1, 1), false}, {choice([]int{2, 1}, 1, 1, -2), false}, {choice([]int{2, 1}, 0, 0, 0), false},
		{choice([]int{2, 1}, math.MinInt, 1, 1), false}, {choice([]int{2, 1}, 1, math.MinInt, 1), false}, {choice([]int{2, 1}, 1, 1, math.MinInt), false}, {choice([]int{2, 1}, math.MaxInt, 1, 1), false}, {choice([]int{2, 1}, 1<<32+1, 1, 1), false},
		// Nobody watches the proposition 2.
		{choice([]int{2, 1}, 1, -1, 1), false}, {choice([]int{2, 1}, -1, -1, -1), false}, {choice([]int{4, 2}, -1, -1, 1), false},
		{choice([]int{1, 1, 1}, 2, 1), false}, {choice([]int{1, 1, 1}, 1, 1, 1), false},
	} {
		if got := impl.ChoiceOk(s, c.c); got != c.want {
			t.Errorf("ChoiceOk(%.40v) = %v", fmt.Sprint(c.c), got)
		}
		checkChoice(t, courseOf(s), c.c)
	}
}

func TestChoicesWithOneChange(t *testing.T) {
	valid, invalid := 0, 0
	for _, s := range validShows() {
		k := courseOf(s)
		for _, n := range []int{0, 1, k.count() / 2, k.count() - 1} {
			c, _ := impl.ChoiceAt(s, n)
			for _, changed := range changesOf(c) {
				if checkChoice(t, k, changed) {
					valid++
				} else {
					invalid++
				}
			}
		}
	}
	if valid < 500 || invalid < 5000 {
		t.Errorf("%d valid and %d invalid choices are too few", valid, invalid)
	}
}

func TestCountChoicesOfFewNodes(t *testing.T) {
	for low := 1; low <= 20; low++ {
		for high := low; high <= 20; high++ {
			s := show(10, []impl.Node{node("go", 0), node("a", 0), node("b", 3)}, tie(2, 1, -20, 20), free(0, 1, low, high), tie(0, 1, low, high))
			if got, want := impl.CountChoices(s), 2*(high-low+1); got != want {
				t.Errorf("CountChoices with lengths from %d to %d = %d, want %d", low, high, got, want)
			}
			checkCourses(t, s)
		}
	}
	for _, c := range []struct {
		watches []int
		want    int
	}{{nil, 1}, {[]int{1}, 2}, {[]int{2}, 2}, {[]int{3}, 2}, {[]int{1, 2}, 4}, {[]int{3, 1}, 4}, {[]int{3, 2}, 4}, {[]int{1, 2, 3}, 8}, {[]int{2, 3, 1}, 8}, {[]int{0, 2, 0, 3}, 4}, {[]int{0, 0}, 1}} {
		for frees := range 4 {
			s, want := show(7, []impl.Node{node("go", 0)}), c.want
			for i, p := range c.watches {
				s.Nodes = append(s.Nodes, node("w"+fmt.Sprint(i), p))
			}
			for i := range min(frees, 6-len(c.watches)) {
				s.Nodes = append(s.Nodes, node("f"+fmt.Sprint(i), 0))
				s.Ties = append(s.Ties, free(i, len(s.Nodes)-1, i+2, 2*i+3))
				want *= i + 2
			}
			if got := impl.CountChoices(s); got != want {
				t.Errorf("CountChoices with the watches %v and %d Free ties = %d, want %d", c.watches, frees, got, want)
			}
			checkCourses(t, s)
		}
	}
}

// As many Free ties as the number says, in all places among the ties.
func TestFreeTies(t *testing.T) {
	for n := range 7 {
		for behind := range 8 {
			s := show(10, []impl.Node{node("go", 0), node("a", 0), node("b", 0), node("c", 0), node("d", 0), node("e", 0), node("f", 0)})
			s.Ties = slices.Repeat([]impl.Tie{tie(3, 4, -20, 20)}, behind)
			var want []int
			for i := range n {
				want = append(want, len(s.Ties))
				s.Ties = append(s.Ties, free((i+2)%7, i+1, 1, 2+i))
				if i%2 == 1 && len(s.Ties) < 14-n {
					s.Ties = append(s.Ties, tie(i, i+1, 1, 2))
				}
			}
			if got := impl.FreeTies(s); !slices.Equal(got, want) || !impl.ShowOk(s) {
				t.Errorf("FreeTies with %d of them behind %d ties = %v, want %v", n, behind, got, want)
			}
			checkCourses(t, s)
		}
	}
	long := show(10, sixFree().Nodes, slices.Repeat([]impl.Tie{free(0, 1, 1, 1)}, 100000)...)
	for _, s := range []impl.Show{{}, show(5, nil, free(0, 1, 1, 2)), show(0, sixFree().Nodes, sixFree().Ties...), long} {
		if got := impl.FreeTies(s); len(got) != 0 {
			t.Errorf("FreeTies of a show of %d nodes and %d ties = %v", len(s.Nodes), len(s.Ties), got)
		}
		if n := impl.CountChoices(s); n != 0 || impl.ChoiceOk(s, wouldBe(s)) {
			t.Errorf("a show of %d nodes and %d ties has %d choices", len(s.Nodes), len(s.Ties), n)
		}
	}
}

func TestHappensIn(t *testing.T) {
	branch, deep, late, split := goodShows[2].s, goodShows[6].s, goodShows[7].s, goodShows[8].s
	for _, c := range []struct {
		s    impl.Show
		c    impl.Choice
		want []bool
	}{
		{goodShows[0].s, choice(nil, 1, 1, 1), []bool{true}},
		{goodShows[1].s, choice([]int{3}, 1, 1, 1), []bool{true, true, true, true}},
		{branch, choice(nil, 1, 1, 1), []bool{true, true, true, false}},
		{branch, choice(nil, -1, 1, 1), []bool{true, true, false, true}},
		{deep, choice([]int{2}, 1, 1, 1), []bool{true, true, true, false, false, false, false}},
		{deep, choice([]int{2}, 1, -1, 1), []bool{true, true, true, true, true, true, false}},
		{deep, choice([]int{2}, 1, -1, -1), []bool{true, true, true, true, false, false, false}},
		{deep, choice([]int{2}, -1, 1, 1), []bool{true, true, false, false, false, false, true}},
		{deep, choice([]int{4}, -1, -1, -1), []bool{true, true, false, false, false, false, true}},
		{late, choice([]int{3}, 1, 1, -1), []bool{true, true, true, false, true, true, true}},
		{late, choice([]int{3}, -1, 1, -1), []bool{true, false, false, true, true, true, true}},
		{late, choice([]int{3}, 1, -1, -1), []bool{true, false, false, false, false, true, true}},
		{late, choice([]int{3}, 1, 1, 1), []bool{true, false, false, false, false, false, true}},
		{split, choice(nil, 1, 1, 1), []bool{true, true, true, false, true, false, false}},
		{split, choice(nil, -1, 1, -1), []bool{true, true, true, false, false, false, false}},
		{split, choice(nil, 1, -1, -1), []bool{true, true, false, true, false, true, true}},
		{split, choice(nil, -1, -1, 1), []bool{true, true, false, true, false, false, true}},
		{busy(), choice([]int{2, 1}, 1, 1, 1), []bool{true, true, true, true, false, false, true}},
		{busy(), choice([]int{2, 1}, -1, 1, 1), []bool{true, true, true, true, false, false, false}},
		{busy(), choice([]int{2, 1}, 1, 1, -1), []bool{true, true, true, true, true, true, false}},
		// These choices are not valid.
		{branch, choice(nil, 0, 1, 1), make([]bool, 4)}, {branch, choice(nil, -1, -1, 1), make([]bool, 4)}, {branch, choice([]int{1}, 1, 1, 1), make([]bool, 4)}, {branch, impl.Choice{}, make([]bool, 4)},
		{busy(), choice([]int{1, 2}, 1, 1, 1), make([]bool, 7)}, {busy(), choice([]int{2}, 1, 1, 1), make([]bool, 7)}, {busy(), choice([]int{2, 1}, 1, 1), make([]bool, 7)}, {goodShows[0].s, choice(nil, 1, 1, 1, 1), make([]bool, 1)},
		{show(0, branch.Nodes, branch.Ties...), choice(nil, 1, 1, 1), make([]bool, 4)}, {impl.Show{}, choice(nil, 1, 1, 1), nil}, {impl.Show{}, impl.Choice{}, nil},
	} {
		for _, n := range showNumbers {
			want := n >= 0 && n < len(c.want) && c.want[n]
			if got := impl.HappensIn(c.s, c.c, n); got != want {
				t.Errorf("HappensIn(%v, %v, %d) = %v", c.s, c.c, n, got)
			}
		}
	}
}

// handNetworks are shows and choices with the links that remain.
var handNetworks = []struct {
	s     impl.Show
	c     impl.Choice
	links []link
}{
	{goodShows[0].s, choice(nil, 1, 1, 1), []link{{0, 0, 0, 1}}},
	{goodShows[1].s, choice([]int{3}, 1, 1, 1), []link{{0, 0, 0, 8}, {0, 1, 0, 8}, {0, 2, 0, 8}, {0, 3, 0, 8}, {0, 1, 0, 2}, {1, 2, 3, 3}, {2, 3, 1, 2}}},
	{goodShows[1].s, choice([]int{1}, 1, 1, 1), []link{{0, 0, 0, 8}, {0, 1, 0, 8}, {0, 2, 0, 8}, {0, 3, 0, 8}, {0, 1, 0, 2}, {1, 2, 1, 1}, {2, 3, 1, 2}}},
	{goodShows[2].s, choice(nil, 1, 1, 1), []link{{0, 0, 0, 5}, {0, 1, 0, 5}, {0, 2, 0, 5}, {0, 1, 0, 1}, {1, 2, 1, 2}, {0, 3, 0, 0}, {1, 2, 1, inf}}},
	{goodShows[2].s, choice(nil, -1, 1, 1), []link{{0, 0, 0, 5}, {0, 1, 0, 5}, {0, 3, 0, 5}, {0, 1, 0, 1}, {0, 3, 2, 3}, {0, 2, 0, 0}, {1, 3, 1, inf}}},
	// A cycle of Free ties has a network like any other.
	{goodShows[4].s, choice([]int{1, 2, 3}, 1, 1, 1), []link{{0, 0, 0, 9}, {0, 1, 0, 9}, {0, 2, 0, 9}, {0, 3, 0, 9}, {2, 3, 1, 1}, {1, 2, 2, 2}, {3, 1, 3, 3}}},
	{goodShows[5].s, choice([]int{2}, 1, 1, 1), []link{{0, 0, 0, 2}, {0, 1, 0, 2}, {0, 2, 0, 2}, {1, 2, 0, 0}, {0, 2, 1, 1}, {1, 2, 2, 2}, {2, 1, -9, -1}, {1, 2, 2, 2}, {2, 0, -20, 20}, {1, 0, -20, -20}, {0, 1, 20, 20}}},
	{goodShows[6].s, choice([]int{4}, 1, -1, 1), []link{
		{0, 0, 0, 7}, {0, 1, 0, 7}, {0, 2, 0, 7}, {0, 3, 0, 7}, {0, 4, 0, 7}, {0, 5, 0, 7}, {4, 5, 4, 4}, {1, 2, 1, 1}, {0, 6, 0, 0},
		{1, 2, 1, inf}, {1, 3, 1, inf}, {2, 3, 1, inf}, {1, 4, 1, inf}, {2, 4, 1, inf}, {3, 4, 1, inf}, {1, 5, 1, inf}, {2, 5, 1, inf}, {3, 5, 1, inf},
	}},
	{goodShows[6].s, choice([]int{4}, -1, -1, 1), []link{{0, 0, 0, 7}, {0, 1, 0, 7}, {0, 6, 0, 7}, {0, 2, 0, 0}, {0, 3, 0, 0}, {0, 4, 0, 0}, {0, 5, 0, 0}, {1, 6, 1, inf}}},
	// The watchers come last, and those of the first propositions last of all.
	{goodShows[7].s, choice([]int{3}, -1, 1, -1), []link{{0, 0, 0, 3}, {0, 3, 0, 3}, {0, 4, 0, 3}, {0, 5, 0, 3}, {0, 6, 0, 3}, {0, 1, 0, 0}, {0, 2, 0, 0}, {4, 3, 1, inf}, {5, 3, 1, inf}, {6, 3, 1, inf}, {5, 4, 1, inf}, {6, 4, 1, inf}, {6, 5, 1, inf}}},
	{rich(), choice([]int{2, 5}, 1, 1, 1), []link{
		{0, 0, 0, 10}, {0, 1, 0, 10}, {0, 2, 0, 10}, {0, 3, 0, 10}, {0, 4, 0, 10}, {0, 6, 0, 10}, {0, 1, 0, 2}, {1, 2, 1, 3}, {2, 3, 1, 4}, {3, 4, 2, 2}, {0, 6, 5, 5}, {1, 6, -3, 8}, {0, 5, 0, 0},
		{1, 2, 1, inf}, {1, 3, 1, inf}, {2, 3, 1, inf}, {1, 4, 1, inf}, {2, 4, 1, inf},
	}},
	// The first Free tie does not happen, but has its length before that of the second one.
	{rich(), choice([]int{3, 4}, -1, 1, 1), []link{{0, 0, 0, 10}, {0, 1, 0, 10}, {0, 5, 0, 10}, {0, 6, 0, 10}, {0, 1, 0, 2}, {1, 5, 1, 2}, {0, 6, 4, 4}, {1, 6, -3, 8}, {0, 2, 0, 0}, {0, 3, 0, 0}, {0, 4, 0, 0}, {1, 5, 1, inf}}},
	{busy(), choice([]int{4, 2}, 1, 1, -1), []link{{0, 0, 0, 9}, {0, 1, 0, 9}, {0, 2, 0, 9}, {0, 3, 0, 9}, {0, 4, 0, 9}, {0, 5, 0, 9}, {1, 2, 4, 4}, {0, 1, 0, 3}, {4, 5, 2, 2}, {4, 3, -2, 5}, {1, 4, 1, 2}, {0, 6, 0, 0}, {1, 4, 1, inf}, {1, 5, 1, inf}}},
	{busy(), choice([]int{3, 1}, 1, 1, 1), []link{{0, 0, 0, 9}, {0, 1, 0, 9}, {0, 2, 0, 9}, {0, 3, 0, 9}, {0, 6, 0, 9}, {1, 2, 3, 3}, {0, 1, 0, 3}, {2, 6, -1, 6}, {0, 4, 0, 0}, {0, 5, 0, 0}, {3, 6, 1, inf}, {1, 6, 1, inf}}},
	{busy(), choice([]int{2, 2}, -1, 1, 1), []link{{0, 0, 0, 9}, {0, 1, 0, 9}, {0, 2, 0, 9}, {0, 3, 0, 9}, {1, 2, 2, 2}, {0, 1, 0, 3}, {0, 4, 0, 0}, {0, 5, 0, 0}, {0, 6, 0, 0}}},
	{sixFree(), choice([]int{20, 1, 3, 7, 19, 2}, 1, 1, 1), []link{
		{0, 0, 0, 10}, {0, 1, 0, 10}, {0, 2, 0, 10}, {0, 3, 0, 10}, {0, 4, 0, 10}, {0, 5, 0, 10}, {0, 6, 0, 10}, {0, 3, 20, 20}, {3, 1, 1, 1}, {0, 1, -20, 20}, {1, 2, 3, 3}, {0, 6, 7, 7}, {6, 4, 19, 19}, {4, 5, 2, 2},
	}},
}

func TestProjectShow(t *testing.T) {
	for i, c := range handNetworks {
		want := simple(len(c.s.Nodes), c.links...)
		if got, ok := impl.ProjectShow(c.s, c.c); !ok || !sameSimples(got, want) {
			t.Errorf("network %d: ProjectShow = %v, %v, want %v", i, got, ok, want)
		}
		for _, changed := range changesOf(c.c) {
			if got, ok := impl.ProjectShow(c.s, changed); !courseOf(c.s).isChoice(changed) && (ok || !isNoSimple(got)) {
				t.Errorf("network %d: ProjectShow of %v = %v, %v", i, changed, got, ok)
			}
		}
	}
}

// No show has more links than the one with the most of all, and that is fewer than a network can have.
func TestProjectedNetworksAreValid(t *testing.T) {
	most := 0
	check := func(s impl.Show) {
		count := impl.CountChoices(s)
		for n := 0; n < count; n += max(1, count/50) {
			c, _ := impl.ChoiceAt(s, n)
			got, ok := impl.ProjectShow(s, c)
			if !ok || !isSimple(got) || got.Events != len(s.Nodes) {
				t.Fatalf("ProjectShow(%v, %v) = %v, %v", s, c, got, ok)
			}
			most = max(most, len(got.Links))
		}
	}
	for _, s := range validShows() {
		check(s)
	}
	variousShows(check)
	if most != 33 {
		t.Errorf("the most links of a network are %d instead of 33", most)
	}
}

// Shows with more nodes, ties or literals than there may be, whose networks would have too many events or links or spans that are no intervals.
func TestShowsWithoutValidNetworks(t *testing.T) {
	big := fullShow()
	for _, change := range []func(s *impl.Show){
		func(s *impl.Show) { s.Nodes = append(s.Nodes, node("m", 0), node("n", 0)) },
		func(s *impl.Show) { s.Ties = append(s.Ties, slices.Repeat(s.Ties[3:], 3)...) },
		func(s *impl.Show) { s.Ties = append(s.Ties, s.Ties[5]) },
		func(s *impl.Show) { s.Nodes[6].Label = slices.Repeat([]int{1, 2, 3}, 20) },
		func(s *impl.Show) { s.Ties[4].Low, s.Ties[4].High = 3, 2 },
		func(s *impl.Show) { s.Ties[4].High = 1000001 },
		func(s *impl.Show) { s.Ties[4].Low = math.MinInt },
		func(s *impl.Show) { s.Ties[4].From = 8 },
		func(s *impl.Show) { s.Ties[4].To = -1 },
		func(s *impl.Show) { s.Horizon = -1 },
		func(s *impl.Show) { s.Horizon = math.MaxInt },
		func(s *impl.Show) { s.Nodes[1].Watch = 0 },
		func(s *impl.Show) { s.Nodes, s.Ties = nil, nil },
	} {
		s := cloneShow(big)
		change(&s)
		for _, c := range []impl.Choice{wouldBe(s), wouldBe(big), {}} {
			if got, ok := impl.ProjectShow(s, c); ok || !isNoSimple(got) {
				t.Errorf("ProjectShow(%v, %v) = %v, %v", s, c, got, ok)
			}
		}
		if checkCourses(t, s) {
			t.Errorf("%v is valid", s)
		}
	}
}

// The schedules of a projected network are the courses that chapter 9 allows under the choice: every node that happens
// does so up to the Horizon and after the observation of its label, and all ties between such nodes hold.
func TestSchedulesOfProjectedShows(t *testing.T) {
	good, bad := 0, 0
	for _, s := range []impl.Show{
		goodShows[2].s,
		show(4, []impl.Node{node("go", 0), node("a", 0), node("b", 0), node("c", 0)}, tie(0, 1, -1, 3), free(0, 2, 1, 3), tie(3, 1, -3, 0)),
		show(2, []impl.Node{node("go", 0), node("x", 1), node("y", 3), node("b", 0, 1)}, tie(1, 2, -2, 2)),
		show(4, goodShows[1].s.Nodes, goodShows[1].s.Ties...),
		show(2, []impl.Node{node("go", 0), node("a", 2), node("b", 3), node("c", 0, 2, -3)}, tie(1, 3, -1, 1), tie(2, 1, 0, 2)),
		show(3, []impl.Node{node("go", 0), node("c", 0, -1), node("cz", 0, -1), node("a", 1)}, free(1, 2, 1, 2), tie(0, 2, -1, 3)),
		show(3, []impl.Node{node("go", 0), node("b", 2, 1), node("c", 0, 1, -2), node("a", 1)}, tie(2, 3, -3, -1), tie(0, 3, 0, 1)),
	} {
		everyChoice(s, func(n int, c impl.Choice) {
			network, _ := impl.ProjectShow(s, c)
			everyTimetable(len(s.Nodes), s.Horizon+1, func(times []int) {
				want := isCourse(s, c, times)
				if got := impl.IsSchedule(network, times); got != want {
					t.Fatalf("IsSchedule of %v with the choice %v and the times %v = %v", s, c, times, got)
				}
				if want {
					good++
				} else {
					bad++
				}
			})
		})
	}
	if good < 100 || bad < 1000 {
		t.Errorf("%d schedules and %d other lists are too few", good, bad)
	}
}

// isCourse reports whether these are ticks of the nodes that happen, and 0 for all others.
func isCourse(s impl.Show, c impl.Choice, times []int) bool {
	happens := func(n int) bool { return holdsUnder(s.Nodes[n].Label, c.Values) }
	for n, x := range s.Nodes {
		if !happens(n) && times[n] != 0 || times[n] < 0 || times[n] > s.Horizon {
			return false
		}
		for _, l := range x.Label {
			if happens(n) && times[n] <= times[watcherIn(s, max(l, -l))] {
				return false
			}
		}
	}
	taken := 0
	for _, x := range s.Ties {
		takes := times[x.To] - times[x.From]
		both := happens(x.From) && happens(x.To)
		if both && (takes < x.Low || takes > x.High || x.Free && takes != c.Lengths[taken]) {
			return false
		}
		if x.Free {
			taken++
		}
	}
	return true
}

// The watcher of each literal of a node that happens also happens, so that no link of a label comes from a node at rest.
func TestWatchersOfNodesThatHappen(t *testing.T) {
	literals := 0
	check := func(s impl.Show) {
		for n := range min(8, impl.CountChoices(s)) {
			c, _ := impl.ChoiceAt(s, impl.CountChoices(s)-1-n)
			for i, x := range s.Nodes {
				for _, l := range x.Label {
					if !impl.HappensIn(s, c, i) {
						continue
					}
					literals++
					if !impl.HappensIn(s, c, impl.WatcherOf(s, max(l, -l))) || c.Values[max(l, -l)-1]*l < 0 {
						t.Fatalf("the literal %d of the node %d of %v in the choice %v is not observed", l, i, s, c)
					}
				}
			}
		}
	}
	for _, s := range validShows() {
		check(s)
	}
	variousShows(check)
	if literals < 1000 {
		t.Errorf("%d literals are too few", literals)
	}
}

// Every fault of chapter 9 leaves a show without choices.
func TestBadShowsHaveNoChoices(t *testing.T) {
	for i, c := range badShows {
		s := changedShow(c.change)
		if checkCourses(t, s) != (len(c.rules) == 0) {
			t.Errorf("show %d breaks %q", i, c.rules)
		}
		if len(c.rules) == 0 {
			continue
		}
		if got := impl.FreeTies(s); len(got) != 0 || impl.CountChoices(s) != 0 {
			t.Errorf("show %d is not valid, but FreeTies = %v and CountChoices = %d", i, got, impl.CountChoices(s))
		}
		for _, x := range slices.Concat([]impl.Choice{{}, wouldBe(s), wouldBe(rich())}, changesOf(wouldBe(s))) {
			got, ok := impl.ProjectShow(s, x)
			if impl.ChoiceOk(s, x) || ok || !isNoSimple(got) {
				t.Errorf("show %d is not valid, but ChoiceOk(%v) = %v and ProjectShow = %v, %v", i, x, impl.ChoiceOk(s, x), got, ok)
			}
			for _, n := range []int{-1, 0, 1, 6, 7} {
				if impl.HappensIn(s, x, n) {
					t.Errorf("show %d is not valid, but the node %d happens", i, n)
				}
			}
		}
		for _, n := range showNumbers {
			if got, ok := impl.ChoiceAt(s, n); ok || !isNoChoice(got) {
				t.Errorf("show %d is not valid, but ChoiceAt %d = %v, %v", i, n, got, ok)
			}
		}
	}
}

func TestCoursesOfShowsWithOneChange(t *testing.T) {
	valid, invalid := 0, 0
	check := func(s impl.Show) {
		if checkCourses(t, s) {
			valid++
		} else {
			invalid++
		}
	}
	for _, s := range []impl.Show{busy(), rich(), goodShows[2].s, goodShows[4].s, goodShows[7].s} {
		everyChange(s, showNumbers, check)
	}
	if valid < 500 || invalid < 2000 {
		t.Errorf("%d valid and %d invalid shows are too few", valid, invalid)
	}
}

func TestCoursesOfVariousShows(t *testing.T) {
	r := rand.New(rand.NewSource(10))
	valid, invalid, branches, choices := 0, 0, 0, 0
	variousShows(func(s impl.Show) {
		if !checkCourses(t, s) {
			invalid++
			return
		}
		valid++
		k := courseOf(s)
		for range 5 {
			c := checkNumber(t, k, r.Intn(k.count()))
			checkChoice(t, k, c)
			changes := changesOf(c)
			checkChoice(t, k, changes[r.Intn(len(changes))])
			if p, _ := impl.ProjectShow(s, c); slices.Contains(p.Links, linkOf(link{0, len(s.Nodes) - 1, 0, 0})) {
				branches++
			}
		}
		choices += k.count()
	})
	if valid < 2500 || invalid < 1000 || branches < 1000 || choices < 30000 {
		t.Errorf("%d valid and %d invalid shows, %d choices without a node and %d choices in all are too few", valid, invalid, branches, choices)
	}
}

func TestNilAndEmptyListsOfChoicesAreEquivalent(t *testing.T) {
	for _, s := range validShows() {
		k := courseOf(s)
		for _, n := range []int{0, k.count() - 1} {
			c, _ := impl.ChoiceAt(s, n)
			want, _ := k.project(c)
			for _, x := range []impl.Show{emptied(s, true), emptied(s, false)} {
				for _, y := range []impl.Choice{c, {Lengths: append([]int{}, c.Lengths...), Values: c.Values}, {Lengths: append([]int(nil), c.Lengths...), Values: c.Values}} {
					if got, ok := impl.ProjectShow(x, y); !ok || !sameSimples(got, want) || !impl.ChoiceOk(x, y) {
						t.Errorf("nil and empty lists differ in %v and %v", x, y)
					}
				}
				checkCourses(t, x)
			}
		}
	}
}

// callChoiceFunctions calls all functions of the chapter, and returns what they say.
func callChoiceFunctions(s impl.Show, c impl.Choice) string {
	var b strings.Builder
	fmt.Fprint(&b, impl.FreeTies(s), impl.CountChoices(s), impl.ChoiceOk(s, c))
	for _, n := range []int{-1, 0, 1, 2, 5, 11, impl.CountChoices(s) - 1, impl.CountChoices(s)} {
		at, ok := impl.ChoiceAt(s, n)
		fmt.Fprintln(&b, at, ok, impl.HappensIn(s, c, n), impl.HappensIn(s, at, n))
	}
	network, ok := impl.ProjectShow(s, c)
	fmt.Fprint(&b, network, ok)
	return b.String()
}

func TestChoiceArgumentsAreKept(t *testing.T) {
	for i, known := range append(knownShows(), validShows()...) {
		s, kept := spacious(known)
		for _, c := range append(changesOf(wouldBe(known))[:8], wouldBe(known)) {
			// There is room to grow behind the lists.
			lengths, values := slices.Concat(c.Lengths, []int{5, 6, 7, 8}), slices.Concat(c.Values, []int{1, -1, 0, 9})
			before := kept() + fmt.Sprint(s, lengths, values)
			callChoiceFunctions(s, choice(lengths[:len(c.Lengths)], values[:len(c.Values)]...))
			if kept()+fmt.Sprint(s, lengths, values) != before {
				t.Errorf("an argument has changed in show %d: %v, %v, %v", i, s, lengths, values)
			}
		}
	}
}

func TestChoiceResultsAreNew(t *testing.T) {
	wrong := impl.Link{From: 7, To: 7, Span: span(-77, -70)}
	for _, known := range validShows() {
		s, kept := spacious(known)
		c, _ := impl.ChoiceAt(s, impl.CountChoices(s)-1)
		before := kept() + fmt.Sprint(c)
		if len(impl.FreeTies(s)) > 0 {
			checkNewList(t, "FreeTies", 77, func() []int { return impl.FreeTies(s) })
			checkNewList(t, "Lengths", 77, func() []int { c, _ := impl.ChoiceAt(s, 0); return c.Lengths })
		}
		checkNewList(t, "Values", 77, func() []int { c, _ := impl.ChoiceAt(s, 0); return c.Values })
		checkNewList(t, "ProjectShow", wrong, func() []impl.Link { network, _ := impl.ProjectShow(s, c); return network.Links })
		if kept()+fmt.Sprint(c) != before {
			t.Errorf("an argument has changed: %v, %v", s, c)
		}
		// The two lists of a choice share no memory either.
		want := cloneChoice(c)
		for i := range c.Lengths[:cap(c.Lengths)] {
			c.Lengths[:cap(c.Lengths)][i] = 77
		}
		if !slices.Equal(c.Values, want.Values) {
			t.Errorf("the lists of a choice share memory: %v, want %v", c, want)
		}
		c.Lengths = slices.Clone(want.Lengths)
		for i := range c.Values[:cap(c.Values)] {
			c.Values[:cap(c.Values)][i] = 77
		}
		if !slices.Equal(c.Lengths, want.Lengths) {
			t.Errorf("the lists of a choice share memory: %v, want %v", c, want)
		}
	}
}

// Calls between other calls, many times: nothing is kept, and no order of a map shows.
func TestChoiceResultsAreAlwaysTheSame(t *testing.T) {
	shows := append(knownShows(), validShows()...)
	answers := make([]string, len(shows))
	for round := range 30 {
		for i, s := range shows {
			got := callChoiceFunctions(s, wouldBe(s))
			if round == 0 {
				answers[i] = got
			}
			if got != answers[i] {
				t.Fatalf("the answers for %v have changed: %s, before %s", s, got, answers[i])
			}
		}
	}
	// The same memory with another content is another show, or another choice.
	s, c := busy(), choice([]int{2, 1}, 1, 1, 1)
	for range 30 {
		s.Ties[0].Low, c.Values[2] = 3, -1
		if impl.ChoiceOk(s, c) || impl.CountChoices(s) != 16 || impl.HappensIn(s, c, 0) {
			t.Fatal("a changed show or choice is taken for the old one")
		}
		c.Lengths[0], s.Ties[2].Free = 3, false
		if impl.ChoiceOk(s, c) || impl.CountChoices(s) != 8 || !slices.Equal(impl.FreeTies(s), []int{0}) {
			t.Fatal("a changed show or choice is taken for the old one")
		}
		s.Ties[2].Free = true
		if got, ok := impl.ProjectShow(s, c); !ok || len(got.Links) != 14 || got.Links[6].Span != span(3, 3) || !impl.HappensIn(s, c, 4) || impl.HappensIn(s, c, 6) {
			t.Fatal("a changed show or choice is taken for the old one")
		}
		s.Ties[0].Low, c.Lengths[0], c.Values[2] = 2, 2, 1
		if impl.CountChoices(s) != 24 || !impl.ChoiceOk(s, c) || impl.HappensIn(s, c, 4) || !impl.HappensIn(s, c, 6) {
			t.Fatal("a changed show or choice is taken for the old one")
		}
	}
}
