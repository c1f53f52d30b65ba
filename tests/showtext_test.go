package tests

import (
	"fmt"
	"math"
	"regexp"
	"slices"
	"strconv"
	"strings"
	"testing"

	"loop.example/g00827/impl"
)

// goodTexts are the texts of goodShows.
var goodTexts = []string{
	"horizon 1\nnode go -\n",
	"horizon 8\nnode go -\nnode a -\nnode az -\nnode b -\ntie go a 0 2\nfree a az 1 3\ntie az b 1 2\n",
	"horizon 5\nnode go -\nnode a - watch 1\nnode b p1\nnode c !p1\ntie go a 0 1\ntie a b 1 2\ntie go c 2 3\n",
	"horizon 10\nnode go -\nnode a -\nnode b -\nnode c -\nfree go b 1 20\nfree b c 20 20\nfree go a 1 1\n",
	"horizon 9\nnode go -\nnode a -\nnode b -\nnode c -\nfree b c 1 1\nfree a b 1 2\nfree c a 1 3\n",
	"horizon 2\nnode a -\nnode b -\nnode c -\ntie b c 0 0\ntie a c 1 1\nfree b c 2 2\ntie c b -9 -1\ntie b c 2 2\ntie c a -20 20\ntie b a -20 -20\ntie a b 20 20\n",
	"horizon 7\nnode go -\nnode a - watch 1\nnode b p1 watch 2\nnode c p1&!p2 watch 3\nnode d p1&!p2&p3\nnode dz p1&!p2&p3\nnode e !p1\nfree d dz 1 4\ntie a b 1 1\n",
	"horizon 3\nnode go -\nnode d p1&p2&!p3\nnode dz p1&p2&!p3\nnode c !p1&p2&!p3\nnode z p2&!p3 watch 1\nnode y !p3 watch 2\nnode x - watch 3\nfree d dz 3 3\n",
	"horizon 6\nnode go -\nnode x - watch 2\nnode y p2 watch 1\nnode z !p2 watch 3\nnode yes p1&p2\nnode no !p2&!p3\nnode never !p2\n",
	"horizon 4\nnode go -\nnode a - watch 3\nnode az -\nnode b - watch 1\nfree a az 2 3\n",
	"horizon 10\nnode a -\nnode abcdefgh - watch 3\nnode z9999999 - watch 2\nnode q0 - watch 1\nnode e p1&p2&p3\nnode f p1&p2&p3\nnode g !p1&!p2&!p3\n" +
		"tie a abcdefgh -20 20\ntie abcdefgh a -20 -20\ntie g a 20 20\ntie a g 0 0\nfree e f 1 20\ntie e f -20 20\ntie f e -20 20\ntie f e -20 20\n" +
		"tie abcdefgh z9999999 -1 1\ntie z9999999 q0 -2 2\ntie q0 e -3 3\ntie e g -4 4\ntie g f -5 5\ntie q0 abcdefgh -6 6\n",
}

const richText = "horizon 10\nnode go -\nnode a - watch 1\nnode b p1 watch 2\nnode c p1&p2\nnode cz p1&p2\nnode d !p1\nnode e -\n" +
	"tie go a 0 2\ntie a b 1 3\ntie b c 1 4\nfree c cz 1 3\ntie a d 1 2\nfree go e 2 5\ntie a e -3 8\n"

// wordy is a show whose names are words of its text.
func wordy() impl.Show {
	return show(3, []impl.Node{node("horizon", 0), node("node", 1), node("watch", 0, 1), node("tie", 3), node("free", 0, 1, 3), node("p1", 0), node("n3", 0, 1)},
		tie(3, 4, 1, 2), free(2, 6, 1, 2), tie(1, 0, -3, -1), free(0, 5, 3, 3), tie(4, 3, -2, -1))
}

const wordyText = "horizon 3\nnode horizon -\nnode node - watch 1\nnode watch p1\nnode tie - watch 3\nnode free p1&p3\nnode p1 -\nnode n3 p1\n" +
	"tie tie free 1 2\nfree watch n3 1 2\ntie node horizon -3 -1\nfree horizon p1 3 3\ntie free tie -2 -1\n"

type writtenShow struct {
	s    impl.Show
	text string
}

// writtenShows are valid shows with their texts.
func writtenShows() []writtenShow {
	all := []writtenShow{{rich(), richText}, {wordy(), wordyText}}
	for i, c := range goodShows {
		all = append(all, writtenShow{cloneShow(c.s), goodTexts[i]})
	}
	return all
}

// nameIn returns the name of a node, or one that no show here has.
func nameIn(s impl.Show, n int) string {
	if !isNodeOf(s, n) {
		return "nobody"
	}
	return s.Nodes[n].Name
}

// labelLike writes any list as if it were a label.
func labelLike(l []int) string {
	if len(l) == 0 {
		return "-"
	}
	var words []string
	for _, x := range l {
		words = append(words, strings.Replace(fmt.Sprintf("p%d", x), "p-", "!p", 1))
	}
	return strings.Join(words, "&")
}

func tieLine(s impl.Show, x impl.Tie) string {
	return fmt.Sprintf("%s %s %s %d %d", map[bool]string{false: "tie", true: "free"}[x.Free], nameIn(s, x.From), nameIn(s, x.To), x.Low, x.High)
}

// textLike writes any show as the document says, whether it is valid or not.
func textLike(s impl.Show) string {
	var b strings.Builder
	fmt.Fprintf(&b, "horizon %d\n", s.Horizon)
	for _, n := range s.Nodes {
		fmt.Fprintf(&b, "node %s %s", n.Name, labelLike(n.Label))
		if n.Watch != 0 {
			fmt.Fprintf(&b, " watch %d", n.Watch)
		}
		fmt.Fprintln(&b)
	}
	for _, x := range s.Ties {
		fmt.Fprintln(&b, tieLine(s, x))
	}
	return b.String()
}

// formatted, tieIn and timesText are what the document says of FormatShow, FormatTie and FormatTimes.
func formatted(s impl.Show) string {
	if !isShow(s) {
		return ""
	}
	return textLike(s)
}

func tieIn(s impl.Show, i int) string {
	if !isShow(s) || i < 0 || i >= len(s.Ties) {
		return ""
	}
	return tieLine(s, s.Ties[i])
}

func timesText(s impl.Show, times []int) string {
	if !isShow(s) || len(times) != len(s.Nodes) {
		return ""
	}
	text := ""
	for i, n := range s.Nodes {
		if times[i] != -1 {
			text += fmt.Sprintf(" %s@%d", n.Name, times[i])
		}
	}
	if text == "" {
		return "-"
	}
	return text[1:]
}

var (
	horizonLine = regexp.MustCompile(`\Ahorizon ([1-9]|10)\z`)
	nodeLine    = regexp.MustCompile(`\Anode ([a-z][a-z0-9]{0,7}) ([-!p123&]+)( watch ([123]))?\z`)
	boundLine   = regexp.MustCompile(`\A(tie|free) ([a-z][a-z0-9]{0,7}) ([a-z][a-z0-9]{0,7}) (0|-?[1-9][0-9]?) (0|-?[1-9][0-9]?)\z`)
)

func labelOfText(text string) ([]int, bool) {
	for _, c := range labelTexts {
		if c.text == text {
			return slices.Clone(c.l), true
		}
	}
	return nil, false
}

func numberOf(text string) int {
	n, _ := strconv.Atoi(text)
	return n
}

// parsed is what the document says of ParseShow: the form of the lines, one kind after the other, and then the rules of a show.
func parsed(text string) (impl.Show, bool) {
	lines := strings.Split(text, "\n")
	last := len(lines) - 1
	if lines[last] != "" {
		return impl.Show{}, false
	}
	lines = lines[:last]
	var s impl.Show
	if len(lines) == 0 || !horizonLine.MatchString(lines[0]) {
		return impl.Show{}, false
	}
	s.Horizon = numberOf(horizonLine.FindStringSubmatch(lines[0])[1])
	for _, line := range lines[1:] {
		if m := nodeLine.FindStringSubmatch(line); m != nil && len(s.Ties) == 0 {
			l, ok := labelOfText(m[2])
			if !ok {
				return impl.Show{}, false
			}
			s.Nodes = append(s.Nodes, node(m[1], numberOf(m[4]), l...))
		} else if m := boundLine.FindStringSubmatch(line); m != nil {
			s.Ties = append(s.Ties, impl.Tie{From: namedIn(s, m[2]), To: namedIn(s, m[3]), Low: numberOf(m[4]), High: numberOf(m[5]), Free: m[1] == "free"})
		} else {
			return impl.Show{}, false
		}
	}
	if !isShow(s) {
		return impl.Show{}, false
	}
	return s, true
}

// isZeroShow reports whether s is what is returned where there is no show.
func isZeroShow(s impl.Show) bool { return len(s.Nodes) == 0 && len(s.Ties) == 0 && s.Horizon == 0 }

// checkParsed compares ParseShow with the document's words, and reports whether there is a show.
func checkParsed(t *testing.T, text string) bool {
	t.Helper()
	want, is := parsed(text)
	s, ok := impl.ParseShow(text)
	if ok != is || !ok && !isZeroShow(s) || ok && textOf(s) != textOf(want) {
		t.Fatalf("ParseShow(%.400q) = %v, %v, want %v, %v", text, s, ok, want, is)
	}
	if ok && (!impl.ShowOk(s) || impl.FormatShow(s) != text) {
		t.Fatalf("ParseShow(%q) = %v, whose text is %q", text, s, impl.FormatShow(s))
	}
	return ok
}

// checkWritten compares FormatShow, FormatTie and ParseShow of the text with the document's words, and reports whether s is valid.
func checkWritten(t *testing.T, s impl.Show) bool {
	t.Helper()
	text, want := impl.FormatShow(s), formatted(s)
	if text != want {
		t.Fatalf("FormatShow(%v) = %q, want %q", s, text, want)
	}
	back, ok := impl.ParseShow(text)
	if ok != (want != "") || ok && (!impl.SameShows(back, s) || textOf(back) != textOf(s)) || !ok && !isZeroShow(back) {
		t.Fatalf("%q of %v is read as %v, %v", text, s, back, ok)
	}
	checkParsed(t, textLike(s))
	for i := -2; i <= len(s.Ties)+1; i++ {
		if got, want := impl.FormatTie(s, i), tieIn(s, i); got != want {
			t.Fatalf("FormatTie(%v, %d) = %q, want %q", s, i, got, want)
		}
	}
	return ok
}

func TestTextsOfGoodShows(t *testing.T) {
	if len(goodTexts) != len(goodShows) {
		t.Fatalf("%d texts of %d shows", len(goodTexts), len(goodShows))
	}
	for i, c := range writtenShows() {
		if got := impl.FormatShow(c.s); got != c.text {
			t.Errorf("show %d: FormatShow = %q, want %q", i, got, c.text)
		}
		if s, ok := impl.ParseShow(c.text); !ok || !impl.SameShows(s, c.s) || textOf(s) != textOf(c.s) {
			t.Errorf("show %d: ParseShow = %v, %v, want %v", i, s, ok, c.s)
		}
		// The document's words, as this file has them, agree with what was written by hand.
		if s, ok := parsed(c.text); formatted(c.s) != c.text || !ok || textOf(s) != textOf(c.s) {
			t.Errorf("show %d: the document's words give %q and %v", i, formatted(c.s), s)
		}
		checkWritten(t, c.s)
	}
}

// All labels in a text: the watchers of all propositions stand before a node that may have any label.
func TestTextsOfAllLabels(t *testing.T) {
	for _, c := range labelTexts {
		s := show(9, []impl.Node{node("go", 0), node("x", 1), node("y", 2), node("z", 3), node("a", 0, c.l...), node("az", 0, c.l...)}, free(4, 5, 1, 2))
		text := "horizon 9\nnode go -\nnode x - watch 1\nnode y - watch 2\nnode z - watch 3\nnode a " + c.text + "\nnode az " + c.text + "\nfree a az 1 2\n"
		if got := impl.FormatShow(s); got != text {
			t.Errorf("FormatShow of the label %v = %q", c.l, got)
		}
		if back, ok := impl.ParseShow(text); !ok || !impl.SameShows(back, s) {
			t.Errorf("ParseShow(%q) = %v, %v", text, back, ok)
		}
	}
}

func TestBadShowsHaveNoText(t *testing.T) {
	for i, c := range badShows {
		s := changedShow(c.change)
		text := impl.FormatShow(s)
		if len(c.rules) == 0 {
			if back, ok := impl.ParseShow(text); text != textLike(s) || !ok || !impl.SameShows(back, s) {
				t.Errorf("show %d has the text %q, which is read as %v, %v", i, text, back, ok)
			}
			continue
		}
		if text != "" {
			t.Errorf("show %d breaks %q, but has the text %q", i, c.rules, text)
		}
		// What the text would be, if it were valid.
		if back, ok := impl.ParseShow(textLike(s)); ok || !isZeroShow(back) {
			t.Errorf("show %d breaks %q, but is read from %q as %v", i, c.rules, textLike(s), back)
		}
		for _, k := range showNumbers {
			if got := impl.FormatTie(s, k); got != "" {
				t.Errorf("show %d breaks %q, but FormatTie of %d = %q", i, c.rules, k, got)
			}
		}
		for length := range 9 {
			for _, n := range []int{-1, 0, 3} {
				if got := impl.FormatTimes(s, slices.Repeat([]int{n}, length)); got != "" {
					t.Errorf("show %d breaks %q, but FormatTimes of %d times %d = %q", i, c.rules, length, n, got)
				}
			}
		}
	}
}

func TestTextsOfShowsWithOneChange(t *testing.T) {
	valid, invalid := 0, 0
	for _, c := range writtenShows() {
		everyChange(c.s, showNumbers, func(s impl.Show) {
			if checkWritten(t, s) {
				valid++
			} else {
				invalid++
			}
		})
	}
	if valid < 1500 || invalid < 5000 {
		t.Errorf("%d valid and %d invalid shows are too few", valid, invalid)
	}
}

func TestTextsOfVariousShows(t *testing.T) {
	valid, invalid := 0, 0
	texts := map[string]string{}
	variousShows(func(s impl.Show) {
		if !checkWritten(t, s) {
			invalid++
			return
		}
		valid++
		// Different shows have different texts.
		text := impl.FormatShow(s)
		if other, ok := texts[text]; ok && other != textOf(s) {
			t.Errorf("%q is the text of two shows", text)
		}
		texts[text] = textOf(s)
	})
	if valid < 2500 || invalid < 1000 {
		t.Errorf("%d valid and %d invalid shows are too few", valid, invalid)
	}
}

func TestTextsOfAllBounds(t *testing.T) {
	numbers := []int{math.MinInt, -100, -21, math.MaxInt, 21, 100}
	for n := -20; n <= 20; n++ {
		numbers = append(numbers, n)
	}
	valid := 0
	for _, low := range numbers {
		for _, high := range numbers {
			for _, is := range []bool{false, true} {
				s := show(2, []impl.Node{node("go", 0), node("a", 0)}, impl.Tie{From: 0, To: 1, Low: low, High: high, Free: is})
				if checkWritten(t, s) {
					valid++
				}
			}
		}
	}
	if want := 41*42/2 + 20*21/2; valid != want {
		t.Errorf("%d ties are valid instead of %d", valid, want)
	}
	for _, n := range showNumbers {
		s := show(n, []impl.Node{node("go", 0)})
		if checkWritten(t, s) != (n >= 1 && n <= 10) {
			t.Errorf("the Horizon %d", n)
		}
	}
}

func TestTextsOfEverySize(t *testing.T) {
	for nodes := range 12 {
		for ties := range 20 {
			s, text := impl.Show{Horizon: 5}, "horizon 5\n"
			for i := range nodes {
				s.Nodes = append(s.Nodes, node("n"+fmt.Sprint(i), 0))
				text += fmt.Sprintf("node n%d -\n", i)
			}
			for i := range ties {
				s.Ties = append(s.Ties, tie(0, 1, -i, i))
				text += fmt.Sprintf("tie n0 n1 %d %d\n", -i, i)
			}
			is := nodes >= 1 && nodes <= 7 && ties <= 14 && (nodes > 1 || ties == 0)
			got := impl.FormatShow(s)
			if is && got != text || !is && got != "" {
				t.Errorf("the text of %d nodes and %d ties is %q", nodes, ties, got)
			}
			if back, ok := impl.ParseShow(text); ok != is || is && !impl.SameShows(back, s) || !is && !isZeroShow(back) {
				t.Errorf("the text of %d nodes and %d ties is read as %v, %v", nodes, ties, back, ok)
			}
		}
	}
}

// textChanges are changes of richText, in which the first part of each occurs once, after which it is not the text of a show.
var textChanges = []struct {
	part string
	by   []string
}{
	{"horizon 10\n", []string{"", "\n", "horizon 0\n", "horizon 11\n", "horizon -1\n", "horizon +1\n", "horizon +10\n", "horizon 010\n", "horizon 00\n", "horizon -0\n", "horizon -10\n", "horizon 10.\n", "horizon 1e1\n", "horizon 0x3\n", "horizon 1_0\n", "horizon x\n", "horizon inf\n",
		"horizon \n", "horizon\n", "horizon10\n", "10\n", " 10\n", "horizon  10\n", "horizon\t10\n", "horizon\u00a010\n", "horizon\v10\n", "horizon\r10\n", " horizon 10\n", "horizon 10 \n", "\thorizon 10\n", "horizon 10\t\n", "horizon 10\r\n", "horizon 10\x00\n", "\ufeffhorizon 10\n",
		"horizon 10 10\n", "horizon 10 1\n", "horizon horizon 10\n", "Horizon 10\n", "HORIZON 10\n", "horizons 10\n", "horizo 10\n", "horizon: 10\n", "horizon=10\n", "node 10\n", "10 horizon\n", "horizon 9223372036854775807\n", "horizon 9223372036854775808\n", "horizon 18446744073709551626\n", "horizon 4294967306\n", "horizon -9223372036854775808\n",
		"horizon 10\n\n", "\nhorizon 10\n", "horizon 10\nhorizon 10\n", "horizon 9\nhorizon 10\n", "# a show\nhorizon 10\n", "horizon 10 # ten\n", "horizon 10\r", "horizon 10", "horizon 1\uff10\n", "horizon \u0661\n"}},
	{"node go -\n", []string{"", "node go -\nnode go -\n", "node go p1\n", "node go !p1\n", "node go p2\n", "node go - watch 3\n", "node go - watch 1\n", "node go\n", "node go \n", "node go\n-\n", "node -\n", "node - go\n", "go -\n", "node go --\n", "node go - -\n", "node Go -\n", "NODE go -\n", "Node go -\n", "nodes go -\n", "nod go -\n", "tie go -\n", "free go -\n",
		"node  go -\n", "node go  -\n", " node go -\n", "node go - \n", "node\tgo -\n", "node go\t-\n", "node go -\t\n", "node go -\r\n", "node go -\n\n", "node go - watch 0\n", "node g -\n", "node goo -\n", "node go -"}},
	{"node a - watch 1\n", []string{"", "node a -\n", "node a - watch 2\n", "node a - watch 3\n", "node a - watch 0\n", "node a - watch 4\n", "node a - watch -1\n", "node a - watch +1\n", "node a - watch 01\n", "node a - watch 1.0\n", "node a - watch p1\n", "node a - watch x\n", "node a - watch 9223372036854775808\n", "node a - watch 4294967297\n", "node a - watch 18446744073709551617\n",
		"node a - watch\n", "node a - watch \n", "node a - 1\n", "node a -  1\n", "node a watch 1\n", "node a  watch 1\n", "node - watch 1\n", "a - watch 1\n", "node a - Watch 1\n", "node a - WATCH 1\n", "node a - watches 1\n", "node a - watc 1\n", "node a - whatch 1\n", "node a - watch1\n", "node a -watch 1\n", "node a - node 1\n",
		"node a - watch 1 1\n", "node a - watch 1 watch 1\n", "node a - watch 1 watch 3\n", "node a - watch watch 1\n", "node a - - watch 1\n", "node a a - watch 1\n", "node node a - watch 1\n", "node a - watch 1 \n", "node a - watch  1\n", "node a -  watch 1\n", "node a - watch\t1\n", " node a - watch 1\n",
		"node a - watch 1\r\n", "node a p1 watch 1\n", "node a !p1 watch 1\n", "node a p2 watch 1\n", "node a - watch 1\nnode a - watch 1\n", "node a - watch 1\n\n", "node a -\nwatch 1\n", "watch 1 node a -\n", "node watch 1 a -\n", "node a watch 1 -\n", "node A - watch 1\n", "node b - watch 1\n", "node go - watch 1\n", "node cz - watch 1\n", "node e - watch 1\n",
		"node abcdefghi - watch 1\n", "node 1 - watch 1\n", "node a_ - watch 1\n", "node a\x00 - watch 1\n", "node \xff - watch 1\n", "node \u00e4 - watch 1\n", "node a\u0301 - watch 1\n", "node \uff41 - watch 1\n"}},
	{"node b p1 watch 2\n", []string{"", "node b - watch 2\nnode x p2 \n", "node b watch 2\n", "node b p1\n", "node b p1 watch 1\n", "node b p1 watch 3\n", "node b p1&p2 watch 2\n", "node b !p1 watch 2\n", "node b p2 watch 2\n", "node b p3 watch 2\n", "node b p1 watch 2 p1\n", "node b  watch 2\n"}},
	{"node c p1&p2\n", []string{"", "node c p1&p2 watch 0\n", "node c p1&p2 watch 1\n", "node c p1&p2 watch 2\n", "node c p1\n", "node c p2\n", "node c -\n", "node c p2&p1\n", "node c p1&p1\n", "node c p1&p1&p2\n", "node c p1&p2&p3\n", "node c p1&p2&\n", "node c &p1&p2\n", "node c p1&&p2\n", "node c p1 & p2\n", "node c p1& p2\n", "node c p1 p2\n", "node c p1,p2\n", "node c p1&!p2\n", "node c p1&!!p2\n", "node c p1&p-2\n", "node c p1&p02\n", "node c p1&p4\n", "node c p1&p0\n", "node c P1&P2\n", "node c p1&p2 -\n", "node c - p1&p2\n", "node c p1&-\n", "node c 1&2\n",
		"node c\n", "node c \n", "node p1&p2\n", "node p1&p2 c\n", "c p1&p2\n", "node c p1&p2\xff\n", "node c p1\xa6p2\n", "node c p1\uff06p2\n", "node d p1&p2\n", "node c p1&p2\nnode c p1&p2\n", "node c p1&p2 \n", "node c  p1&p2\n", "node C p1&p2\n"}},
	{"node d !p1\n", []string{"", "node d ! p1\n", "node d !!p1\n", "node d -p1\n", "node d !p3\n", "node d !p1&p2\n", "node d p3\n", "node d !P1\n", "node d ~p1\n", "node d !p1&!p1\n", "node d p1&!p1\n", "node d !\n", "node d !p\n", "node d p\n", "node d 1\n", "node d -1\n", "node d !p1 d\n", "node d !p1 watch\n"}},
	{"node e -\n", []string{"", "node e p1\n", "node e - watch 3\n", "node e -\nnode f -\n", "node e -\nnode e -\n", "node e\n", "node -\n", "node f -\n", "node e -\nhorizon 10\n", "node e -\n\n", "node e -\nedge\n", "node e -\nnode\n", "node e -\ntie\n", "node e -\nfree\n", "node e -\nhorizon\n"}},
	{"tie go a 0 2\n", []string{"\n", "tie go a 0\n", "tie go a 2\n", "tie go a\n", "tie go\n", "tie\n", "tie go 0 2\n", "tie a 0 2\n", "tie 0 2\n", "go a 0 2\n", "tie go a 0 2 2\n", "tie go a 0 1 2\n", "tie go a a 0 2\n", "tie tie go a 0 2\n", "tie go a 0 2 free\n", "free tie go a 0 2\n", "tie free go a 0 2\n", "tie go  a 0 2\n", "tie  go a 0 2\n", "tie go a  0 2\n", "tie go a 0  2\n", " tie go a 0 2\n", "tie go a 0 2 \n", "tie\tgo a 0 2\n", "tie go\ta 0 2\n", "tie go a\t0 2\n", "tie go a 0\t2\n", "tie go a 0 2\t\n", "tie go a 0 2\r\n", "\rtie go a 0 2\n",
		"Tie go a 0 2\n", "TIE go a 0 2\n", "ties go a 0 2\n", "ti go a 0 2\n", "link go a 0 2\n", "free go a 0 2\n", "free go a 1 2\n", "tie Go a 0 2\n", "tie go A 0 2\n", "tie go go 0 2\n", "tie a a 0 2\n", "tie go x 0 2\n", "tie x a 0 2\n", "tie x y 0 2\n", "tie go nobody 0 2\n", "tie 0 1 0 2\n", "tie - a 0 2\n", "tie go - 0 2\n", "tie go ab 0 2\n", "tie g a 0 2\n", "tie go,a 0 2\n",
		"tie go a 2 0\n", "tie go a 3 2\n", "tie go a 0 -1\n", "tie go a 0 21\n", "tie go a -21 2\n", "tie go a -0 2\n", "tie go a +0 2\n", "tie go a 00 2\n", "tie go a 0 02\n", "tie go a 0 +2\n", "tie go a 0 2.\n", "tie go a 0..2\n", "tie go a 0 x\n", "tie go a x 2\n", "tie go a 0 \n", "tie go a  2\n", "tie go a -inf 2\n", "tie go a 0 inf\n", "tie go a - 2\n", "tie go a 0 -\n", "tie go a --1 2\n", "tie go a - 1 2\n", "tie go a -01 2\n", "tie go a 0 9223372036854775807\n", "tie go a 0 9223372036854775808\n", "tie go a -9223372036854775808 2\n", "tie go a -9223372036854775809 2\n", "tie go a 0 18446744073709551618\n", "tie go a 0 4294967298\n", "tie go a 0 258\n", "tie go a 0 1e1\n", "tie go a 0 0x2\n", "tie go a 0 \uff12\n", "tie go a 0 2\x00\n",
		"tie go a 0 2\n\n", "tie go a 0 2", "tie go a 0 2\nnode f -\n", "tie go a 0 2\nhorizon 10\n", "tie go a 0 2\nend\n", "tie go a 0 2\n# a tie\n", "tie go a 0 2 # a tie\n", "tie go\na 0 2\n", "tie go a\n0 2\n"}},
	{"free c cz 1 3\n", []string{"free c cz 0 3\n", "free c cz -1 3\n", "free c cz 3 1\n", "free c cz 1 21\n", "free cz cz 1 3\n", "free c e 1 3\n", "free c d 1 3\n", "free e go 1 3\n", "free c b 1 3\n", "free d cz 1 3\n", "free c cz 1 3\nfree c cz 1 3\n", "free c cz 1 3\nfree c cz 2 2\n", "Free c cz 1 3\n", "FREE c cz 1 3\n", "freed c cz 1 3\n", "fre c cz 1 3\n", "free c cz 1\n", "free c cz\n", "free c\n", "free\n", "free c cz 1 3 3\n", "free c 1 3\n", "free c cx 1 3\n", "free x cz 1 3\n", "free c cz 01 3\n", "free c cz 1 +3\n", "free  c cz 1 3\n", "free c cz 1 3 \n", "free c cz 1 3\r\n", "free tie c cz 1 3\n"}},
	{"tie a e -3 8\n", []string{"tie a e -3 8", "tie a e -3 8\n\n", "tie a e -3 8\n\n\n", "tie a e -3 8\n ", "tie a e -3 8\n \n", "tie a e -3 8\n\r\n", "tie a e -3 8\r", "tie a e -3 8\r\n", "tie a e -3 8\n\x00", "tie a e -3 8\nnode f -\n", "tie a e -3 8\nnode e -\n", "tie a e -3 8\nhorizon 10\n", "tie a e -3 8\nhorizon 9\n", "tie a e -3 8\ntie", "tie a e -3 8\ntie\n", "tie a e -3 8\nx", "tie a e -3 8\nx\n", "tie a e -3 8\ntie a e -3", "tie a e -3\n", "tie a e 8\n", "tie a e -3", "tie a e - 3 8\n", "tie a e --3 8\n", "tie a e \u22123 8\n"}},
}

func TestParseShowRefuses(t *testing.T) {
	if s, ok := impl.ParseShow(richText); !ok || !impl.SameShows(s, rich()) {
		t.Fatalf("ParseShow of the text before the changes = %v, %v", s, ok)
	}
	for _, c := range textChanges {
		if strings.Count(richText, c.part) != 1 {
			t.Errorf("%q occurs %d times", c.part, strings.Count(richText, c.part))
		}
		for _, by := range c.by {
			text := strings.Replace(richText, c.part, by, 1)
			if s, ok := impl.ParseShow(text); ok || !isZeroShow(s) {
				t.Errorf("with %q in the place of %q, ParseShow = %v, %v", by, c.part, s, ok)
			}
			if _, is := parsed(text); is {
				t.Errorf("%q in the place of %q is the text of a show", by, c.part)
			}
		}
	}
}

// These changes of richText make texts of other shows.
func TestParseShowOfOtherShows(t *testing.T) {
	for _, c := range []struct {
		parts  []string // each with what takes its place
		change func(s *impl.Show)
	}{
		{nil, func(s *impl.Show) {}},
		{[]string{"horizon 10", "horizon 1"}, func(s *impl.Show) { s.Horizon = 1 }},
		{[]string{" go ", " horizon "}, func(s *impl.Show) { s.Nodes[0].Name = "horizon" }},
		{[]string{" go a ", " a go ", " go ", " a ", " a ", " go "}, func(s *impl.Show) { s.Nodes[0].Name, s.Nodes[1].Name = "a", "go" }},
		{[]string{"node d !p1\n", "node d -\n"}, func(s *impl.Show) { s.Nodes[5].Label = nil }},
		{[]string{"node d !p1\n", "node d !p1 watch 3\n"}, func(s *impl.Show) { s.Nodes[5].Watch = 3 }},
		{[]string{"node d !p1\n", "node dd123456 p1&!p2\n", " d ", " dd123456 "}, func(s *impl.Show) { s.Nodes[5].Name, s.Nodes[5].Label = "dd123456", []int{1, -2} }},
		{[]string{"tie a d 1 2\n", ""}, func(s *impl.Show) { s.Ties = slices.Delete(s.Ties, 4, 5) }},
		{[]string{"tie a d 1 2\n", "tie d a -20 20\n"}, func(s *impl.Show) { s.Ties[4] = tie(5, 1, -20, 20) }},
		{[]string{"free c cz 1 3\n", "tie c cz 1 3\n"}, func(s *impl.Show) { s.Ties[3].Free = false }},
		{[]string{"free c cz 1 3\n", "free cz c 20 20\n"}, func(s *impl.Show) { s.Ties[3] = free(4, 3, 20, 20) }},
		{[]string{"tie a e -3 8\n", "tie a e -3 8\ntie a e -3 8\n"}, func(s *impl.Show) { s.Ties = append(s.Ties, tie(1, 6, -3, 8)) }},
		{[]string{"node e -\n", "", "free go e 2 5\n", "", "tie a e -3 8\n", ""}, func(s *impl.Show) { s.Nodes, s.Ties = s.Nodes[:6], s.Ties[:5] }},
	} {
		text, s := strings.NewReplacer(c.parts...).Replace(richText), changedShow(c.change)
		if got, ok := impl.ParseShow(text); !ok || !impl.SameShows(got, s) || impl.FormatShow(s) != text {
			t.Errorf("ParseShow(%q) = %v, %v, want %v", text, got, ok, s)
		}
	}
}

func TestParseShowOfOddTexts(t *testing.T) {
	for _, text := range []string{
		"", " ", "\n", "\n\n", "-", "-\n", "\r\n", "\x00", "\xff\n", "horizon", "horizon 1", "horizon 1\n", "horizon 1\n\n", "node go -\n", "node go -\nhorizon 1\n", "horizon 1 node go -\n", "horizon 1\\nnode go -\n", "horizon 1;node go -;", "horizon 1\r\nnode go -\r\n", "horizon 1\rnode go -\r",
		"horizon 1\nnode go -", "horizon 1\nnode go -\n\n", "\nhorizon 1\nnode go -\n", "horizon 1\n\nnode go -\n", "horizon 1\nnode go -\nhorizon 1\n", "horizon 1\nhorizon 1\nnode go -\n", "horizon 2\nnode go -\nhorizon 1\n", "horizon 1\nnode go -\nnode go -\n", "horizon 1\nnode go -\n-\n",
		"horizon 1\nnode go -\ntie go go 0 0\n", "horizon 1\nnode go -\ntie go a 0 0\nnode a -\n", "horizon 1\nnode go -\nfree go a 1 1\nnode a -\n", "horizon 1\ntie go a 0 0\nnode go -\nnode a -\n", "tie go a 0 0\nhorizon 1\nnode go -\nnode a -\n", "node go -\nnode a -\ntie go a 0 0\nhorizon 1\n",
		"horizon 1\nnode \xff -\n", "horizon 1\nnode g\xff -\n", "horizon 1\nnode go \xff\n", "horizon 1\nnode go -\xff\n", "\xffhorizon 1\nnode go -\n", "horizon \xff\nnode go -\n", "horizon 1\nnode go -\n\xff", "horizon 1\nnode go -\n\xff\n", "horizon 1\xc2\xa0\nnode go -\n", "horizon\xe2\x80\x831\nnode go -\n", "horizon 1\xe2\x80\xa8node go -\n", "horizon 1\xc2\x85node go -\n",
		"\xef\xbb\xbfhorizon 1\nnode go -\n", "horizon 1\nnode go \xe2\x88\x92\n", "h\x00orizon 1\nnode go -\n",
		"[10]\ngo\n", "{\"horizon\":1}", "horizon 1\nnode go -\nnode a -\ntie go a 0 1\nnode b -\n", "10\ngo -\n", "horizon go\nnode 1 -\n",
		// The zero value, written like a text, and a show without nodes.
		textLike(impl.Show{}), textLike(show(3, nil)), textLike(show(3, nil, tie(0, 1, 1, 1))), textLike(show(3, []impl.Node{{}})), textLike(show(3, []impl.Node{{}}, impl.Tie{})),
	} {
		if s, ok := impl.ParseShow(text); ok || !isZeroShow(s) {
			t.Errorf("ParseShow(%q) = %v, %v", text, s, ok)
		}
		checkParsed(t, text)
	}
	if impl.FormatShow(impl.Show{}) != "" {
		t.Errorf("the text of the zero value is %q", impl.FormatShow(impl.Show{}))
	}
}

func TestParseShowOfLongTexts(t *testing.T) {
	many := 100000
	var nodes, ties strings.Builder
	for i := range many {
		fmt.Fprintf(&nodes, "node a%d -\n", i)
		fmt.Fprintf(&ties, "tie a%d a%d 0 1\n", i, many-1-i)
	}
	small := "horizon 1\nnode go -\n"
	for i, text := range []string{
		"horizon 1\n" + nodes.String(), "horizon 1\n" + nodes.String() + ties.String(), small + ties.String(), nodes.String(), ties.String(),
		strings.Repeat("\n", many), strings.Repeat(" ", many), strings.Repeat("\x00", many), strings.Repeat("\xff\n", many), strings.Repeat("horizon 1\n", many), strings.Repeat("node go -\n", many), "horizon 1\n" + strings.Repeat("node go -\n", many), strings.Repeat(small, many), strings.Repeat(richText, 1000),
		small + strings.Repeat("\n", many), strings.Repeat("\n", many) + small, small + strings.Repeat(" ", many), strings.Repeat(" ", many) + small, small + strings.Repeat("x", many), "horizon " + strings.Repeat("0", many) + "1\nnode go -\n", "horizon " + strings.Repeat("1", many) + "\nnode go -\n", "horizon 1" + strings.Repeat(" ", many) + "\nnode go -\n", "horizon" + strings.Repeat(" ", many) + "1\nnode go -\n",
		"horizon 1\nnode " + strings.Repeat("a", many) + " -\n", "horizon 1\nnode go " + strings.Repeat("-", many) + "\n", "horizon 1\nnode go " + strings.Repeat("p1&", many) + "p1\n", "horizon 1\nnode go -" + strings.Repeat(" watch 1", many) + "\n", "horizon 1\nnode go - watch " + strings.Repeat("9", many) + "\n", "horizon 1\nnode go -" + strings.Repeat(" -", many) + "\n",
		small + "tie go " + strings.Repeat("a", many) + " 0 1\n", small + "tie go go 0 " + strings.Repeat("1", many) + "\n", small + "tie" + strings.Repeat(" go", many) + "\n", richText + strings.Repeat("tie a e -3 8\n", many), strings.Repeat(strings.ReplaceAll(richText, "\n", " "), 1000),
	} {
		if s, ok := impl.ParseShow(text); ok || !isZeroShow(s) {
			t.Errorf("long text %d: ParseShow = %v, %v", i, s, ok)
		}
	}
}

// Every byte of some texts left out, or another one put in its place or before it.
func TestParseShowWithOneOtherByte(t *testing.T) {
	var all, few []byte
	for b := range 256 {
		all = append(all, byte(b))
	}
	few = []byte("\n\r\t\x00 !&-+.0123459abeghnotwzANW@\x80\xff")
	small := "horizon 2\nnode go -\nnode a - watch 2\nnode b !p2\nnode c !p2\ntie go a -1 0\nfree b c 1 2\n"
	found := 0
	for i, text := range append([]string{small, richText, wordyText}, goodTexts...) {
		bytes := few
		if i == 0 {
			bytes = all
		}
		for at := range len(text) + 1 {
			for _, b := range bytes {
				if checkParsed(t, text[:at]+string([]byte{b})+text[at:]) {
					found++
				}
				if at < len(text) && checkParsed(t, text[:at]+string([]byte{b})+text[at+1:]) {
					found++
				}
			}
			checkParsed(t, text[:at])
			checkParsed(t, text[at:])
			if at < len(text) && checkParsed(t, text[:at]+text[at+1:]) {
				found++
			}
		}
	}
	if found < 2000 {
		t.Errorf("%d texts of shows are too few", found)
	}
}

// Every line of some texts left out, written twice, or moved to another place, and all pairs of them exchanged.
func TestParseShowWithOtherLines(t *testing.T) {
	found := 0
	check := func(lines []string) {
		if checkParsed(t, strings.Join(lines, "")) {
			found++
		}
	}
	for _, c := range writtenShows() {
		lines := strings.SplitAfter(strings.TrimSuffix(c.text, "\n"), "\n")
		lines[len(lines)-1] += "\n"
		for i, line := range lines {
			less := slices.Delete(slices.Clone(lines), i, i+1)
			check(less)
			for k := range len(lines) + 1 {
				check(slices.Insert(slices.Clone(lines), k, line))
				check(slices.Insert(slices.Clone(lines), k, "\n"))
				if k < len(lines) {
					check(slices.Insert(slices.Clone(less), k, line))
					swapped := slices.Clone(lines)
					swapped[i], swapped[k] = swapped[k], swapped[i]
					check(swapped)
				}
			}
		}
		slices.Reverse(lines)
		check(lines)
	}
	if found < 500 {
		t.Errorf("%d texts of shows are too few", found)
	}
}

// Every word of some texts left out, or another one put in its place, before it or at the end of the line.
func TestParseShowWithOneOtherWord(t *testing.T) {
	words := []string{"", "horizon", "node", "tie", "free", "watch", "-", "p1", "!p1", "p1&p2", "!p2&p3", "p0", "go", "a", "b", "az", "dz", "x9", "Go", "abcdefghi", "0", "1", "2", "3", "4", "10", "11", "20", "21", "-1", "-20", "-21", "01", "+1", "1.0", "99999999999999999999", "inf", "@", "\t", "\xff"}
	found := 0
	for _, c := range writtenShows() {
		lines := strings.Split(strings.TrimSuffix(c.text, "\n"), "\n")
		for i, line := range lines {
			check := func(words []string) {
				other := slices.Clone(lines)
				other[i] = strings.Join(words, " ")
				if checkParsed(t, strings.Join(other, "\n")+"\n") {
					found++
				}
			}
			old := strings.Split(line, " ")
			for k := range len(old) + 1 {
				for _, word := range words {
					check(slices.Insert(slices.Clone(old), k, word))
					if k < len(old) {
						check(slices.Concat(old[:k], []string{word}, old[k+1:]))
					}
				}
				check(old[:k])
				check(old[k:])
				if k < len(old) {
					check(slices.Delete(slices.Clone(old), k, k+1))
				}
			}
		}
	}
	if found < 1500 {
		t.Errorf("%d texts of shows are too few", found)
	}
}

// All texts of up to five of these lines, of which few are in order.
func TestParseShowOfEveryShortText(t *testing.T) {
	lines := []string{"horizon 3", "horizon 0", "node a -", "node b - watch 1", "node b p1", "node c !p1", "node c p1", "tie a b 0 1", "tie b c -1 1", "free b c 1 1", "free a b 0 1", ""}
	found := 0
	for length := range 6 {
		everyList(length, spread(len(lines)), func(chosen []int) {
			var b strings.Builder
			for _, i := range chosen {
				b.WriteString(lines[i] + "\n")
			}
			if checkParsed(t, b.String()) {
				found++
			}
		})
	}
	// With node a only there is 1. With a and the watcher b there are 3: with none, one or two of the ties between them.
	// With a, then b and c in any order, and c with one of two labels, there are 4 without a tie, and 4 with each of two ties.
	// Both Free ties are wrong.
	if want := 1 + 3 + 4*3; found != want {
		t.Errorf("%d texts of shows instead of %d", found, want)
	}
}

func TestFormatTie(t *testing.T) {
	for i, c := range writtenShows() {
		var lines []string
		for _, line := range strings.Split(c.text, "\n") {
			if strings.HasPrefix(line, "tie ") || strings.HasPrefix(line, "free ") {
				lines = append(lines, line)
			}
		}
		if len(lines) != len(c.s.Ties) {
			t.Fatalf("show %d: %d lines of %d ties", i, len(lines), len(c.s.Ties))
		}
		for _, n := range append([]int{len(lines), len(lines) + 1, -len(lines)}, showNumbers...) {
			want := ""
			if n >= 0 && n < len(lines) {
				want = lines[n]
			}
			if got := impl.FormatTie(c.s, n); got != want {
				t.Errorf("show %d: FormatTie of %d = %q, want %q", i, n, got, want)
			}
		}
	}
	for _, c := range []struct {
		i    int
		want string
	}{{0, "tie go a 0 2"}, {3, "free c cz 1 3"}, {5, "free go e 2 5"}, {6, "tie a e -3 8"}, {7, ""}, {-1, ""}, {math.MinInt, ""}, {math.MaxInt, ""}} {
		if got := impl.FormatTie(rich(), c.i); got != c.want {
			t.Errorf("FormatTie of %d = %q, want %q", c.i, got, c.want)
		}
	}
	for _, n := range showNumbers {
		for _, s := range []impl.Show{{}, show(3, nil), show(3, nil, tie(0, 1, 1, 1)), show(0, rich().Nodes, rich().Ties...), show(3, []impl.Node{node("a", 0), node("a", 0)}, tie(0, 1, 1, 1)), show(3, []impl.Node{node("a", 0), node("b", 0)}, tie(0, 1, 1, 1), tie(0, 2, 1, 1)), show(3, []impl.Node{node("a", 0), node("b", 0)}, slices.Repeat([]impl.Tie{tie(0, 1, 1, 1)}, 15)...)} {
			if got := impl.FormatTie(s, n); got != "" {
				t.Errorf("FormatTie(%v, %d) = %q", s, n, got)
			}
		}
	}
}

func TestFormatTimes(t *testing.T) {
	one, two := show(1, []impl.Node{node("go", 0)}), goodShows[2].s
	most := goodShows[10].s
	for _, c := range []struct {
		s     impl.Show
		times []int
		want  string
	}{
		{one, []int{0}, "go@0"}, {one, []int{-1}, "-"}, {one, []int{-2}, "go@-2"}, {one, []int{1}, "go@1"}, {one, []int{10}, "go@10"}, {one, []int{math.MinInt}, "go@-9223372036854775808"}, {one, []int{math.MaxInt}, "go@9223372036854775807"}, {one, []int{1000000}, "go@1000000"}, {one, []int{-1000000}, "go@-1000000"},
		{one, []int{1<<32 - 1}, "go@4294967295"}, {one, []int{255}, "go@255"},
		{one, nil, ""}, {one, []int{}, ""}, {one, []int{0, 0}, ""}, {one, []int{-1, -1}, ""}, {one, []int{0, -1}, ""},
		{two, []int{0, 1, 2, 3}, "go@0 a@1 b@2 c@3"}, {two, []int{0, -1, -1, -1}, "go@0"}, {two, []int{-1, 1, -1, -1}, "a@1"}, {two, []int{-1, -1, -1, 5}, "c@5"}, {two, []int{-1, -1, 0, -1}, "b@0"}, {two, []int{0, -1, 4, -1}, "go@0 b@4"}, {two, []int{-1, 2, 2, -1}, "a@2 b@2"}, {two, []int{7, -1, -1, 7}, "go@7 c@7"}, {two, []int{-1, -1, -1, -1}, "-"},
		{two, []int{0, 0, 0, 0}, "go@0 a@0 b@0 c@0"}, {two, []int{-2, -3, -10, -1}, "go@-2 a@-3 b@-10"}, {two, []int{99, math.MinInt, math.MaxInt, -100}, "go@99 a@-9223372036854775808 b@9223372036854775807 c@-100"},
		{two, nil, ""}, {two, []int{}, ""}, {two, []int{0}, ""}, {two, []int{0, 1, 2}, ""}, {two, []int{0, 1, 2, 3, 4}, ""}, {two, []int{0, 1, 2, 3, -1}, ""}, {two, []int{-1, -1, -1}, ""}, {two, []int{-1, -1, -1, -1, -1}, ""}, {two, make([]int, 100000), ""}, {two, slices.Repeat([]int{-1}, 100000), ""},
		{most, []int{0, 1, 2, 3, 4, 5, 6}, "a@0 abcdefgh@1 z9999999@2 q0@3 e@4 f@5 g@6"}, {most, []int{-1, 10, -1, -1, -1, -1, 10}, "abcdefgh@10 g@10"}, {most, []int{0, 1, 2, 3, 4, 5}, ""}, {most, []int{0, 1, 2, 3, 4, 5, 6, 7}, ""},
		{wordy(), []int{0, 1, 2, -1, -1, 3, 0}, "horizon@0 node@1 watch@2 p1@3 n3@0"},
		{impl.Show{}, nil, ""}, {impl.Show{}, []int{}, ""}, {impl.Show{}, []int{0}, ""}, {show(3, nil), nil, ""}, {show(3, nil), []int{-1}, ""}, {show(0, one.Nodes), []int{0}, ""}, {show(0, one.Nodes), []int{-1}, ""}, {show(11, two.Nodes, two.Ties...), []int{0, 1, 2, 3}, ""}, {show(3, []impl.Node{node("a", 0), node("a", 0)}), []int{0, 1}, ""}, {show(3, []impl.Node{node("", 0)}), []int{0}, ""},
		{show(3, slices.Repeat([]impl.Node{node("a", 0)}, 8)), make([]int, 8), ""}, {show(3, one.Nodes, tie(0, 0, 1, 1)), []int{0}, ""},
	} {
		if got := impl.FormatTimes(c.s, c.times); got != c.want {
			t.Errorf("FormatTimes(%v, %.20v) = %q, want %q", c.s, c.times, got, c.want)
		}
	}
}

func TestFormatTimesOfEveryShortList(t *testing.T) {
	for i, s := range []impl.Show{goodShows[0].s, show(4, []impl.Node{node("go", 0), node("b", 0), node("a1", 0)}), goodShows[1].s, goodShows[5].s, show(0, goodShows[1].s.Nodes), {}} {
		for length := range 6 {
			everyList(length, []int{math.MinInt, -2, -1, 0, 1, 12, math.MaxInt}, func(times []int) {
				if got, want := impl.FormatTimes(s, times), timesText(s, times); got != want {
					t.Fatalf("show %d: FormatTimes(%v) = %q, want %q", i, times, got, want)
				}
			})
		}
	}
	n := 0
	variousShows(func(s impl.Show) {
		// Numbers that have nothing to do with the show, a third of them Open.
		var times []int
		for i := range len(s.Nodes) + n%3/2 {
			times = append(times, []int{-1, n * i % 23, i - n%5}[(n+i*i)%3])
			n++
		}
		if got, want := impl.FormatTimes(s, times), timesText(s, times); got != want {
			t.Fatalf("FormatTimes(%v, %v) = %q, want %q", s, times, got, want)
		}
		n++
	})
}

func TestTextsOfNilAndEmptyLists(t *testing.T) {
	for _, c := range writtenShows() {
		for _, s := range []impl.Show{emptied(c.s, true), emptied(c.s, false)} {
			checkWritten(t, s)
			if impl.FormatShow(s) != c.text || impl.FormatTimes(s, nil) != "" || impl.FormatTimes(s, []int{}) != "" {
				t.Errorf("nil and empty lists differ in %q", c.text)
			}
		}
	}
}

// callTextFunctions calls all functions of the chapter, and returns what they say.
func callTextFunctions(s impl.Show, times []int, text string) string {
	var b strings.Builder
	back, ok := impl.ParseShow(text)
	fmt.Fprint(&b, impl.FormatShow(s), impl.FormatTimes(s, times), textOf(back), ok)
	for i := -1; i <= len(s.Ties); i++ {
		fmt.Fprintln(&b, impl.FormatTie(s, i))
	}
	return b.String()
}

func TestTextArgumentsAreKept(t *testing.T) {
	for i, c := range knownShows() {
		s, kept := spacious(c)
		numbers := slices.Repeat([]int{0, -1, 3}, 6)
		times := numbers[:len(s.Nodes)]
		before, numbersBefore := kept()+fmt.Sprint(s), slices.Clone(numbers)
		callTextFunctions(s, times, textLike(s))
		impl.FormatTimes(s, numbers[:len(s.Nodes)+1])
		if kept()+fmt.Sprint(s) != before || !slices.Equal(numbers, numbersBefore) {
			t.Errorf("an argument has changed in show %d: %v, %v", i, s, numbers)
		}
	}
}

// overwrite changes all of a show, with the spare capacity of its lists.
func overwrite(s impl.Show) {
	for _, n := range s.Nodes {
		l := n.Label[:cap(n.Label)]
		for i := range l {
			l[i] = 77
		}
	}
	nodes, ties := s.Nodes[:cap(s.Nodes)], s.Ties[:cap(s.Ties)]
	for i := range nodes {
		nodes[i] = node("wrong", 9)
	}
	for i := range ties {
		ties[i] = free(7, 7, 77, 77)
	}
}

func TestParsedShowsAreNew(t *testing.T) {
	for _, c := range writtenShows() {
		first, _ := impl.ParseShow(c.text)
		second, _ := impl.ParseShow(c.text)
		overwrite(first)
		third, _ := impl.ParseShow(c.text)
		if !impl.SameShows(second, c.s) || !impl.SameShows(third, c.s) {
			t.Errorf("the shows of two calls share memory: %v, %v", second, third)
		}
		// The labels of one show share no memory either.
		for i := range second.Nodes {
			want := textOf(second)
			kept := slices.Clone(second.Nodes[i].Label)
			l := second.Nodes[i].Label[:cap(second.Nodes[i].Label)]
			for k := range l {
				l[k] = 77
			}
			copy(second.Nodes[i].Label, kept)
			if textOf(second) != want {
				t.Errorf("two labels of %q share memory: %v", c.text, second)
			}
		}
	}
}

// Calls between other calls, many times: nothing is kept.
func TestTextResultsAreAlwaysTheSame(t *testing.T) {
	shows := knownShows()
	answers := make([]string, len(shows))
	for round := range 30 {
		for i, s := range shows {
			got := callTextFunctions(s, spread(len(s.Nodes)), textLike(s))
			if round == 0 {
				answers[i] = got
			}
			if got != answers[i] {
				t.Fatalf("the answers for %v have changed: %s, before %s", s, got, answers[i])
			}
		}
	}
	// The same memory with another content is another show.
	s, times := goodShows[1].s, []int{0, 1, 2, 3}
	s = cloneShow(s)
	for range 30 {
		s.Nodes[1].Name, times[1] = "b", 5
		if impl.FormatShow(s) != "" || impl.FormatTie(s, 0) != "" || impl.FormatTimes(s, times) != "" {
			t.Fatal("a changed show is taken for the old one")
		}
		s.Nodes[1].Name = "x"
		if impl.FormatTie(s, 0) != "tie go x 0 2" || impl.FormatTimes(s, times) != "go@0 x@5 az@2 b@3" || !strings.Contains(impl.FormatShow(s), "\nnode x -\n") {
			t.Fatal("a changed show is taken for the old one")
		}
		s.Nodes[1].Name, times[1] = "a", 1
		if impl.FormatShow(s) != goodTexts[1] || impl.FormatTimes(s, times) != "go@0 a@1 az@2 b@3" {
			t.Fatal("a changed show is taken for the old one")
		}
	}
}
