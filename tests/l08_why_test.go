package tests

import (
	"math"
	"math/rand"
	"slices"
	"strconv"
	"strings"
	"testing"

	"loop.example/g00759/impl"
)

// markText is a mark in short: its node, its place, and + of yes, - of no, as 1@0+.
func markText(m impl.Mark) string {
	return strconv.FormatInt(m.Node, 10) + "@" + strconv.FormatInt(m.At, 10) + signs([]bool{m.Yes})
}

func marksText(marks []impl.Mark) string {
	var texts []string
	for _, m := range marks {
		texts = append(texts, markText(m))
	}
	return strings.Join(texts, " ")
}

// marksOf reads what marksText tells.
func marksOf(t *testing.T, text string) []impl.Mark {
	t.Helper()
	var marks []impl.Mark
	for _, word := range strings.Fields(text) {
		node, at, _ := strings.Cut(word[:len(word)-1], "@")
		n, _ := strconv.ParseInt(node, 10, 64)
		i, _ := strconv.ParseInt(at, 10, 64)
		marks = append(marks, impl.Mark{Node: n, At: i, Yes: strings.HasSuffix(word, "+")})
	}
	if marksText(marks) != strings.Join(strings.Fields(text), " ") {
		t.Fatalf("%s: no marks", text)
	}
	return marks
}

// court knows of a formula and a trace what is so, from the tree's own verdicts.
type court struct {
	f  []impl.Node
	l  []impl.Event
	so [][]bool
}

func courtOf(x tree, l []impl.Event) court {
	f, texts, _ := x.rows(nil, nil)
	c := court{f: f, l: l, so: make([][]bool, len(f))}
	for _, part := range x.parts() {
		c.so[slices.Index(texts, part.text())] = part.verdicts(l)
	}
	return c
}

// truths are the marks of all nodes and places, as they are.
func (c court) truths() []impl.Mark {
	var marks []impl.Mark
	for node, row := range c.so {
		for i, yes := range row {
			marks = append(marks, impl.Mark{Node: int64(node), At: int64(i), Yes: yes})
		}
	}
	return marks
}

func (c court) isSo(m impl.Mark) bool {
	return c.so[m.Node][m.At] == m.Yes
}

// such are the places that a node with bounds asks of.
func (c court) such(x impl.Node, i int64) []int64 {
	var places []int64
	for from := range i + 1 {
		gap := c.l[i].Time - c.l[from].Time
		if gap >= x.Low && (x.High == -1 || gap <= x.High) {
			places = append(places, from)
		}
	}
	return places
}

// follows goes by the chapter, kind by kind, and looks each mark up in the list itself.
func (c court) follows(marks []impl.Mark, m impl.Mark) bool {
	if m.Node < 0 || m.Node >= int64(len(c.f)) || m.At < 0 || m.At >= int64(len(c.l)) || len(marks) > impl.MaxList {
		return false
	}
	x := c.f[m.Node]
	there := func(node int64, at int64, yes bool) bool {
		return slices.Contains(marks, impl.Mark{Node: node, At: at, Yes: yes})
	}
	a := func(at int64) bool { return there(x.A, at, m.Yes) }
	noA := func(at int64) bool { return !a(at) }
	b := there(x.B, m.At, m.Yes)
	such := c.such(x, m.At)
	switch x.Kind {
	case impl.FmTrue:
		return m.Yes
	case impl.FmAtom:
		return slices.Contains(c.l[m.At].Names, x.Name) == m.Yes
	case impl.FmNot:
		return there(x.A, m.At, !m.Yes)
	case impl.FmAnd:
		return a(m.At) && b || !m.Yes && (a(m.At) || b)
	case impl.FmOr:
		return a(m.At) && b || m.Yes && (a(m.At) || b)
	case impl.FmPrev:
		if in := slices.Contains(such, m.At-1); in || m.Yes {
			return in && a(m.At-1)
		}
		return true
	case impl.FmOnce, impl.FmHist:
		if m.Yes == (x.Kind == impl.FmOnce) {
			return slices.ContainsFunc(such, a)
		}
		return !slices.ContainsFunc(such, noA)
	}
	behind := func(from int64) []int64 {
		var places []int64
		for at := from + 1; at <= m.At; at++ {
			places = append(places, at)
		}
		return places
	}
	if m.Yes {
		return slices.ContainsFunc(such, func(at int64) bool {
			return there(x.B, at, true) && !slices.ContainsFunc(behind(at), noA)
		})
	}
	return !slices.ContainsFunc(such, func(at int64) bool {
		return !there(x.B, at, false) && !slices.ContainsFunc(behind(at), a)
	})
}

// proves asks of each mark those ahead of it.
func (c court) proves(marks []impl.Mark) bool {
	for i, m := range marks {
		if !c.follows(marks[:i], m) {
			return false
		}
	}
	return len(marks) <= impl.MaxList
}

// why is what is told of m ahead of which marks are there already, made as the chapter tells.
func (c court) why(marks []impl.Mark, m impl.Mark) []impl.Mark {
	if slices.Contains(marks, m) {
		return marks
	}
	for _, from := range c.reasons(m) {
		marks = c.why(marks, from)
	}
	return append(marks, m)
}

func (c court) reasons(m impl.Mark) []impl.Mark {
	x := c.f[m.Node]
	a := func(at int64) impl.Mark { return impl.Mark{Node: x.A, At: at, Yes: m.Yes} }
	b := func(at int64) impl.Mark { return impl.Mark{Node: x.B, At: at, Yes: m.Yes} }
	switch x.Kind {
	case impl.FmTrue, impl.FmAtom:
		return nil
	case impl.FmNot:
		return []impl.Mark{{Node: x.A, At: m.At, Yes: !m.Yes}}
	case impl.FmAnd, impl.FmOr:
		if m.Yes == (x.Kind == impl.FmAnd) {
			return []impl.Mark{a(m.At), b(m.At)}
		}
		if c.isSo(a(m.At)) {
			return []impl.Mark{a(m.At)}
		}
		return []impl.Mark{b(m.At)}
	case impl.FmSince:
		return c.sinceReasons(m)
	}
	var all, last []impl.Mark
	for _, at := range c.such(x, m.At) {
		if x.Kind == impl.FmPrev && at != m.At-1 {
			continue
		}
		all = append(all, a(at))
		if c.isSo(a(at)) {
			last = []impl.Mark{a(at)}
		}
	}
	if m.Yes == (x.Kind == impl.FmHist) {
		return all
	}
	return last
}

func (c court) sinceReasons(m impl.Mark) []impl.Mark {
	x := c.f[m.Node]
	var marks []impl.Mark
	for _, from := range c.such(x, m.At) {
		b := impl.Mark{Node: x.B, At: from, Yes: m.Yes}
		if m.Yes && c.isSo(b) {
			// Of several places the last one stays.
			marks = []impl.Mark{b}
			for at := from + 1; at <= m.At; at++ {
				marks = append(marks, impl.Mark{Node: x.A, At: at, Yes: true})
			}
		}
		if !m.Yes && c.isSo(b) {
			marks = append(marks, b)
		} else if !m.Yes {
			at := m.At
			for c.so[x.A][at] {
				at--
			}
			marks = append(marks, impl.Mark{Node: x.A, At: at})
		}
	}
	return marks
}

func wantNoMarks(t *testing.T, what string, got impl.WhyOut, code int64) {
	t.Helper()
	if got.Code != code || got.Marks != nil {
		t.Errorf("%s: got %+v, want code %d", what, got, code)
	}
}

// wantProof holds an answer to what every answer must be, whatever its marks are.
func wantProof(t *testing.T, f []impl.Node, l []impl.Event, node int64, i int64, got impl.WhyOut) {
	t.Helper()
	// The text is made but for a fault: of many nodes it may be very long.
	fault := func(what string) {
		t.Helper()
		t.Errorf("WhyOf node %d at %d of %.300s, %+v: %s", node, i, impl.FormulaText(f), l, what)
	}
	marks := got.Marks
	if got.Code != impl.OK || len(marks) == 0 || len(marks) > impl.MaxList {
		fault("code " + strconv.FormatInt(got.Code, 10) + ", " + strconv.Itoa(len(marks)) + " marks")
		return
	}
	if !impl.Proves(f, l, marks) {
		fault("nothing is proved by " + marksText(marks))
	}
	if last := marks[len(marks)-1]; last != (impl.Mark{Node: node, At: i, Yes: impl.HoldsAt(f, node, l, i)}) {
		fault("the last mark is " + markText(last))
	}
	for at, m := range marks {
		if !impl.Follows(f, l, marks[:at], m) {
			fault(markText(m) + " does not follow from " + marksText(marks[:at]))
		}
		if slices.Contains(marks[:at], m) {
			fault(markText(m) + " is there twice")
		}
		if impl.HoldsAt(f, m.Node, l, m.At) != m.Yes {
			fault(markText(m) + " is not so")
		}
	}
}

// wantWhyAll holds WhyOf of each node at each of these places to the marks of the chapter.
func wantWhyAll(t *testing.T, x tree, l []impl.Event, places ...int) {
	t.Helper()
	c := courtOf(x, l)
	for node := range c.f {
		for _, i := range places {
			m := impl.Mark{Node: int64(node), At: int64(i), Yes: c.so[node][i]}
			want, got := c.why(nil, m), impl.WhyOf(c.f, l, m.Node, m.At)
			if len(want) > impl.MaxList {
				wantNoMarks(t, "WhyOf "+markText(m)+" of "+x.text(), got, impl.ErrFull)
				continue
			}
			if got.Code != impl.OK || !slices.Equal(got.Marks, want) {
				t.Errorf("WhyOf %s of %s, %+v: got %.500s, want %.500s", markText(m), x.text(), l, marksText(got.Marks), marksText(want))
				continue
			}
			wantProof(t, c.f, l, m.Node, m.At, got)
		}
	}
}

func allPlaces(l []impl.Event) []int {
	var places []int
	for i := range l {
		places = append(places, i)
	}
	return places
}

// whyTrace has two events of one Time, and gaps of 2, 3 and 4.
func whyTrace() []impl.Event {
	return []impl.Event{event(0, "q"), event(2, "p"), event(5, "p", "q"), event(5), event(9, "p")}
}

// wantWhy holds WhyOf of the whole, at each place of whyTrace, to marks written out.
func wantWhy(t *testing.T, text string, want ...string) {
	t.Helper()
	f, l := formula(t, text), whyTrace()
	if len(want) != len(l) {
		t.Fatalf("%s: %d places", text, len(want))
	}
	for i := range l {
		got := impl.WhyOf(f, l, int64(len(f)-1), int64(i))
		if got.Code != impl.OK || !slices.Equal(got.Marks, marksOf(t, want[i])) {
			t.Errorf("WhyOf %s at %d: got %s, code %d, want %s", text, i, marksText(got.Marks), got.Code, want[i])
			continue
		}
		wantProof(t, f, l, int64(len(f)-1), int64(i), got)
	}
}

func TestPromise10EachKindByItself(t *testing.T) {
	wantWhy(t, "true", "0@0+", "0@1+", "0@2+", "0@3+", "0@4+")
	wantWhy(t, "p", "0@0-", "0@1+", "0@2+", "0@3-", "0@4+")
	wantWhy(t, "other", "0@0-", "0@1-", "0@2-", "0@3-", "0@4-")
	wantWhy(t, "(not p)", "0@0- 1@0+", "0@1+ 1@1-", "0@2+ 1@2-", "0@3- 1@3+", "0@4+ 1@4-")
	wantWhy(t, "(not true)", "0@0+ 1@0-", "0@1+ 1@1-", "0@2+ 1@2-", "0@3+ 1@3-", "0@4+ 1@4-")
	// Of one of two that of A, if it is so.
	wantWhy(t, "(and p q)", "0@0- 2@0-", "1@1- 2@1-", "0@2+ 1@2+ 2@2+", "0@3- 2@3-", "1@4- 2@4-")
	wantWhy(t, "(or p q)", "1@0+ 2@0+", "0@1+ 2@1+", "0@2+ 2@2+", "0@3- 1@3- 2@3-", "0@4+ 2@4+")
	wantWhy(t, "(and p p)", "0@0- 1@0-", "0@1+ 1@1+", "0@2+ 1@2+", "0@3- 1@3-", "0@4+ 1@4+")
	wantWhy(t, "(or p p)", "0@0- 1@0-", "0@1+ 1@1+", "0@2+ 1@2+", "0@3- 1@3-", "0@4+ 1@4+")
}

func TestPromise10PrevByItself(t *testing.T) {
	wantWhy(t, "(prev 0 * p)", "1@0-", "0@0- 1@1-", "0@1+ 1@2+", "0@2+ 1@3+", "0@3- 1@4-")
	// At 4 the place just ahead is not within the bounds; at 3 neither it, nor a place further ahead that is.
	wantWhy(t, "(prev 0 3 p)", "1@0-", "0@0- 1@1-", "0@1+ 1@2+", "0@2+ 1@3+", "1@4-")
	wantWhy(t, "(prev 2 3 p)", "1@0-", "0@0- 1@1-", "0@1+ 1@2+", "1@3-", "1@4-")
	wantWhy(t, "(prev 3 3 q)", "1@0-", "1@1-", "0@1- 1@2-", "1@3-", "1@4-")
	wantWhy(t, "(prev 0 0 p)", "1@0-", "1@1-", "1@2-", "0@2+ 1@3+", "1@4-")
}

func TestPromise10OnceAndHistByThemselves(t *testing.T) {
	// Of some place the last one, of all places from the first one on.
	wantWhy(t, "(once 0 * p)", "0@0- 1@0-", "0@1+ 1@1+", "0@2+ 1@2+", "0@2+ 1@3+", "0@4+ 1@4+")
	wantWhy(t, "(once 0 * q)", "0@0+ 1@0+", "0@0+ 1@1+", "0@2+ 1@2+", "0@2+ 1@3+", "0@2+ 1@4+")
	wantWhy(t, "(once 0 * r)", "0@0- 1@0-", "0@0- 0@1- 1@1-", "0@0- 0@1- 0@2- 1@2-", "0@0- 0@1- 0@2- 0@3- 1@3-", "0@0- 0@1- 0@2- 0@3- 0@4- 1@4-")
	wantWhy(t, "(once 1 4 p)", "1@0-", "0@0- 1@1-", "0@1+ 1@2+", "0@1+ 1@3+", "0@2+ 1@4+")
	wantWhy(t, "(once 1 4 r)", "1@0-", "0@0- 1@1-", "0@1- 1@2-", "0@1- 1@3-", "0@2- 0@3- 1@4-")
	wantWhy(t, "(once 7 * p)", "1@0-", "1@1-", "1@2-", "1@3-", "0@1+ 1@4+")
	wantWhy(t, "(once 10 * p)", "1@0-", "1@1-", "1@2-", "1@3-", "1@4-")
	wantWhy(t, "(hist 0 * p)", "0@0- 1@0-", "0@0- 1@1-", "0@0- 1@2-", "0@3- 1@3-", "0@3- 1@4-")
	wantWhy(t, "(hist 0 3 p)", "0@0- 1@0-", "0@0- 1@1-", "0@1+ 0@2+ 1@2+", "0@3- 1@3-", "0@4+ 1@4+")
	wantWhy(t, "(hist 3 4 p)", "1@0+", "1@1+", "0@1+ 1@2+", "0@1+ 1@3+", "0@3- 1@4-")
	wantWhy(t, "(hist 0 * true)", "0@0+ 1@0+", "0@0+ 0@1+ 1@1+", "0@0+ 0@1+ 0@2+ 1@2+", "0@0+ 0@1+ 0@2+ 0@3+ 1@3+", "0@0+ 0@1+ 0@2+ 0@3+ 0@4+ 1@4+")
	wantWhy(t, "(hist 10 * (not true))", "2@0+", "2@1+", "2@2+", "2@3+", "2@4+")
}

func TestPromise10SinceByItself(t *testing.T) {
	// With Yes B at the last place, then A behind it; without each place, from the first one on, A at the last place at which it stopped.
	wantWhy(t, "(since 0 * p q)", "1@0+ 2@0+", "1@0+ 0@1+ 2@1+", "1@2+ 2@2+", "0@3- 1@1- 1@3- 2@3-", "0@3- 1@1- 1@3- 1@4- 2@4-")
	wantWhy(t, "(since 2 * p q)", "2@0-", "1@0+ 0@1+ 2@1+", "1@0+ 0@1+ 0@2+ 2@2+", "0@3- 1@1- 2@3-", "0@3- 1@1- 1@3- 2@4-")
	wantWhy(t, "(since 0 2 p q)", "1@0+ 2@0+", "1@0+ 0@1+ 2@1+", "1@2+ 2@2+", "0@3- 1@3- 2@3-", "1@4- 2@4-")
	wantWhy(t, "(since 1 * r q)", "2@0-", "0@1- 2@1-", "0@2- 1@1- 2@2-", "0@3- 1@1- 2@3-", "0@4- 1@1- 1@3- 2@4-")
	wantWhy(t, "(since 0 * true q)", "1@0+ 2@0+", "1@0+ 0@1+ 2@1+", "1@2+ 2@2+", "1@2+ 0@3+ 2@3+", "1@2+ 0@3+ 0@4+ 2@4+")
	wantWhy(t, "(since 0 * p r)", "1@0- 2@0-", "1@0- 1@1- 2@1-", "1@0- 1@1- 1@2- 2@2-", "1@0- 1@1- 1@2- 1@3- 2@3-", "1@0- 1@1- 1@2- 1@3- 1@4- 2@4-")
	wantWhy(t, "(since 10 * p q)", "2@0-", "2@1-", "2@2-", "2@3-", "2@4-")
	// A of two that stopped, one ahead of the other: at 3 and 0, seen from 4.
	wantWhy(t, "(since 9 * p q)", "2@0-", "2@1-", "2@2-", "2@3-", "0@3- 2@4-")
	wantWhy(t, "(since 0 * p p)", "0@0- 1@0-", "0@1+ 1@1+", "0@2+ 1@2+", "0@0- 0@3- 1@3-", "0@4+ 1@4+")
}

// What is asked for goes all the way down ahead of what is asked for next; what is there already is not made again.
func TestPromise10WithinEachOther(t *testing.T) {
	wantWhy(t, "(and (not p) (not q))", "2@0+ 3@0- 4@0-", "0@1+ 1@1- 4@1-", "0@2+ 1@2- 4@2-", "0@3- 1@3+ 2@3- 3@3+ 4@3+", "0@4+ 1@4- 4@4-")
	wantWhy(t, "(or (not p) (not q))", "0@0- 1@0+ 4@0+", "2@1- 3@1+ 4@1+", "0@2+ 1@2- 2@2+ 3@2- 4@2-", "0@3- 1@3+ 4@3+", "2@4- 3@4+ 4@4+")
	wantWhy(t, "(and (once 0 4 p) (hist 0 4 p))", "0@0- 1@0- 3@0-", "0@0- 2@1- 3@1-", "0@2+ 1@2+ 0@1+ 2@2+ 3@2+", "0@3- 2@3- 3@3-", "0@3- 2@4- 3@4-")
	wantWhy(t, "(and (once 0 * q) (not (not q)))", "0@0+ 1@0+ 2@0- 3@0+ 4@0+", "0@1- 2@1+ 3@1- 4@1-", "0@2+ 1@2+ 2@2- 3@2+ 4@2+", "0@3- 2@3+ 3@3- 4@3-",
		"0@4- 2@4+ 3@4- 4@4-")
	wantWhy(t, "(prev 0 * (prev 0 * p))", "2@0-", "1@0- 2@1-", "0@0- 1@1- 2@2-", "0@1+ 1@2+ 2@3+", "0@2+ 1@3+ 2@4+")
	wantWhy(t, "(hist 0 * (not (once 4 * q)))", "1@0- 2@0+ 3@0+", "1@0- 2@0+ 1@1- 2@1+ 3@1+", "0@0+ 1@2+ 2@2- 3@2-", "0@0+ 1@3+ 2@3- 3@3-", "0@2+ 1@4+ 2@4- 3@4-")
	wantWhy(t, "(since 1 4 (once 0 3 p) (or q p))", "4@0-", "2@0+ 3@0+ 0@1+ 1@1+ 4@1+", "0@1+ 3@1+ 0@2+ 1@2+ 4@2+", "0@1+ 3@1+ 0@2+ 1@2+ 1@3+ 4@3+",
		"2@2+ 3@2+ 0@2+ 1@3+ 0@4+ 1@4+ 4@4+")
}

func TestPromise10EachNodeAtEachPlace(t *testing.T) {
	r := rand.New(rand.NewSource(101))
	for _, x := range normTrees(r, 300) {
		l := nearTrace(r, 1+r.Intn(12))
		wantWhyAll(t, x, l, allPlaces(l)...)
	}
	for _, text := range nestedTexts() {
		for range 3 {
			l := nearTrace(r, 15)
			wantWhyAll(t, treeOfText(t, text), l, allPlaces(l)...)
		}
	}
	// Bounds as great as may be, and the longest trace.
	for _, x := range rightTrees(60) {
		l := nearTrace(r, 10)
		for i := range l {
			l[i].Time = min(l[i].Time, 1000) * int64(i)
		}
		wantWhyAll(t, x, l, allPlaces(l)...)
	}
	for _, x := range normTrees(r, 12) {
		wantWhyAll(t, x, nearTrace(r, impl.MaxTrace), 0, 9, 30, impl.MaxTrace-2, impl.MaxTrace-1)
	}
}

// seenBy is a formula at a place, and what follows there from which marks.
type seenBy struct {
	text  string
	marks string
	mark  string
	want  bool
}

func wantFollows(t *testing.T, l []impl.Event, rows []seenBy) {
	t.Helper()
	for _, x := range rows {
		f, marks, m := formula(t, x.text), marksOf(t, x.marks), marksOf(t, x.mark)[0]
		if got := impl.Follows(f, l, marks, m); got != x.want {
			t.Errorf("Follows %s from %q, %s: got %t", x.mark, x.marks, x.text, got)
		}
		slices.Reverse(marks)
		if got := impl.Follows(f, l, marks, m); got != x.want {
			t.Errorf("Follows %s from %q the other way round, %s: got %t", x.mark, x.marks, x.text, got)
		}
	}
}

func TestPromise10FollowsOfEachKind(t *testing.T) {
	wantFollows(t, whyTrace(), []seenBy{
		{"true", "", "0@0+", true}, {"true", "", "0@0-", false}, {"true", "0@0-", "0@0-", false},
		{"p", "", "0@1+", true}, {"p", "", "0@1-", false}, {"p", "", "0@0-", true}, {"p", "", "0@0+", false}, {"p", "0@0+", "0@0+", false},
		{"(not p)", "0@0-", "1@0+", true}, {"(not p)", "0@1+", "1@1-", true}, {"(not p)", "0@1-", "1@1+", true}, {"(not p)", "0@0+", "1@0-", true},
		{"(not p)", "", "1@0+", false}, {"(not p)", "0@0+", "1@0+", false}, {"(not p)", "0@1-", "1@0+", false}, {"(not p)", "1@0+", "1@0+", false},
		{"(and p q)", "0@2+ 1@2+", "2@2+", true}, {"(and p q)", "0@2+", "2@2+", false}, {"(and p q)", "1@2+", "2@2+", false},
		{"(and p q)", "0@2+ 1@1+", "2@2+", false}, {"(and p q)", "0@2+ 1@2-", "2@2+", false}, {"(and p q)", "0@2- 1@2-", "2@2+", false},
		{"(and p q)", "0@0-", "2@0-", true}, {"(and p q)", "1@1-", "2@1-", true}, {"(and p q)", "0@3- 1@3-", "2@3-", true},
		{"(and p q)", "", "2@0-", false}, {"(and p q)", "0@0+ 1@0+", "2@0-", false}, {"(and p q)", "0@1- 1@1-", "2@0-", false}, {"(and p q)", "2@0-", "2@0-", false},
		{"(and p p)", "0@2+", "1@2+", true}, {"(and p p)", "0@2-", "1@2-", true}, {"(and p p)", "0@2-", "1@2+", false},
		{"(or p q)", "0@3- 1@3-", "2@3-", true}, {"(or p q)", "0@3-", "2@3-", false}, {"(or p q)", "1@3-", "2@3-", false}, {"(or p q)", "0@3+ 1@3+", "2@3-", false},
		{"(or p q)", "0@2+", "2@2+", true}, {"(or p q)", "1@2+", "2@2+", true}, {"(or p q)", "", "2@2+", false}, {"(or p q)", "0@2- 1@2-", "2@2+", false},
		{"(prev 0 3 p)", "0@1+", "1@2+", true}, {"(prev 0 3 p)", "0@0-", "1@1-", true}, {"(prev 0 3 p)", "", "1@0-", true}, {"(prev 0 3 p)", "", "1@4-", true},
		{"(prev 0 3 p)", "0@3-", "1@4-", true}, {"(prev 0 3 p)", "0@3+", "1@4-", true}, {"(prev 0 3 p)", "0@3+", "1@4+", false}, {"(prev 0 3 p)", "0@0+", "1@0+", false},
		{"(prev 0 3 p)", "", "1@2+", false}, {"(prev 0 3 p)", "0@1-", "1@2+", false}, {"(prev 0 3 p)", "0@2+", "1@2+", false}, {"(prev 0 3 p)", "0@0+", "1@2+", false},
		{"(prev 0 3 p)", "", "1@1-", false}, {"(prev 0 3 p)", "0@0+", "1@1-", false}, {"(prev 0 3 p)", "0@1-", "1@1-", false}, {"(prev 0 * p)", "0@-1+", "1@0+", false},
	})
}

func TestPromise10FollowsOfKindsThatLookBack(t *testing.T) {
	wantFollows(t, whyTrace(), []seenBy{
		// Of 3 the places from 1 to 3 are within 0 to 4.
		{"(once 0 4 p)", "0@1+", "1@3+", true}, {"(once 0 4 p)", "0@2+", "1@3+", true}, {"(once 0 4 p)", "0@3+", "1@3+", true}, {"(once 0 4 p)", "0@0+", "1@3+", false},
		{"(once 0 4 p)", "0@4+", "1@3+", false}, {"(once 0 4 p)", "0@1- 0@2- 0@3-", "1@3+", false}, {"(once 0 4 p)", "", "1@3+", false}, {"(once 10 * p)", "0@0+", "1@4+", false},
		{"(once 0 4 p)", "0@1- 0@2- 0@3-", "1@3-", true}, {"(once 0 4 p)", "0@2- 0@3-", "1@3-", false}, {"(once 0 4 p)", "0@1- 0@3-", "1@3-", false},
		{"(once 0 4 p)", "0@1- 0@2-", "1@3-", false}, {"(once 0 4 p)", "0@1- 0@2- 0@3+", "1@3-", false}, {"(once 10 * p)", "", "1@4-", true}, {"(once 10 * p)", "", "1@4+", false},
		{"(hist 0 4 p)", "0@1+ 0@2+ 0@3+", "1@3+", true}, {"(hist 0 4 p)", "0@1+ 0@3+", "1@3+", false}, {"(hist 0 4 p)", "0@2+ 0@3+", "1@3+", false},
		{"(hist 0 4 p)", "0@1+ 0@2+", "1@3+", false}, {"(hist 10 * p)", "", "1@4+", true}, {"(hist 10 * p)", "0@4-", "1@4-", false},
		{"(hist 0 4 p)", "0@1-", "1@3-", true}, {"(hist 0 4 p)", "0@3-", "1@3-", true}, {"(hist 0 4 p)", "0@0-", "1@3-", false}, {"(hist 0 4 p)", "0@1+", "1@3-", false},
		{"(since 0 4 p q)", "1@1+ 0@2+ 0@3+", "2@3+", true}, {"(since 0 4 p q)", "1@2+ 0@3+", "2@3+", true}, {"(since 0 4 p q)", "1@3+", "2@3+", true},
		{"(since 0 4 p q)", "1@0+ 0@1+ 0@2+ 0@3+", "2@3+", false}, {"(since 0 4 p q)", "1@1+ 0@3+", "2@3+", false}, {"(since 0 4 p q)", "1@1+ 0@2+", "2@3+", false},
		{"(since 0 4 p q)", "1@1+ 1@2+ 0@3-", "2@3+", false}, {"(since 0 4 p q)", "1@1+ 1@2+ 0@3+", "2@3+", true}, {"(since 0 4 p q)", "1@1- 0@2+ 0@3+", "2@3+", false},
		{"(since 0 4 p q)", "0@1+ 0@2+ 0@3+", "2@3+", false}, {"(since 0 4 p q)", "", "2@3+", false}, {"(since 10 * p q)", "1@4+", "2@4+", false},
		// Without: each of 1 to 3 by its B, or by A behind it, be it the last one that stopped or not.
		{"(since 0 4 p q)", "1@1- 1@2- 1@3-", "2@3-", true}, {"(since 0 4 p q)", "0@3- 1@3-", "2@3-", true}, {"(since 0 4 p q)", "0@2- 1@2- 1@3-", "2@3-", true},
		{"(since 0 4 p q)", "0@2- 0@3- 1@3-", "2@3-", true}, {"(since 0 4 p q)", "0@3-", "2@3-", false}, {"(since 0 4 p q)", "1@3-", "2@3-", false},
		{"(since 0 4 p q)", "0@2- 1@3-", "2@3-", false}, {"(since 0 4 p q)", "0@1- 1@2- 1@3-", "2@3-", false}, {"(since 0 4 p q)", "1@1- 1@3-", "2@3-", false},
		{"(since 0 4 p q)", "0@4- 1@3-", "2@3-", false}, {"(since 0 4 p q)", "0@3+ 1@3+", "2@3-", false}, {"(since 3 4 p q)", "0@2-", "2@3-", true},
		{"(since 3 4 p q)", "0@3-", "2@3-", true}, {"(since 3 4 p q)", "1@1-", "2@3-", true}, {"(since 3 4 p q)", "0@1-", "2@3-", false}, {"(since 10 * p q)", "", "2@4-", true},
	})
}

// eachMark are the marks of all nodes and places, of both Yes.
func eachMark(nodes int, places int) []impl.Mark {
	var marks []impl.Mark
	for node := range nodes {
		for at := range places {
			marks = append(marks, impl.Mark{Node: int64(node), At: int64(at)}, impl.Mark{Node: int64(node), At: int64(at), Yes: true})
		}
	}
	return marks
}

// Each list there is of marks of the parts, and what follows from it of the whole.
func TestPromise10FollowsFromEachSmallList(t *testing.T) {
	traces := [][]impl.Event{{event(0, "p"), event(1, "q"), event(3)}, {event(4), event(4, "q"), event(4, "p")}}
	texts := []string{"(not p)", "(and p q)", "(or p q)", "(prev 0 1 p)", "(prev 1 * p)", "(once 0 1 p)", "(once 1 * p)", "(hist 0 2 p)", "(hist 1 3 p)",
		"(since 0 * p q)", "(since 0 2 p q)", "(since 1 * p q)"}
	for _, l := range traces {
		for _, text := range texts {
			c := courtOf(treeOfText(t, text), l)
			whole := len(c.f) - 1
			parts := eachMark(whole, len(l))
			for set := range 1 << len(parts) {
				var marks []impl.Mark
				for i, m := range parts {
					if set>>i&1 == 1 {
						marks = append(marks, m)
					}
				}
				for at := range l {
					m := impl.Mark{Node: int64(whole), At: int64(at), Yes: set%3 == 0}
					if got := impl.Follows(c.f, l, marks, m); got != c.follows(marks, m) {
						t.Fatalf("Follows %s from %.200s, %.300s of %+v: got %t", markText(m), marksText(marks), text, l, got)
					}
				}
			}
		}
	}
}

// anyMarks are some of all, right and wrong, and now and then one of no node or place.
func anyMarks(r *rand.Rand, c court, many int) []impl.Mark {
	all := eachMark(len(c.f), len(c.l))
	odd := []impl.Mark{{Node: -1, Yes: true}, {At: -1}, {Node: int64(len(c.f))}, {At: int64(len(c.l)), Yes: true}, {Node: math.MaxInt64}, {At: math.MinInt64}}
	var marks []impl.Mark
	for range many {
		if r.Intn(40) == 0 {
			marks = append(marks, odd[r.Intn(len(odd))])
			continue
		}
		marks = append(marks, all[r.Intn(len(all))])
	}
	return marks
}

func TestPromise11FollowsByRule(t *testing.T) {
	r := rand.New(rand.NewSource(111))
	var yes, no int
	for _, x := range normTrees(r, 400) {
		c := courtOf(x, nearTrace(r, 1+r.Intn(6)))
		marks := anyMarks(r, c, r.Intn(4*len(c.f)*len(c.l)))
		for _, m := range append(eachMark(len(c.f), len(c.l)), anyMarks(r, c, 20)...) {
			got := impl.Follows(c.f, c.l, marks, m)
			if got != c.follows(marks, m) {
				t.Errorf("Follows %s from %.200s, %.300s of %+v: got %t", markText(m), marksText(marks), x.text(), c.l, got)
			}
			if got {
				yes++
			} else {
				no++
			}
		}
	}
	if yes < 2000 || no < 2000 {
		t.Errorf("%d follow, %d do not: too few", yes, no)
	}
}

// What is so follows from all that is so, and what is not so does not.
func TestPromise11WhatFollowsFromWhatIsSo(t *testing.T) {
	r := rand.New(rand.NewSource(112))
	for _, x := range normTrees(r, 300) {
		c := courtOf(x, nearTrace(r, 1+r.Intn(8)))
		truths := c.truths()
		r.Shuffle(len(truths), func(i, j int) { truths[i], truths[j] = truths[j], truths[i] })
		for _, m := range eachMark(len(c.f), len(c.l)) {
			if got := impl.Follows(c.f, c.l, truths, m); got != c.isSo(m) {
				t.Errorf("Follows %s from all that is so, %s of %+v: got %t", markText(m), x.text(), c.l, got)
			}
		}
		// Of a part that is told wrongly nothing is sure, but of FmTrue and FmAtom.
		for _, m := range eachMark(len(c.f), len(c.l)) {
			if kind := c.f[m.Node].Kind; kind <= impl.FmAtom && impl.Follows(c.f, c.l, anyMarks(r, c, 30), m) != c.isSo(m) {
				t.Errorf("Follows %s from any marks, %s of %+v: not as it is", markText(m), x.text(), c.l)
			}
		}
	}
}

// wantSound holds Proves to the chapter, and what is proved to what is so.
func wantSound(t *testing.T, c court, marks []impl.Mark) bool {
	t.Helper()
	got := impl.Proves(c.f, c.l, marks)
	if got != c.proves(marks) {
		t.Errorf("Proves %.500s, %.300s of %+v: got %t", marksText(marks), impl.FormulaText(c.f), c.l, got)
	}
	for _, m := range marks {
		if got && impl.HoldsAt(c.f, m.Node, c.l, m.At) != m.Yes {
			t.Errorf("Proves %.500s, %.300s of %+v: %s is not so", marksText(marks), impl.FormulaText(c.f), c.l, markText(m))
		}
	}
	return got
}

// grown is a list made by one that knows nothing of what is so: any mark is taken that follows from those ahead.
func grown(r *rand.Rand, c court) []impl.Mark {
	all := eachMark(len(c.f), len(c.l))
	var marks []impl.Mark
	for range 6 {
		r.Shuffle(len(all), func(i, j int) { all[i], all[j] = all[j], all[i] })
		for _, m := range all {
			if len(marks) < impl.MaxList && impl.Follows(c.f, c.l, marks, m) {
				marks = append(marks, m)
			}
		}
	}
	return marks
}

func TestPromise11WhatOthersProve(t *testing.T) {
	r := rand.New(rand.NewSource(113))
	for _, x := range normTrees(r, 200) {
		c := courtOf(x, nearTrace(r, 1+r.Intn(6)))
		marks := grown(r, c)
		if !wantSound(t, c, marks) {
			t.Errorf("%s of %+v: %s follow one by one, and prove nothing", x.text(), c.l, marksText(marks))
		}
		// In the order of nodes all that is so proves itself.
		if truths := c.truths(); !wantSound(t, c, truths) {
			t.Errorf("%s of %+v: all that is so proves nothing", x.text(), c.l)
		}
	}
}

// turnedMarks is a list with something about it turned.
func turnedMarks(r *rand.Rand, c court, marks []impl.Mark) []impl.Mark {
	marks = slices.Clone(marks)
	at, other := r.Intn(len(marks)), r.Intn(len(marks))
	switch r.Intn(7) {
	case 0:
		marks[at].Yes = !marks[at].Yes
	case 1:
		marks = slices.Delete(marks, at, at+1)
	case 2:
		marks[at], marks[other] = marks[other], marks[at]
	case 3:
		marks[at].At += int64(r.Intn(3) - 1)
	case 4:
		marks[at].Node += int64(r.Intn(3) - 1)
	case 5:
		marks = slices.Insert(marks, at, anyMarks(r, c, 1)...)
	default:
		marks = slices.Insert(marks, at, marks[other])
	}
	return marks
}

func TestPromise11TurnedLists(t *testing.T) {
	r := rand.New(rand.NewSource(114))
	var yes, no int
	for _, x := range normTrees(r, 400) {
		c := courtOf(x, nearTrace(r, 1+r.Intn(8)))
		for range 12 {
			made := impl.WhyOf(c.f, c.l, int64(r.Intn(len(c.f))), int64(r.Intn(len(c.l))))
			if made.Code != impl.OK {
				t.Fatalf("WhyOf %s of %+v: code %d", x.text(), c.l, made.Code)
			}
			marks := turnedMarks(r, c, made.Marks)
			for len(marks) > 0 && r.Intn(3) == 0 {
				marks = turnedMarks(r, c, marks)
			}
			if wantSound(t, c, marks) {
				yes++
			} else {
				no++
			}
		}
	}
	if yes < 300 || no < 300 {
		t.Errorf("%d prove, %d do not: too few", yes, no)
	}
}

// A circle, or what would hold itself up, proves nothing; nor does what comes too late.
func TestPromise11WrongProofs(t *testing.T) {
	l := whyTrace()
	rows := []struct {
		text  string
		marks string
		want  bool
	}{
		{"(not (not p))", "0@1+ 1@1- 2@1+", true}, {"(not (not p))", "1@1- 0@1+ 2@1+", false}, {"(not (not p))", "2@1+ 1@1- 0@1+", false},
		{"(not (not p))", "0@1- 1@1+ 2@1-", false}, {"(not (not p))", "1@1- 2@1+", false}, {"(not (not p))", "2@1+", false},
		{"(not (not p))", "0@1+ 1@1- 2@1+ 2@1-", false}, {"(not (not p))", "0@1+ 0@1+ 1@1- 0@1+ 1@1- 2@1+ 2@1+", true}, {"(not (not p))", "0@0- 1@0+ 0@1+ 1@1-", true},
		{"(and p q)", "0@2+ 1@2+ 2@2+", true}, {"(and p q)", "0@2+ 2@2+ 1@2+", false}, {"(and p q)", "1@2+ 0@2+ 2@2+", true}, {"(and p q)", "0@1+ 1@1+ 2@1+", false},
		{"(and p q)", "1@3- 2@3-", true}, {"(and p q)", "0@3- 2@3-", true}, {"(or p q)", "1@2+ 2@2+", true}, {"(or p q)", "2@2+ 1@2+", false},
		{"(once 0 * p)", "0@1+ 1@4+", true}, {"(once 0 * p)", "0@1+ 1@1+ 1@2+ 1@3+ 1@4+", true}, {"(once 0 * p)", "0@1+ 1@0+", false}, {"(once 10 * p)", "1@4- 1@0-", true},
		{"(since 0 * p q)", "1@0+ 0@1+ 0@2+ 2@2+", true}, {"(since 0 * p q)", "1@0+ 2@0+ 0@1+ 2@1+", true}, {"(since 0 * p q)", "2@0+ 0@1+ 2@1+", false},
		{"(since 0 * p q)", "0@3- 1@1- 1@3- 2@3-", true}, {"(since 0 * p q)", "0@3- 1@1- 2@3- 1@3-", false}, {"(prev 0 3 p)", "1@4- 1@0-", true}, {"(prev 0 3 p)", "1@3+ 0@2+", false},
	}
	for _, x := range rows {
		f, marks := formula(t, x.text), marksOf(t, x.marks)
		if got := impl.Proves(f, l, marks); got != x.want {
			t.Errorf("Proves %s of %s: got %t", x.marks, x.text, got)
		}
	}
}

func TestPromise10LengthsOfTraces(t *testing.T) {
	for _, time := range []int64{0, 7, impl.MaxTime} {
		l := []impl.Event{event(time, "p")}
		for text, want := range map[string]string{"p": "0@0+", "q": "0@0-", "(prev 0 * p)": "1@0-", "(once 0 0 p)": "0@0+ 1@0+", "(once 1 * p)": "1@0-",
			"(hist 0 0 p)": "0@0+ 1@0+", "(hist 0 * q)": "0@0- 1@0-", "(hist 1 * q)": "1@0+", "(since 0 * q p)": "1@0+ 2@0+", "(since 0 * p q)": "1@0- 2@0-", "(since 1 * p p)": "1@0-"} {
			f := formula(t, text)
			got := impl.WhyOf(f, l, int64(len(f)-1), 0)
			if !slices.Equal(got.Marks, marksOf(t, want)) {
				t.Errorf("WhyOf %s of one event: got %s, code %d, want %s", text, marksText(got.Marks), got.Code, want)
			}
			wantProof(t, f, l, int64(len(f)-1), 0, got)
		}
	}
	// No places at all: whatever is asked for is none, and no mark follows.
	for _, l := range [][]impl.Event{nil, {}} {
		for _, text := range []string{"true", "(prev 0 * p)", "(hist 1 * q)"} {
			f := formula(t, text)
			for _, i := range edgePlaces(0) {
				wantNoMarks(t, "WhyOf of no events", impl.WhyOf(f, l, int64(len(f)-1), i), impl.ErrNone)
				m := impl.Mark{Node: int64(len(f) - 1), At: i, Yes: true}
				if impl.Follows(f, l, nil, m) || impl.Proves(f, l, []impl.Mark{m}) {
					t.Errorf("%s of no events: %s is proved", text, markText(m))
				}
			}
			if !impl.Proves(f, l, nil) {
				t.Errorf("%s of no events: no marks prove nothing", text)
			}
		}
	}
	l := make([]impl.Event, impl.MaxTrace)
	l[0] = event(0, "p")
	for _, text := range []string{"(once 0 0 p)", "(hist 0 * p)", "(hist 0 0 (not (prev 0 0 p)))", "(since 0 0 (not p) p)", "(since 0 * p (prev 0 * p))", "(prev 0 0 (not p))", "(once 1 * p)"} {
		wantWhyAll(t, treeOfText(t, text), l, allPlaces(l)...)
	}
}

// Where times are alike all of them are within bounds that begin at 0, and none is within others.
func TestPromise10EventsOfOneTime(t *testing.T) {
	for _, time := range []int64{0, 5, impl.MaxTime} {
		l := []impl.Event{event(time), event(time, "p"), event(time), event(time, "q"), event(time, "q")}
		for _, text := range []string{"(prev 0 0 p)", "(prev 1 * p)", "(once 0 0 p)", "(once 1 * p)", "(hist 0 0 (not p))", "(hist 1 * p)", "(since 0 0 q p)",
			"(since 0 0 q (not q))", "(since 1 * true true)", "(since 0 0 (not p) q)", "(not (since 0 0 (prev 0 0 p) q))"} {
			wantWhyAll(t, treeOfText(t, text), l, allPlaces(l)...)
		}
	}
	l := []impl.Event{event(5, "p"), event(5), event(5, "p"), event(5)}
	for text, want := range map[string]string{"(once 0 0 p)": "0@2+ 1@3+", "(once 1 * p)": "1@3-", "(hist 0 0 p)": "0@3- 1@3-", "(hist 1 * p)": "1@3+", "(since 0 0 p p)": "0@3- 0@1- 1@3-",
		"(since 1 * p p)": "1@3-", "(since 0 0 true p)": "1@2+ 0@3+ 2@3+", "(prev 1 * p)": "1@3-"} {
		f := formula(t, text)
		if got := impl.WhyOf(f, l, int64(len(f)-1), 3); !slices.Equal(got.Marks, marksOf(t, want)) {
			t.Errorf("WhyOf %s of one Time: got %s, code %d, want %s", text, marksText(got.Marks), got.Code, want)
		}
	}
}

// notPile is so many FmNots over an atom.
func notPile(many int) tree {
	x := tree{kind: impl.FmAtom, name: "p"}
	for range many {
		x = negated(x)
	}
	return x
}

// ofAll asks for x at all places: it needs each mark of x at each of them, and is one more itself.
func ofAll(x tree) tree {
	return tree{kind: impl.FmHist, high: -1, kids: []tree{x}}
}

func wantManyMarks(t *testing.T, x tree, l []impl.Event, many int) {
	t.Helper()
	f := x.formula()
	node, i := int64(len(f)-1), int64(len(l)-1)
	got := impl.WhyOf(f, l, node, i)
	if many > impl.MaxList {
		wantNoMarks(t, strconv.Itoa(many)+" marks", got, impl.ErrFull)
		return
	}
	if got.Code != impl.OK || len(got.Marks) != many {
		t.Errorf("%s of %d events: got %d marks, code %d, want %d", x.text(), len(l), len(got.Marks), got.Code, many)
		return
	}
	wantProof(t, f, l, node, i, got)
}

func TestPromise10AsManyMarksAsThereMayBe(t *testing.T) {
	var l []impl.Event
	for i := range impl.MaxTrace {
		l = append(l, event(int64(i), "p"))
	}
	rows := []struct {
		nots   int
		events int
	}{{6, 57}, {7, 50}, {18, 21}, {20, 19}, {4, impl.MaxTrace}, {6, impl.MaxTrace}}
	for _, x := range rows {
		// Each event has a mark of the atom and of each FmNot; an odd number of them holds nowhere.
		whole := ofAll(notPile(x.nots))
		if x.nots%2 == 1 {
			whole = tree{kind: impl.FmOnce, high: -1, kids: whole.kids}
		}
		many := (x.nots+1)*x.events + 1
		wantManyMarks(t, whole, l[:x.events], many)
		wantManyMarks(t, negated(whole), l[:x.events], many+1)
		wantManyMarks(t, negated(negated(whole)), l[:x.events], many+2)
	}
	// 57 events of 7 nodes each, and the whole: MaxList. Of the part below it there is one less, of the one above one more.
	full := negated(ofAll(notPile(6))).formula()
	for node, code := range map[int64]int64{6: impl.OK, 7: impl.OK, 8: impl.ErrFull} {
		if got := impl.WhyOf(full, l[:57], node, 56); got.Code != code {
			t.Errorf("node %d of 57 events: got code %d, want %d", node, got.Code, code)
		}
	}
	wantWhyAll(t, negated(ofAll(notPile(6))), l[:57], 0, 55, 56)
	wantWhyAll(t, negated(ofAll(notPile(6))), l[:58], 56, 57)
}

func TestPromise10MostNodesOverTheLongestTrace(t *testing.T) {
	var l []impl.Event
	for i := range impl.MaxTrace {
		l = append(l, event(int64(i), "p"))
	}
	for _, kind := range []int64{impl.FmPrev, impl.FmOnce, impl.FmHist, impl.FmSince} {
		for _, b := range [][2]int64{{0, -1}, {1, 2}, {2, -1}, {0, 0}} {
			x, _ := treeOf(piled(kind, b[0], b[1]), 6)
			wantWhyAll(t, x, l, 0, 1, 14, 20, impl.MaxTrace-1)
			for _, node := range []int64{0, 11, impl.MaxNodes - 1} {
				got := impl.WhyOf(piled(kind, b[0], b[1]), l, node, impl.MaxTrace-1)
				if got.Code != impl.ErrFull {
					wantProof(t, piled(kind, b[0], b[1]), l, node, impl.MaxTrace-1, got)
				}
			}
		}
	}
	// At each place of a pile of FmHists one mark of each, but of the whole: 17 places of 23 fit in, 18 do not.
	hists := piled(impl.FmHist, 0, -1)
	for i, many := range map[int64]int{0: 24, 15: 16*23 + 1, 16: 17*23 + 1} {
		if got := impl.WhyOf(hists, l, impl.MaxNodes-1, i); got.Code != impl.OK || len(got.Marks) != many {
			t.Errorf("hists at %d: got %d marks, code %d, want %d", i, len(got.Marks), got.Code, many)
		}
	}
	for _, i := range []int64{17, 18, 40, impl.MaxTrace - 1} {
		wantNoMarks(t, "hists", impl.WhyOf(hists, l, impl.MaxNodes-1, i), impl.ErrFull)
	}
}

func TestPromise11ListsOfManyMarks(t *testing.T) {
	f, l := formula(t, "(not p)"), []impl.Event{event(0, "p"), event(3)}
	for _, many := range []int{0, 1, 2, impl.MaxList - 2, impl.MaxList - 1} {
		fits := many+1 <= impl.MaxList
		marks := slices.Repeat(marksOf(t, "0@0+"), many)
		if !impl.Proves(f, l, marks) || !impl.Follows(f, l, marks, marksOf(t, "0@1-")[0]) {
			t.Errorf("%d marks: refused", many)
		}
		// The one that is asked of stands at the end, the begin, or not at all.
		for _, all := range [][]impl.Mark{append(slices.Clone(marks), marksOf(t, "0@1-")...), append(marksOf(t, "0@1-"), marks...)} {
			if impl.Follows(f, l, all, marksOf(t, "1@1+")[0]) != fits || impl.Proves(f, l, all) != fits {
				t.Errorf("%d marks and one: want %t", many, fits)
			}
		}
		if impl.Follows(f, l, marks, marksOf(t, "1@1+")[0]) || impl.Proves(f, l, append(slices.Clone(marks), marksOf(t, "1@1+")...)) {
			t.Errorf("%d marks: what is not among them is taken for it", many)
		}
	}
	for _, many := range []int{impl.MaxList + 1, impl.MaxList + 2, 9 * impl.MaxList} {
		marks := slices.Repeat(marksOf(t, "0@0+"), many)
		for _, m := range marksOf(t, "0@0+ 0@1- 1@0-") {
			if impl.Follows(f, l, marks, m) {
				t.Errorf("%d marks: %s follows", many, markText(m))
			}
		}
		if impl.Proves(f, l, marks) {
			t.Errorf("%d marks prove", many)
		}
	}
	full := slices.Repeat(marksOf(t, "0@0+"), impl.MaxList)
	if !impl.Proves(f, l, full) || !impl.Follows(f, l, full, marksOf(t, "1@0-")[0]) {
		t.Errorf("MaxList marks: refused")
	}
	full[impl.MaxList-1] = marksOf(t, "1@0-")[0]
	if !impl.Proves(f, l, full) {
		t.Errorf("MaxList marks, the last one not like the others: refused")
	}
	full[impl.MaxList-1].Yes = true
	if impl.Proves(f, l, full) {
		t.Errorf("MaxList marks, the last one wrong, prove")
	}
}

func TestPromise11NoMarksAtAll(t *testing.T) {
	for _, text := range []string{"true", "p", "(and p q)", "(since 0 * p q)"} {
		f := formula(t, text)
		for _, l := range [][]impl.Event{nil, whyTrace(), make([]impl.Event, impl.MaxTrace)} {
			if !impl.Proves(f, l, nil) || !impl.Proves(f, l, []impl.Mark{}) {
				t.Errorf("%s of %+v: no marks do not prove", text, l)
			}
		}
	}
	f := formula(t, "(and (not p) (prev 3 * q))")
	for _, none := range [][]impl.Mark{nil, {}} {
		for _, m := range eachMark(len(f), 5) {
			want := courtOf(treeOfText(t, "(and (not p) (prev 3 * q))"), whyTrace()).follows(nil, m)
			if got := impl.Follows(f, whyTrace(), none, m); got != want {
				t.Errorf("Follows %s from no marks: got %t", markText(m), got)
			}
		}
	}
}

// There is no such node or place: the mark follows from nothing, and is in the way of none but a proof.
func TestPromise11MarksOfNoNodeOrPlace(t *testing.T) {
	l := whyTrace()
	for _, text := range []string{"true", "p", "(not p)", "(hist 10 * p)", "(prev 0 * p)", "(since 10 * p q)"} {
		x := treeOfText(t, text)
		c := courtOf(x, l)
		truths := c.truths()
		var odd []impl.Mark
		for _, node := range noPlaces(len(c.f)) {
			odd = append(odd, impl.Mark{Node: node}, impl.Mark{Node: node, Yes: true}, impl.Mark{Node: node, At: -1, Yes: true})
		}
		for _, at := range noPlaces(len(l)) {
			for node := range c.f {
				odd = append(odd, impl.Mark{Node: int64(node), At: at}, impl.Mark{Node: int64(node), At: at, Yes: true})
			}
		}
		for _, m := range odd {
			for _, marks := range [][]impl.Mark{nil, truths, {m}, append(slices.Clone(truths), m)} {
				if impl.Follows(c.f, l, marks, m) {
					t.Errorf("Follows %s, %s: got yes", markText(m), text)
				}
			}
			for at := range len(truths) + 1 {
				if impl.Proves(c.f, l, slices.Insert(slices.Clone(truths), at, m)) {
					t.Errorf("Proves with %s at %d, %s: got yes", markText(m), at, text)
				}
			}
		}
		for _, m := range eachMark(len(c.f), len(l)) {
			if got := impl.Follows(c.f, l, slices.Concat(odd, truths), m); got != c.isSo(m) {
				t.Errorf("Follows %s from what is so and marks of none, %s: got %t", markText(m), text, got)
			}
			if got := impl.Follows(c.f, l, odd, m); got != c.follows(nil, m) {
				t.Errorf("Follows %s from marks of none, %s: got %t", markText(m), text, got)
			}
		}
	}
}

func TestPromise10NodesAndPlacesThatAreNone(t *testing.T) {
	l := whyTrace()
	for _, text := range []string{"true", "p", "(not p)", "(hist 0 * (or true (prev 0 * p)))"} {
		f := formula(t, text)
		for _, node := range noPlaces(len(f)) {
			for _, i := range edgePlaces(len(l)) {
				wantNoMarks(t, "WhyOf a node that is none", impl.WhyOf(f, l, node, i), impl.ErrNone)
			}
		}
		for _, i := range noPlaces(len(l)) {
			for node := range f {
				wantNoMarks(t, "WhyOf at a place that is none", impl.WhyOf(f, l, int64(node), i), impl.ErrNone)
			}
		}
	}
}

// wantNothingShown is of a formula or a trace that is refused: no marks, and nothing is proved, not even by none.
func wantNothingShown(t *testing.T, why string, f []impl.Node, l []impl.Event, code int64) {
	t.Helper()
	for _, node := range []int64{0, -1, 1, int64(len(f) - 1), int64(len(f)), math.MaxInt64} {
		for _, i := range []int64{0, -1, 1, int64(len(l) - 1), int64(len(l)), math.MinInt64} {
			wantNoMarks(t, why, impl.WhyOf(f, l, node, i), code)
			for _, yes := range []bool{false, true} {
				m := impl.Mark{Node: node, At: i, Yes: yes}
				if impl.Follows(f, l, nil, m) || impl.Follows(f, l, eachMark(2, 2), m) {
					t.Errorf("%s: %s follows", why, markText(m))
				}
				if impl.Proves(f, l, []impl.Mark{m}) {
					t.Errorf("%s: %s is proved", why, markText(m))
				}
			}
		}
	}
	if impl.Proves(f, l, nil) || impl.Proves(f, l, eachMark(1, 1)[1:]) {
		t.Errorf("%s: something is proved", why)
	}
}

func wrongFormulas() map[string][]impl.Node {
	p, q, yes := atom("p"), atom("q"), impl.Node{Kind: impl.FmTrue}
	return map[string][]impl.Node{
		"none":               nil,
		"empty":              {},
		"no kind":            {{}},
		"a kind above":       {p, {Kind: impl.FmSince + 1}},
		"a wrong kind below": {{Kind: -1}, not(0)},
		"two alike":          {p, p, and(0, 1)},
		"none speaks of it":  {p, q, yes},
		"itself":             {p, and(0, 1)},
		"itself alone":       {not(0)},
		"a later one":        {p, not(2), not(0), and(1, 2)},
		"one below 0":        {p, not(-1)},
		"one behind the end": {p, not(2)},
		"another order":      {p, q, and(1, 0)},
		"Low below 0":        {p, once(-1, 5, 0)},
		"High below Low":     {p, {Kind: impl.FmHist, Low: 5, High: 4}},
		"High too great":     {p, once(0, impl.MaxBound+1, 0)},
		"no name":            {atom("")},
		"a word as name":     {atom("true")},
		"true with a bound":  {{Kind: impl.FmTrue, High: -1}},
		"a not with a B":     {p, not(0), {Kind: impl.FmNot, A: 1, B: 1}},
		"one node too many":  nots(impl.MaxNodes + 1),
		"MaxList nodes":      nots(impl.MaxList),
		"MaxList wrong ones": make([]impl.Node, impl.MaxList),
	}
}

func wrongTraces() map[string][]impl.Event {
	p := event(7, "p")
	return map[string][]impl.Event{
		"a Time below 0":     {event(-1, "p"), p},
		"a Time too great":   {p, event(impl.MaxTime+1, "p")},
		"Times that fall":    {p, event(6, "p")},
		"Times that fall at": {p, p, event(9), p},
		"names that fall":    {p, event(7, "q", "p"), p},
		"names alike":        {event(7, "p", "p")},
		"no name":            {p, event(7, "")},
		"a word as name":     {p, event(7, "once")},
		"nine names":         {event(7, "a", "b", "c", "d", "e", "f", "g", "h", "i")},
		"one event too many": make([]impl.Event, impl.MaxTrace+1),
		"MaxList events":     make([]impl.Event, impl.MaxList),
	}
}

func TestPromise10WrongFormulasAndTraces(t *testing.T) {
	longFormulas := map[string][]impl.Node{"too many nodes": nots(impl.MaxList + 1), "too many wrong nodes": make([]impl.Node, 2*impl.MaxList)}
	longTraces := map[string][]impl.Event{"too many events": make([]impl.Event, impl.MaxList+1), "too many wrong events": slices.Repeat([]impl.Event{event(-1)}, impl.MaxList+1)}
	right, l := formula(t, "(not p)"), whyTrace()
	for why, f := range wrongFormulas() {
		wantNothingShown(t, why, f, l, impl.ErrForm)
		wantNothingShown(t, why+", of no events", f, nil, impl.ErrForm)
		for whyNot, wrong := range wrongTraces() {
			wantNothingShown(t, why+" and "+whyNot, f, wrong, impl.ErrForm)
		}
		for whyNot, long := range longTraces {
			wantNothingShown(t, why+" and "+whyNot, f, long, impl.ErrSize)
		}
	}
	for why, f := range longFormulas {
		wantNothingShown(t, why, f, l, impl.ErrSize)
		for whyNot, wrong := range wrongTraces() {
			wantNothingShown(t, why+" and "+whyNot, f, wrong, impl.ErrSize)
		}
		for whyNot, long := range longTraces {
			wantNothingShown(t, why+" and "+whyNot, f, long, impl.ErrSize)
		}
	}
	for why, wrong := range wrongTraces() {
		wantNothingShown(t, why, right, wrong, impl.ErrForm)
	}
	for why, long := range longTraces {
		wantNothingShown(t, why, right, long, impl.ErrSize)
	}
}

// Several faults at once: the first one in the order in which they are named.
func TestPromise10WhichFaultIsNamed(t *testing.T) {
	l := slices.Repeat([]impl.Event{event(3, "p")}, impl.MaxTrace)
	right, wrong, full := formula(t, "(not p)"), []impl.Node{{}}, ofAll(notPile(20)).formula()
	fall, long := []impl.Event{event(2), event(1)}, make([]impl.Event, impl.MaxList+1)
	last := int64(len(full) - 1)
	for _, x := range []struct {
		why  string
		got  impl.WhyOut
		code int64
	}{
		{"wrong, no node", impl.WhyOf(wrong, l, 9, 0), impl.ErrForm},
		{"wrong, no place", impl.WhyOf(wrong, l, 0, -1), impl.ErrForm},
		{"times fall, no node", impl.WhyOf(right, fall, -1, 0), impl.ErrForm},
		{"times fall, no place", impl.WhyOf(right, fall, 0, 2), impl.ErrForm},
		{"wrong, times fall, no node and place", impl.WhyOf(wrong, fall, 9, 9), impl.ErrForm},
		{"too long, no node", impl.WhyOf(right, long, 2, 0), impl.ErrSize},
		{"too long, no place", impl.WhyOf(right, long, 0, impl.MaxList+1), impl.ErrSize},
		{"wrong, too long, no node", impl.WhyOf(wrong, long, 2, 0), impl.ErrSize},
		{"times fall, too many nodes, no place", impl.WhyOf(nots(impl.MaxList+1), fall, 0, 2), impl.ErrSize},
		{"no node and place", impl.WhyOf(right, l, 2, impl.MaxTrace), impl.ErrNone},
		{"full, times fall", impl.WhyOf(full, fall, last, 0), impl.ErrForm},
		{"full, no place", impl.WhyOf(full, l, last, impl.MaxTrace), impl.ErrNone},
		{"full, no node", impl.WhyOf(full, l, last+1, impl.MaxTrace-1), impl.ErrNone},
		{"full", impl.WhyOf(full, l, last, impl.MaxTrace-1), impl.ErrFull},
	} {
		wantNoMarks(t, x.why, x.got, x.code)
	}
	for _, marks := range [][]impl.Mark{nil, make([]impl.Mark, impl.MaxList+1)} {
		if impl.Proves(wrong, l, marks) || impl.Proves(right, fall, marks) || impl.Proves(right, long, marks) || impl.Follows(right, l, marks, impl.Mark{Node: 9, Yes: true}) {
			t.Errorf("several faults: something is proved by %d marks", len(marks))
		}
	}
}

// What is handed in stays, and no answer shares memory with it, nor with another one.
func TestPromise10MemoryOfMarks(t *testing.T) {
	texts := []string{"true", "p", "(not p)", "(hist 0 * (or p (not p)))", "(since 0 * (not (prev 0 * r)) (or p (hist 1 * q)))", "(and (once 0 4 p) (hist 0 4 p))"}
	for _, text := range texts {
		f, l := formula(t, text), append(whyTrace(), event(77, "x"))
		l = l[:5]
		keptFormula, keptTrace := slices.Clone(f), copyTrace(l[:6])
		node := int64(len(f) - 1)
		first, second := impl.WhyOf(f, l, node, 3), impl.WhyOf(f, l, node, 3)
		kept := slices.Clone(second.Marks)
		if len(kept) == 0 || !slices.Equal(first.Marks, kept) {
			t.Fatalf("%s: two answers of one call: %s and %s", text, marksText(first.Marks), marksText(kept))
		}
		first.Marks = first.Marks[:cap(first.Marks)]
		for i := range first.Marks {
			first.Marks[i] = impl.Mark{Node: -7, At: -7}
		}
		if !slices.Equal(second.Marks, kept) || !slices.Equal(impl.WhyOf(f, l, node, 3).Marks, kept) {
			t.Errorf("%s: written into one answer, another one was turned: %s, it was %s", text, marksText(second.Marks), marksText(kept))
		}
		if !sameFormula(f, keptFormula) || !sameTrace(l[:6], keptTrace) {
			t.Errorf("%s: what was handed in was turned: %+v, %+v", text, f, l[:6])
		}
		turnedNodes(f)
		for i := range l {
			l[i] = event(-1, "written")
		}
		if !slices.Equal(second.Marks, kept) {
			t.Errorf("%s: written into what was handed in, the answer was turned: %s, it was %s", text, marksText(second.Marks), marksText(kept))
		}
	}
}

// Neither Proves nor Follows turns what is handed in, nor the room behind it.
func TestPromise11MemoryOfMarks(t *testing.T) {
	text := "(since 0 * (not r) (or p (hist 1 * q)))"
	f, l := formula(t, text), whyTrace()
	made := impl.WhyOf(f, l, int64(len(f)-1), 4).Marks
	room := append(slices.Clone(made), slices.Repeat(marksOf(t, "7@7+"), 9)...)
	marks := room[:len(made)]
	keptFormula, keptTrace, keptRoom := slices.Clone(f), copyTrace(l), slices.Clone(room)
	for range 3 {
		if !impl.Proves(f, l, marks) || !impl.Follows(f, l, marks[:len(marks)-1], marks[len(marks)-1]) || impl.Follows(f, l, marks, impl.Mark{Node: 4, At: 0}) {
			t.Errorf("asked again, it is not told again: %s", marksText(marks))
		}
		if !sameFormula(f, keptFormula) || !sameTrace(l, keptTrace) || !slices.Equal(room, keptRoom) {
			t.Fatalf("what was handed in was turned: %+v, %+v, %s", f, l, marksText(room))
		}
	}
}

// Nothing is kept: what was told or asked ahead, of the same nodes and places, turns no answer.
func TestPromise11NothingIsKept(t *testing.T) {
	p, q := formula(t, "(not p)"), formula(t, "(not q)")
	for range 50 {
		for i, e := range whyTrace() {
			l := []impl.Event{e}
			for _, f := range [][]impl.Node{p, q} {
				name := f[0].Name
				yes := slices.Contains(e.Names, name)
				want := []impl.Mark{{Yes: yes}, {Node: 1, Yes: !yes}}
				if got := impl.WhyOf(f, l, 1, 0); !slices.Equal(got.Marks, want) {
					t.Errorf("(not %s) of event %d: got %s", name, i, marksText(got.Marks))
				}
				turned := []impl.Mark{{Yes: !yes}, {Node: 1, Yes: yes}}
				if !impl.Proves(f, l, want) || impl.Proves(f, l, want[1:]) || impl.Proves(f, l, turned) || impl.Follows(f, l, nil, want[1]) {
					t.Errorf("(not %s) of event %d: not as it is by itself", name, i)
				}
			}
		}
	}
}
