package tests

import (
	"math"
	"math/big"
	"math/rand"
	"slices"
	"strconv"
	"strings"
	"testing"

	"loop.example/g00759/impl"
)

// bounded asks whether the place from is as long ahead of the place to as x asks for.
func (x tree) bounded(l []impl.Event, from int, to int) bool {
	gap := l[to].Time - l[from].Time
	return gap >= x.low && (x.high == -1 || gap <= x.high)
}

// verdicts go from the leaves up, a row of all places for each part, where the program goes from the whole down.
func (x tree) verdicts(l []impl.Event) []bool {
	var kids [][]bool
	for _, kid := range x.kids {
		kids = append(kids, kid.verdicts(l))
	}
	row := make([]bool, len(l))
	for i := range l {
		row[i] = x.holds(l, kids, i)
	}
	return row
}

func (x tree) holds(l []impl.Event, kids [][]bool, i int) bool {
	var such []int
	for from := 0; from <= i; from++ {
		if x.bounded(l, from, i) {
			such = append(such, from)
		}
	}
	switch x.kind {
	case impl.FmTrue:
		return true
	case impl.FmAtom:
		return slices.Contains(l[i].Names, x.name)
	case impl.FmNot:
		return !kids[0][i]
	case impl.FmAnd:
		return kids[0][i] && kids[1][i]
	case impl.FmOr:
		return kids[0][i] || kids[1][i]
	case impl.FmPrev:
		return slices.Contains(such, i-1) && kids[0][i-1]
	case impl.FmOnce:
		return slices.ContainsFunc(such, func(at int) bool { return kids[0][at] })
	case impl.FmHist:
		return !slices.ContainsFunc(such, func(at int) bool { return !kids[0][at] })
	}
	return slices.ContainsFunc(such, func(at int) bool {
		return kids[1][at] && !slices.Contains(kids[0][at+1:i+1], false)
	})
}

// near is x with few names and small bounds, so that much of it hangs on the trace.
func (x tree) near(r *rand.Rand) tree {
	made := tree{kind: x.kind}
	if x.kind == impl.FmAtom {
		made.name = []string{"p", "q", "r"}[r.Intn(3)]
	}
	if treeBound(x.kind) {
		made.low = int64(r.Intn(4))
		highs := []int64{-1, made.low, made.low + 1, made.low + 5}
		made.high = highs[r.Intn(len(highs))]
	}
	for _, kid := range x.kids {
		made.kids = append(made.kids, kid.near(r))
	}
	return made
}

// nearTrace has many events of one Time, and steps at which small bounds are met and missed.
func nearTrace(r *rand.Rand, many int) []impl.Event {
	time := []int64{0, 7, impl.MaxTime - 9*impl.MaxTrace}[r.Intn(3)]
	var l []impl.Event
	for range many {
		var names []string
		for _, name := range []string{"p", "q", "r"} {
			if r.Intn(3) > 0 {
				names = append(names, name)
			}
		}
		l = append(l, event(time, names...))
		time += []int64{0, 0, 1, 1, 2, 3, 4, 9}[r.Intn(8)]
	}
	return l
}

func formula(t *testing.T, text string) []impl.Node {
	t.Helper()
	got := impl.FormulaRead(text)
	if got.Code != impl.OK {
		t.Fatalf("%s: no formula, code %d", text, got.Code)
	}
	return got.Formula
}

// signs are verdicts in short: + of yes, - of no.
func signs(verdicts []bool) string {
	var text strings.Builder
	for _, yes := range verdicts {
		if yes {
			text.WriteByte('+')
		} else {
			text.WriteByte('-')
		}
	}
	return text.String()
}

// wantVerdicts holds Verdicts, Holds and HoldsAt of the whole to what is wanted at each place.
func wantVerdicts(t *testing.T, f []impl.Node, l []impl.Event, want string) {
	t.Helper()
	if got := signs(impl.Verdicts(f, l)); got != want {
		t.Errorf("Verdicts %.120s of %+v: got %s, want %s", impl.FormulaText(f), l, got, want)
	}
	for i := range l {
		yes := want[i] == '+'
		if got := impl.Holds(f, l, int64(i)); got != yes {
			t.Errorf("Holds %.120s of %+v at %d: got %t", impl.FormulaText(f), l, i, got)
		}
		if got := impl.HoldsAt(f, int64(len(f)-1), l, int64(i)); got != yes {
			t.Errorf("HoldsAt %.120s of %+v, the last node at %d: got %t", impl.FormulaText(f), l, i, got)
		}
	}
}

// wantMeant holds all calls of a right formula and trace to the tree's own verdicts, node by node.
func wantMeant(t *testing.T, x tree, l []impl.Event) {
	t.Helper()
	f, texts, _ := x.rows(nil, nil)
	wantVerdicts(t, f, l, signs(x.verdicts(l)))
	for _, part := range x.parts() {
		node := int64(slices.Index(texts, part.text()))
		for i, yes := range part.verdicts(l) {
			if got := impl.HoldsAt(f, node, l, int64(i)); got != yes {
				t.Errorf("HoldsAt %s of %+v, node %d at %d: got %t", x.text(), l, node, i, got)
			}
		}
	}
}

// wantNoMeaning is of a formula or a trace that is not right: no node holds, wherever it is asked for.
func wantNoMeaning(t *testing.T, why string, f []impl.Node, l []impl.Event) {
	t.Helper()
	if got := impl.Verdicts(f, l); len(got) != 0 {
		t.Errorf("%s: Verdicts tells %v", why, got)
	}
	for _, i := range edgePlaces(len(l)) {
		if impl.Holds(f, l, i) {
			t.Errorf("%s: Holds at %d: got yes", why, i)
		}
		for _, node := range edgePlaces(len(f)) {
			if impl.HoldsAt(f, node, l, i) {
				t.Errorf("%s: HoldsAt, node %d at %d: got yes", why, node, i)
			}
		}
	}
}

// edgePlaces are those of a list of so many, and some that are none.
func edgePlaces(many int) []int64 {
	places := noPlaces(many)
	for i := range many {
		places = append(places, int64(i))
	}
	return places
}

func noPlaces(many int) []int64 {
	return []int64{-1, -2, math.MinInt64, int64(many), int64(many) + 1, 1 << 32, math.MaxInt64}
}

func TestPromise5EachKind(t *testing.T) {
	l := []impl.Event{event(0, "q"), event(2, "p"), event(2), event(5, "p"), event(6, "p", "q"), event(9, "p")}
	kinds := map[string]string{
		"true":                     "++++++",
		"p":                        "-+-+++",
		"q":                        "+---+-",
		"other":                    "------",
		"(not p)":                  "+-+---",
		"(not true)":               "------",
		"(and p q)":                "----+-",
		"(and p true)":             "-+-+++",
		"(or p q)":                 "++-+++",
		"(or q (not true))":        "+---+-",
		"(prev 0 * p)":             "--+-++",
		"(prev 0 0 p)":             "--+---",
		"(prev 1 1 p)":             "----+-",
		"(prev 1 2 p)":             "----+-",
		"(prev 3 3 p)":             "-----+",
		"(prev 0 * q)":             "-+---+",
		"(prev 0 1 q)":             "------",
		"(prev 0 * true)":          "-+++++",
		"(once 0 * q)":             "++++++",
		"(once 0 0 p)":             "-+++++",
		"(once 1 2 p)":             "----+-",
		"(once 1 * p)":             "---+++",
		"(once 3 3 p)":             "---+-+",
		"(once 3 4 p)":             "---+++",
		"(once 5 6 q)":             "---++-",
		"(once 7 * true)":          "-----+",
		"(hist 0 * p)":             "------",
		"(hist 0 0 p)":             "-+-+++",
		"(hist 0 1 p)":             "-+-+++",
		"(hist 1 1 p)":             "++++++",
		"(hist 2 2 q)":             "++++++",
		"(hist 3 3 p)":             "+++-++",
		"(hist 3 * p)":             "+++---",
		"(hist 10 * (not true))":   "++++++",
		"(hist 9 9 p)":             "+++++-",
		"(since 0 * p q)":          "++--++",
		"(since 2 * p q)":          "-+---+",
		"(since 0 1 p q)":          "+---+-",
		"(since 3 3 p q)":          "-----+",
		"(since 0 * q p)":          "-+-+++",
		"(since 0 * true q)":       "++++++",
		"(since 1 * true q)":       "-+++++",
		"(since 0 0 (not true) q)": "+---+-",
		"(since 1 * (not true) q)": "------",
		"(since 0 * p (not p))":    "++++++",
		"(since 1 4 p (not p))":    "-+-++-",
		"(once 0 * (hist 0 * q))":  "++++++",
		"(hist 0 * (once 0 * q))":  "++++++",
		"(not (once 0 3 q))":       "---+--",
		"(prev 0 * (prev 0 * q))":  "--+---",
	}
	for text, want := range kinds {
		wantVerdicts(t, formula(t, text), l, want)
	}
}

func TestPromise5EachNodeAtEachPlace(t *testing.T) {
	r := rand.New(rand.NewSource(51))
	for _, x := range rightTrees(1200) {
		wantMeant(t, x.near(r), nearTrace(r, 1+r.Intn(12)))
	}
	for _, x := range rightTrees(100) {
		l := nearTrace(r, 20)
		// Steps as far as the greatest bounds reach.
		for i := range l {
			l[i].Time = min(l[i].Time, 1000) * int64(i)
		}
		wantMeant(t, x, l)
	}
}

// lawBounds are those with which a law is asked for.
func lawBounds() [][2]int64 {
	return [][2]int64{{0, -1}, {0, 0}, {0, 1}, {0, 4}, {1, -1}, {1, 1}, {1, 3}, {2, 2}, {3, -1}, {3, 8}, {0, impl.MaxBound}, {impl.MaxBound, -1}}
}

// wantSameMeaning tells whether both fit into a formula; if they do, they hold at the same places.
func wantSameMeaning(t *testing.T, a tree, b tree, l []impl.Event) bool {
	t.Helper()
	f, g := a.formula(), b.formula()
	if len(f) > impl.MaxNodes || len(g) > impl.MaxNodes {
		return false
	}
	left, right := impl.Verdicts(f, l), impl.Verdicts(g, l)
	if len(left) != len(l) || !slices.Equal(left, right) {
		t.Errorf("%s and %s of %+v: got %s and %s", a.text(), b.text(), l, signs(left), signs(right))
	}
	for i := range l {
		if impl.Holds(f, l, int64(i)) != impl.Holds(g, l, int64(i)) {
			t.Errorf("%s and %s of %+v: unlike at %d", a.text(), b.text(), l, i)
		}
	}
	return true
}

func negated(x tree) tree {
	return tree{kind: impl.FmNot, kids: []tree{x}}
}

// wantLaw holds a law, two formulas made of any one and of bounds, to the same meaning.
func wantLaw(t *testing.T, seed int64, law func(x tree, low int64, high int64) (tree, tree)) {
	t.Helper()
	r := rand.New(rand.NewSource(seed))
	asked := 0
	for _, x := range rightTrees(250) {
		x = x.near(r)
		l := nearTrace(r, 1+r.Intn(15))
		for _, b := range lawBounds() {
			left, right := law(x, b[0], b[1])
			if wantSameMeaning(t, left, right, l) {
				asked++
			}
		}
	}
	if asked < 1000 {
		t.Errorf("asked %d times: too few", asked)
	}
}

func TestPromise5AlwaysIsNotOnceNot(t *testing.T) {
	wantLaw(t, 52, func(x tree, low int64, high int64) (tree, tree) {
		always := tree{kind: impl.FmHist, low: low, high: high, kids: []tree{x}}
		onceNot := tree{kind: impl.FmOnce, low: low, high: high, kids: []tree{negated(x)}}
		return always, negated(onceNot)
	})
}

func TestPromise5OnceIsSinceWithNoMoreAsked(t *testing.T) {
	wantLaw(t, 53, func(x tree, low int64, high int64) (tree, tree) {
		was := tree{kind: impl.FmOnce, low: low, high: high, kids: []tree{x}}
		since := tree{kind: impl.FmSince, low: low, high: high, kids: []tree{{kind: impl.FmTrue}, x}}
		return was, since
	})
}

func TestPromise5WhatComesBehindTurnsNothing(t *testing.T) {
	r := rand.New(rand.NewSource(54))
	for _, x := range rightTrees(400) {
		f := x.near(r).formula()
		l := nearTrace(r, 14)
		whole := impl.Verdicts(f, l)
		for size := range len(l) + 1 {
			ahead := slices.Clip(l[:size])
			if got := impl.Verdicts(f, ahead); len(whole) != len(l) || !slices.Equal(got, whole[:size]) {
				t.Fatalf("%s of %+v: got %s, of its first %d %s", impl.FormulaText(f), l, signs(whole), size, signs(got))
			}
			// Other events behind the same ones.
			other := append(ahead, event(l[max(size-1, 0)].Time+3, "p", "r"), event(impl.MaxTime))
			if got := impl.Verdicts(f, other); len(got) != size+2 || !slices.Equal(got[:size], whole[:size]) {
				t.Fatalf("%s of %+v: got %s, and %s of %+v", impl.FormulaText(f), l, signs(whole), signs(got), other)
			}
			for node := range f {
				for i := range size {
					if impl.HoldsAt(f, int64(node), ahead, int64(i)) != impl.HoldsAt(f, int64(node), l, int64(i)) {
						t.Fatalf("%s of %+v: node %d at %d hangs on what is behind", impl.FormulaText(f), l, node, i)
					}
				}
			}
		}
	}
}

func TestPromise5PlacesAndNodes(t *testing.T) {
	l := []impl.Event{event(0, "p"), event(1, "p"), event(1, "p")}
	texts := []string{"true", "p", "(not (not p))", "(and p true)", "(or p q)", "(once 0 * p)", "(hist 0 * p)", "(since 0 * p p)",
		"(hist 0 * (or true (prev 0 * p)))"}
	for _, text := range texts {
		f := formula(t, text)
		wantVerdicts(t, f, l, "+++")
		for _, i := range noPlaces(len(l)) {
			if impl.Holds(f, l, i) {
				t.Errorf("Holds %s at %d: got yes", text, i)
			}
			for node := range f {
				if impl.HoldsAt(f, int64(node), l, i) {
					t.Errorf("HoldsAt %s, node %d at %d: got yes", text, node, i)
				}
			}
		}
		for _, node := range noPlaces(len(f)) {
			for _, i := range edgePlaces(len(l)) {
				if impl.HoldsAt(f, node, l, i) {
					t.Errorf("HoldsAt %s, node %d at %d: got yes", text, node, i)
				}
			}
		}
	}
	// The first node, the last one, and what is between.
	f := formula(t, "(and (not q) (prev 1 1 p))")
	for node, want := range []string{"---", "+++", "+++", "-+-", "-+-"} {
		for i := range l {
			if got := impl.HoldsAt(f, int64(node), l, int64(i)); got != (want[i] == '+') {
				t.Errorf("HoldsAt, node %d at %d: got %t", node, i, got)
			}
		}
	}
}

func TestPromise5LengthsOfTraces(t *testing.T) {
	yes := formula(t, "true")
	for _, l := range [][]impl.Event{nil, {}} {
		wantNoMeaning(t, "no events", yes, l)
		wantNoMeaning(t, "no events", formula(t, "(hist 0 * p)"), l)
	}
	alone := map[string]string{"p": "+", "q": "-", "(prev 0 * p)": "-", "(not (prev 0 * p))": "+", "(once 0 0 p)": "+", "(once 1 * p)": "-",
		"(hist 0 0 p)": "+", "(hist 0 * q)": "-", "(hist 1 * q)": "+", "(since 0 * q p)": "+", "(since 0 * p q)": "-", "(since 1 * p p)": "-"}
	for text, want := range alone {
		wantVerdicts(t, formula(t, text), []impl.Event{event(0, "p")}, want)
		wantVerdicts(t, formula(t, text), []impl.Event{event(impl.MaxTime, "p")}, want)
	}
	for _, size := range []int{2, impl.MaxTrace - 1, impl.MaxTrace} {
		l := make([]impl.Event, size)
		l[0] = event(0, "p")
		wantVerdicts(t, yes, l, strings.Repeat("+", size))
		wantVerdicts(t, formula(t, "(once 0 * p)"), l, strings.Repeat("+", size))
		wantVerdicts(t, formula(t, "(since 0 0 (not p) p)"), l, strings.Repeat("+", size))
		wantVerdicts(t, formula(t, "(hist 0 * p)"), l, "+"+strings.Repeat("-", size-1))
		wantVerdicts(t, formula(t, "(prev 0 * p)"), l, "-+"+strings.Repeat("-", size-2))
	}
	for _, size := range []int{impl.MaxTrace + 1, impl.MaxList, impl.MaxList + 1} {
		wantNoMeaning(t, strconv.Itoa(size)+" events", yes, make([]impl.Event, size))
	}
}

func TestPromise5ManyNodes(t *testing.T) {
	l := []impl.Event{event(0, "p"), event(4)}
	for _, many := range []int{1, 2, impl.MaxNodes - 1, impl.MaxNodes} {
		// Of an even number of nodes there is one FmNot too many.
		wantVerdicts(t, nots(many), l, []string{"-+", "+-"}[many%2])
		wantVerdicts(t, twices(many), l, "+-")
	}
	for _, many := range []int{impl.MaxNodes + 1, impl.MaxList, impl.MaxList + 1} {
		wantNoMeaning(t, strconv.Itoa(many)+" nodes", nots(many), l)
		wantNoMeaning(t, strconv.Itoa(many)+" nodes", twices(many), l)
	}
}

// piled has MaxNodes nodes, each but the first one of that kind, and of what stands ahead of it alone.
func piled(kind int64, low int64, high int64) []impl.Node {
	f := []impl.Node{atom("p")}
	for len(f) < impl.MaxNodes {
		ahead := int64(len(f) - 1)
		x := impl.Node{Kind: kind, Low: low, High: high, A: ahead}
		if treeKids(kind) > 1 {
			x.B = ahead
		}
		f = append(f, x)
	}
	return f
}

// Asked anew each time, this would not come to an end.
func TestPromise5MostNodesOverTheLongestTrace(t *testing.T) {
	var l []impl.Event
	for i := range impl.MaxTrace {
		l = append(l, event(int64(i), "p"))
	}
	pile := impl.MaxNodes - 1
	all := strings.Repeat("+", impl.MaxTrace)
	wantVerdicts(t, piled(impl.FmOnce, 0, -1), l, all)
	wantVerdicts(t, piled(impl.FmHist, 0, -1), l, all)
	wantVerdicts(t, piled(impl.FmSince, 0, -1), l, all)
	wantVerdicts(t, piled(impl.FmPrev, 0, -1), l, strings.Repeat("-", pile)+all[pile:])
	wantVerdicts(t, piled(impl.FmOnce, 1, 2), l, strings.Repeat("-", pile)+all[pile:])
	wantVerdicts(t, piled(impl.FmOnce, 2, -1), l, strings.Repeat("-", 2*pile)+all[2*pile:])
	wantVerdicts(t, piled(impl.FmSince, 2, 3), l, strings.Repeat("-", 2*pile)+all[2*pile:])
	for i := range l {
		l[i].Names = nil
	}
	wantVerdicts(t, piled(impl.FmOnce, 0, -1), l, strings.ReplaceAll(all, "+", "-"))
	wantVerdicts(t, piled(impl.FmSince, 0, -1), l, strings.ReplaceAll(all, "+", "-"))
	wantVerdicts(t, piled(impl.FmHist, 0, -1), l, strings.ReplaceAll(all, "+", "-"))
}

// wantAtGap holds each kind that has bounds to two events that are so far apart.
func wantAtGap(t *testing.T, b [2]int64, gap int64, in bool) {
	t.Helper()
	low, high := strconv.FormatInt(b[0], 10), strings.Replace(strconv.FormatInt(b[1], 10), "-1", "*", 1)
	bounds := low + " " + high
	if got := impl.InBounds(impl.Node{Low: b[0], High: b[1]}, 3, 3+gap); got != in {
		t.Errorf("InBounds %s of %d: got %t", bounds, gap, got)
	}
	for _, begin := range []int64{0, 1, impl.MaxTime - gap} {
		l := []impl.Event{event(begin, "p"), event(begin+gap, "q")}
		texts := []string{"(prev " + bounds + " p)", "(once " + bounds + " p)", "(not (hist " + bounds + " (not p)))", "(since " + bounds + " q p)"}
		for _, text := range texts {
			if got := impl.Holds(formula(t, text), l, 1); got != in {
				t.Errorf("%s of %+v at 1: got %t", text, l, got)
			}
		}
		if impl.Holds(formula(t, "(since "+bounds+" p p)"), l, 1) {
			t.Errorf("since %s of %+v at 1: A does not hold there", bounds, l)
		}
	}
}

func TestPromise5BoundsAtTheirEdges(t *testing.T) {
	for _, b := range [][2]int64{{0, 0}, {0, 5}, {3, 3}, {3, 7}, {1, impl.MaxBound}, {999, impl.MaxBound}, {impl.MaxBound, impl.MaxBound}, {0, -1}, {4, -1}, {impl.MaxBound, -1}} {
		low, high := b[0], b[1]
		if low > 0 {
			wantAtGap(t, b, low-1, false)
			wantAtGap(t, b, 0, false)
		}
		wantAtGap(t, b, low, true)
		if high == -1 {
			wantAtGap(t, b, low+1, true)
			wantAtGap(t, b, impl.MaxTime-1, true)
			continue
		}
		wantAtGap(t, b, high, true)
		wantAtGap(t, b, high+1, false)
		wantAtGap(t, b, impl.MaxTime-1, false)
	}
}

func TestPromise5EventsOfOneTime(t *testing.T) {
	for _, time := range []int64{0, 5, impl.MaxTime} {
		l := []impl.Event{event(time), event(time, "p"), event(time), event(time, "q"), event(time, "q")}
		kinds := map[string]string{"(prev 0 0 p)": "--+--", "(prev 1 * p)": "-----", "(once 0 0 p)": "-++++", "(once 1 * p)": "-----",
			"(once 0 * q)": "---++", "(hist 0 0 (not p))": "+----", "(hist 1 * p)": "+++++", "(hist 0 0 (not q))": "+++--",
			"(since 0 0 q p)": "-+---", "(since 0 0 q (not q))": "+++++", "(since 1 * true true)": "-----", "(since 0 0 q q)": "---++"}
		for text, want := range kinds {
			wantVerdicts(t, formula(t, text), l, want)
		}
	}
}

func TestPromise5InBounds(t *testing.T) {
	rows := []struct {
		low, high, from, to int64
		want                bool
	}{
		{0, -1, 5, 5, true}, {0, -1, 5, 4, false}, {0, 0, 5, 5, true}, {0, 0, 5, 6, false}, {0, 0, 5, 4, false},
		{1, -1, 3, 4, true}, {1, 2, 3, 6, false}, {2, 4, 0, 1, false}, {2, 4, 0, 2, true}, {2, 4, 0, 4, true}, {2, 4, 0, 5, false},
		{0, impl.MaxBound, impl.MaxTime, 0, false}, {0, -1, impl.MaxTime, 0, false}, {0, 5, -3, 2, true}, {0, 5, -3, 3, false},
		{0, -1, math.MinInt64, math.MaxInt64, true}, {0, impl.MaxBound, math.MinInt64, math.MaxInt64, false},
		{0, -1, math.MaxInt64, math.MinInt64, false}, {0, impl.MaxBound, math.MaxInt64, math.MinInt64, false},
		{0, 2, math.MaxInt64 - 2, math.MaxInt64, true}, {0, 1, math.MinInt64, math.MinInt64 + 1, true},
		{1, -1, math.MaxInt64, math.MinInt64, false}, {0, -1, math.MinInt64, 0, true}, {0, 0, math.MinInt64, 0, false},
	}
	for _, x := range rows {
		if got := impl.InBounds(impl.Node{Low: x.low, High: x.high}, x.from, x.to); got != x.want {
			t.Errorf("InBounds %d %d from %d to %d: got %t", x.low, x.high, x.from, x.to, got)
		}
	}
	// Only the bounds are asked for.
	full := impl.Node{Kind: impl.FmTrue, A: 9, B: -4, Low: 2, High: 3, Name: "No Name"}
	if !impl.InBounds(full, 1, 3) || impl.InBounds(full, 1, 2) || impl.InBounds(impl.Node{Kind: impl.FmOnce, Low: 2, High: 3}, 0, 4) {
		t.Errorf("InBounds hangs on more than Low and High")
	}
}

// The difference of two int64 may be none: it is taken here as a number without an end.
func TestPromise5InBoundsOfAllNumbers(t *testing.T) {
	ends := []int64{math.MinInt64, math.MinInt64 + 1, -impl.MaxTime, -2, -1, 0, 1, 2, impl.MaxBound, impl.MaxTime, math.MaxInt64 - 1, math.MaxInt64}
	for _, from := range ends {
		for _, to := range ends {
			gap := new(big.Int).Sub(big.NewInt(to), big.NewInt(from))
			for _, low := range ends {
				for _, high := range ends {
					want := gap.Cmp(big.NewInt(low)) >= 0 && (high == -1 || gap.Cmp(big.NewInt(high)) <= 0)
					if got := impl.InBounds(impl.Node{Low: low, High: high}, from, to); got != want {
						t.Errorf("InBounds %d %d from %d to %d: got %t", low, high, from, to, got)
					}
				}
			}
		}
	}
}

func TestPromise5WrongFormulas(t *testing.T) {
	l := []impl.Event{event(0, "p", "q"), event(1, "p", "q"), event(3, "p", "q")}
	p, q, yes := atom("p"), atom("q"), impl.Node{Kind: impl.FmTrue}
	rows := map[string][]impl.Node{
		"none":               nil,
		"empty":              {},
		"no kind":            {{}},
		"a kind above":       {p, {Kind: impl.FmSince + 1}},
		"a wrong kind below": {{Kind: -1}, not(0)},
		"two alike":          {p, p, and(0, 1)},
		"none speaks of it":  {p, q, yes},
		"itself":             {p, and(0, 1)},
		"itself alone":       {not(0)},
		"a later one":        {p, not(2), not(0), and(1, 2)},
		"one below 0":        {p, not(-1)},
		"one behind the end": {p, not(2)},
		"another order":      {p, q, and(1, 0)},
		"Low below 0":        {p, once(-1, 5, 0)},
		"High below Low":     {p, {Kind: impl.FmHist, Low: 5, High: 4}},
		"High below -1":      {p, {Kind: impl.FmHist, Low: 0, High: -2}},
		"High too great":     {p, once(0, impl.MaxBound+1, 0)},
		"Low too great":      {p, {Kind: impl.FmHist, Low: impl.MaxBound + 1, High: -1}},
		"no name":            {atom("")},
		"a word as name":     {atom("true")},
		"true with a name":   {{Kind: impl.FmTrue, Name: "p"}},
		"true with a bound":  {{Kind: impl.FmTrue, High: -1}},
		"an atom with an A":  {p, {Kind: impl.FmAtom, A: 1, Name: "q"}, and(0, 1)},
	}
	for why, f := range rows {
		wantNoMeaning(t, why, f, l)
		wantNoMeaning(t, why+", of no events", f, nil)
	}
}

func TestPromise5WrongTraces(t *testing.T) {
	wrong := map[string]impl.Event{
		"a Time below 0":   event(-1, "p"),
		"a Time too great": event(impl.MaxTime+1, "p"),
		"names that fall":  event(7, "q", "p"),
		"names alike":      event(7, "p", "p"),
		"no name":          event(7, ""),
		"a word as name":   event(7, "once"),
		"a great letter":   event(7, "P"),
		"nine names":       event(7, "a", "b", "c", "d", "e", "f", "g", "h", "i"),
	}
	for _, text := range []string{"true", "p", "(once 0 * p)", "(hist 0 * true)", "(not (prev 0 * q))", "(since 0 * p p)"} {
		f := formula(t, text)
		for why, e := range wrong {
			for at := range 3 {
				wantNoMeaning(t, why, f, slices.Insert([]impl.Event{event(7, "p"), event(7, "p")}, at, e))
			}
			wantNoMeaning(t, why, f, []impl.Event{e})
		}
		wantNoMeaning(t, "Times that fall", f, []impl.Event{event(2, "p"), event(1, "p")})
		wantNoMeaning(t, "Times that fall at the end", f, []impl.Event{event(2, "p"), event(2, "p"), event(3, "p"), event(2, "p")})
	}
}

// What is handed in stays, and no answer shares memory with it, nor with another one.
func TestPromise5MemoryOfVerdicts(t *testing.T) {
	f := formula(t, "(since 0 4 (not (prev 0 * q)) (or p (hist 1 * q)))")
	room := make([]impl.Event, 8, 9)
	copy(room, []impl.Event{event(0, "q"), event(1, "p", "q"), event(1), event(3, "p"), event(9), event(9, "p")})
	l := room[:6]
	keptFormula, keptRoom := slices.Clone(f), copyTrace(room)
	first := impl.Verdicts(f, l)
	second := impl.Verdicts(f, l)
	kept := slices.Clone(second)
	if len(first) != len(l) || !slices.Equal(first, second) {
		t.Fatalf("two answers of one call: %v and %v", first, second)
	}
	first = first[:cap(first)]
	for i := range first {
		first[i] = !first[i]
	}
	if !slices.Equal(second, kept) || !slices.Equal(impl.Verdicts(f, l), kept) {
		t.Errorf("written into one answer, another one was turned: %v, it was %v", second, kept)
	}
	for i := range l {
		if impl.Holds(f, l, int64(i)) != kept[i] {
			t.Errorf("Holds at %d is not what Verdicts told", i)
		}
	}
	if !sameFormula(f, keptFormula) || !sameTrace(room, keptRoom) {
		t.Errorf("what was handed in was turned: %+v, %+v", f, room)
	}
}

// Nothing is kept: what was asked ahead, of another formula or trace at the same nodes and places, turns no answer.
func TestPromise5NothingIsKept(t *testing.T) {
	r := rand.New(rand.NewSource(55))
	for range 300 {
		l := nearTrace(r, 5)
		for _, text := range []string{"(once 0 1 p)", "(once 0 1 q)", "(hist 0 1 p)", "(prev 0 1 p)"} {
			x, _, _ := readLoosely(strings.Fields(strings.NewReplacer("(", " ( ", ")", " ) ").Replace(text)))
			wantVerdicts(t, formula(t, text), l, signs(x.verdicts(l)))
		}
	}
}
