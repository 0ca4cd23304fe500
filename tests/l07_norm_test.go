package tests

import (
	"math/rand"
	"slices"
	"strconv"
	"strings"
	"testing"

	"loop.example/g00759/impl"
)

// shortener puts trees in fewer words, and counts what comes up on the way, by text.
type shortener struct {
	made map[string]int
}

func (s *shortener) make(x tree) tree {
	s.made[x.text()]++
	return x
}

func (s *shortener) turned(x tree) tree {
	if x.kind == impl.FmNot {
		return x.kids[0]
	}
	return s.make(negated(x))
}

func (s *shortener) joined(a tree, b tree) tree {
	if a.kind == impl.FmTrue || a.text() == b.text() {
		return b
	}
	if b.kind == impl.FmTrue {
		return a
	}
	return s.make(tree{kind: impl.FmAnd, kids: []tree{a, b}})
}

// short goes by the kind of x, each kind for itself.
func (s *shortener) short(x tree) tree {
	x.kids = slices.Clone(x.kids)
	for i, kid := range x.kids {
		x.kids[i] = s.short(kid)
	}
	switch x.kind {
	case impl.FmNot:
		return s.turned(x.kids[0])
	case impl.FmAnd:
		return s.joined(x.kids[0], x.kids[1])
	case impl.FmOr:
		return s.turned(s.joined(s.turned(x.kids[0]), s.turned(x.kids[1])))
	case impl.FmHist:
		return s.turned(s.past(tree{kind: impl.FmOnce, low: x.low, high: x.high, kids: []tree{s.turned(x.kids[0])}}))
	case impl.FmOnce, impl.FmSince:
		return s.past(x)
	}
	return s.make(x)
}

func (s *shortener) past(x tree) tree {
	if x.low == 0 && x.kids[len(x.kids)-1].kind == impl.FmTrue {
		return s.make(tree{kind: impl.FmTrue})
	}
	return s.make(x)
}

// shortTree is x in fewer words, and how many nodes came up on the way.
func shortTree(x tree) (tree, int) {
	s := shortener{made: map[string]int{}}
	made := s.short(x)
	return made, len(s.made)
}

// renamedTree is x with to in place of from.
func renamedTree(x tree, from string, to string) tree {
	if x.kind == impl.FmAtom && x.name == from {
		x.name = to
	}
	x.kids = slices.Clone(x.kids)
	for i, kid := range x.kids {
		x.kids[i] = renamedTree(kid, from, to)
	}
	return x
}

func bothTrees(a tree, b tree) tree {
	return tree{kind: impl.FmAnd, kids: []tree{a, b}}
}

func sameFormulaOut(a impl.FormulaOut, b impl.FormulaOut) bool {
	return a.Code == b.Code && sameFormula(a.Formula, b.Formula)
}

// wantFormula holds an answer to a tree: its formula, or ErrFull of one that has too many nodes.
func wantFormula(t *testing.T, what string, got impl.FormulaOut, want tree) {
	t.Helper()
	f := want.formula()
	if len(f) > impl.MaxNodes {
		wantNoFormula(t, what, got, impl.ErrFull)
		return
	}
	if !sameFormulaOut(got, impl.FormulaOut{Formula: f}) || !impl.FormulaRight(got.Formula) {
		t.Errorf("%s: got %+v, want %.300s", what, got, want.text())
	}
}

func wantNoFormula(t *testing.T, what string, got impl.FormulaOut, code int64) {
	t.Helper()
	if got.Code != code || got.Formula != nil {
		t.Errorf("%s: got %+v, want code %d", what, got, code)
	}
}

// wantNodes is of an answer of which but the count of its nodes is asked for.
func wantNodes(t *testing.T, what string, got impl.FormulaOut, many int) {
	t.Helper()
	if many > impl.MaxNodes {
		wantNoFormula(t, what, got, impl.ErrFull)
		return
	}
	if got.Code != impl.OK || len(got.Formula) != many || !impl.FormulaRight(got.Formula) {
		t.Errorf("%s: got %+v, want %d nodes", what, got, many)
	}
}

func wantWritten(t *testing.T, what string, got impl.FormulaOut, want string) {
	t.Helper()
	if got.Code != impl.OK || !sameFormula(got.Formula, formula(t, want)) {
		t.Errorf("%s: got %s, code %d, want %s", what, impl.FormulaText(got.Formula), got.Code, want)
	}
}

// wantShort holds Normal of a text to a text, and both to the same meaning.
func wantShort(t *testing.T, text string, want string) {
	t.Helper()
	f := formula(t, text)
	got := impl.Normal(f)
	wantWritten(t, "Normal "+text, got, want)
	wantWritten(t, "Normal twice "+text, impl.Normal(got.Formula), want)
	for _, l := range normTraces() {
		wantVerdicts(t, got.Formula, l, signs(impl.Verdicts(f, l)))
	}
}

// normTraces have many events each, of names and steps that small bounds meet and miss.
func normTraces() [][]impl.Event {
	r := rand.New(rand.NewSource(91))
	traces := [][]impl.Event{nil, {event(0)}, {event(3, "p")}, {event(0, "q"), event(impl.MaxTime, "p")}}
	for range 6 {
		traces = append(traces, nearTrace(r, 1+r.Intn(25)))
	}
	return append(traces, nearTrace(r, impl.MaxTrace))
}

// normTrees are some of any size, and some that come near to MaxNodes, all of few names and small bounds.
func normTrees(r *rand.Rand, many int) []tree {
	var all []tree
	for _, x := range rightTrees(many) {
		all = append(all, x.near(r))
	}
	for len(all) < many+many/4 {
		x := anyTree(r, 7).near(r)
		if size := len(x.formula()); size >= 16 && size <= impl.MaxNodes {
			all = append(all, x)
		}
	}
	r.Shuffle(len(all), func(i, j int) { all[i], all[j] = all[j], all[i] })
	return all
}

// opposites are verdicts turned.
func opposites(verdicts []bool) string {
	return strings.NewReplacer("+", "-", "-", "+").Replace(signs(verdicts))
}

// bothSigns have + where both have.
func bothSigns(a []bool, b []bool) string {
	both := make([]bool, len(a))
	for i := range a {
		both[i] = a[i] && b[i]
	}
	return signs(both)
}

// histPile has so many FmHists, of unlike bounds, over an atom.
func histPile(many int) tree {
	x := tree{kind: impl.FmAtom, name: "p"}
	for i := range many {
		x = tree{kind: impl.FmHist, low: int64(i + 1), high: -1, kids: []tree{x}}
	}
	return x
}

// oncePile is of as many nodes in fewer words as it has.
func oncePile(name string, many int) tree {
	x := tree{kind: impl.FmAtom, name: name}
	for i := 1; i < many; i++ {
		x = tree{kind: impl.FmOnce, low: int64(i), high: int64(i), kids: []tree{x}}
	}
	return x
}

func TestPromise9NormalOfEachKind(t *testing.T) {
	for text, want := range map[string]string{
		"true":                          "true",
		"p":                             "p",
		"(not p)":                       "(not p)",
		"(not true)":                    "(not true)",
		"(and p q)":                     "(and p q)",
		"(and q p)":                     "(and q p)",
		"(or p q)":                      "(not (and (not p) (not q)))",
		"(or q p)":                      "(not (and (not q) (not p)))",
		"(prev 0 5 p)":                  "(prev 0 5 p)",
		"(prev 2 * p)":                  "(prev 2 * p)",
		"(once 0 5 p)":                  "(once 0 5 p)",
		"(once 3 * p)":                  "(once 3 * p)",
		"(hist 0 2 p)":                  "(not (once 0 2 (not p)))",
		"(hist 3 * p)":                  "(not (once 3 * (not p)))",
		"(hist 4 4 p)":                  "(not (once 4 4 (not p)))",
		"(since 0 5 p q)":               "(since 0 5 p q)",
		"(since 2 * p q)":               "(since 2 * p q)",
		"(since 2 * q p)":               "(since 2 * q p)",
		"(since 0 1000 p p)":            "(since 0 1000 p p)",
		"(once 1000 1000 (not p))":      "(once 1000 1000 (not p))",
		"(and p (prev 0 3 p))":          "(and p (prev 0 3 p))",
		"(since 1 2 (not q) (and p r))": "(since 1 2 (not q) (and p r))",
	} {
		wantShort(t, text, want)
	}
}

func TestPromise9EachRuleByItself(t *testing.T) {
	for text, want := range map[string]string{
		"(not (not p))":                   "p",
		"(not (not true))":                "true",
		"(not (not (not p)))":             "(not p)",
		"(not (not (not (not p))))":       "p",
		"(not (not (and p q)))":           "(and p q)",
		"(and true p)":                    "p",
		"(and p true)":                    "p",
		"(and true true)":                 "true",
		"(and true (not p))":              "(not p)",
		"(and (not p) true)":              "(not p)",
		"(and p p)":                       "p",
		"(and (not p) (not p))":           "(not p)",
		"(and p (not p))":                 "(and p (not p))",
		"(and (not true) p)":              "(and (not true) p)",
		"(and p (not true))":              "(and p (not true))",
		"(and (once 1 2 p) (once 1 2 p))": "(once 1 2 p)",
		"(and (once 1 2 p) (once 1 3 p))": "(and (once 1 2 p) (once 1 3 p))",
		"(or p p)":                        "p",
		"(or p true)":                     "(not (and (not p) (not true)))",
		"(or true p)":                     "(not (and (not true) (not p)))",
		"(or true true)":                  "true",
		"(or p (not true))":               "p",
		"(or (not true) p)":               "p",
		"(or (not p) (not q))":            "(not (and p q))",
		"(or (not p) q)":                  "(not (and p (not q)))",
		"(or p (not q))":                  "(not (and (not p) q))",
		"(or (not p) (not p))":            "(not p)",
		"(or (not true) (not true))":      "(not true)",
		"(or p (not p))":                  "(not (and (not p) p))",
		"(hist 0 * true)":                 "(not (once 0 * (not true)))",
		"(hist 1 4 true)":                 "(not (once 1 4 (not true)))",
		"(hist 0 0 (not p))":              "(not (once 0 0 p))",
		"(hist 0 2 (not true))":           "(not true)",
		"(hist 0 * (not true))":           "(not true)",
		"(hist 1 2 (not true))":           "(not (once 1 2 true))",
		"(once 0 0 true)":                 "true",
		"(once 0 5 true)":                 "true",
		"(once 0 * true)":                 "true",
		"(once 0 1000 true)":              "true",
		"(once 1 1 true)":                 "(once 1 1 true)",
		"(once 1 5 true)":                 "(once 1 5 true)",
		"(once 1 * true)":                 "(once 1 * true)",
		"(once 1000 * true)":              "(once 1000 * true)",
		"(once 0 5 (not true))":           "(once 0 5 (not true))",
		"(since 0 0 p true)":              "true",
		"(since 0 3 p true)":              "true",
		"(since 0 * (not p) true)":        "true",
		"(since 0 3 true true)":           "true",
		"(since 1 3 p true)":              "(since 1 3 p true)",
		"(since 1 * p true)":              "(since 1 * p true)",
		"(since 1 1 true true)":           "(since 1 1 true true)",
		"(since 0 3 true p)":              "(since 0 3 true p)",
		"(since 0 * true (not true))":     "(since 0 * true (not true))",
		"(since 0 3 p (not true))":        "(since 0 3 p (not true))",
		"(prev 0 5 true)":                 "(prev 0 5 true)",
		"(prev 0 * true)":                 "(prev 0 * true)",
		"(prev 0 0 true)":                 "(prev 0 0 true)",
	} {
		wantShort(t, text, want)
	}
}

// Rules that have a say only on what the parts became.
func TestPromise9RulesOfWhatThePartsBecame(t *testing.T) {
	for text, want := range map[string]string{
		"(not (or p q))":                                                  "(and (not p) (not q))",
		"(not (hist 0 3 p))":                                              "(once 0 3 (not p))",
		"(not (and true (not p)))":                                        "p",
		"(not (or (not p) (not p)))":                                      "p",
		"(not (hist 0 3 (not true)))":                                     "true",
		"(and (not (not true)) p)":                                        "p",
		"(and p (once 0 3 true))":                                         "p",
		"(and p (not (not p)))":                                           "p",
		"(and (not (not p)) p)":                                           "p",
		"(and (or p q) (not (and (not p) (not q))))":                      "(not (and (not p) (not q)))",
		"(and (hist 1 2 p) (not (once 1 2 (not p))))":                     "(not (once 1 2 (not p)))",
		"(and (since 0 2 q true) (since 1 2 q true))":                     "(since 1 2 q true)",
		"(or (or p q) r)":                                                 "(not (and (and (not p) (not q)) (not r)))",
		"(or r (or p q))":                                                 "(not (and (not r) (and (not p) (not q))))",
		"(or (not (once 0 1 true)) p)":                                    "p",
		"(or (or p p) p)":                                                 "p",
		"(or (hist 0 2 p) (hist 0 2 p))":                                  "(not (once 0 2 (not p)))",
		"(or (hist 0 2 p) (hist 0 3 p))":                                  "(not (and (once 0 2 (not p)) (once 0 3 (not p))))",
		"(hist 0 3 (or p q))":                                             "(not (once 0 3 (and (not p) (not q))))",
		"(hist 0 3 (hist 1 4 p))":                                         "(not (once 0 3 (once 1 4 (not p))))",
		"(hist 0 3 (not (once 0 1 true)))":                                "(not true)",
		"(hist 0 3 (not (not (not p))))":                                  "(not (once 0 3 p))",
		"(once 0 3 (once 0 5 true))":                                      "true",
		"(once 0 3 (and true true))":                                      "true",
		"(once 1 3 (once 0 5 true))":                                      "(once 1 3 true)",
		"(once 0 3 (once 1 5 true))":                                      "(once 0 3 (once 1 5 true))",
		"(once 0 3 (or true true))":                                       "true",
		"(once 0 * (hist 0 * (not (not p))))":                             "(once 0 * (not (once 0 * (not p))))",
		"(since 0 3 p (since 0 5 q true))":                                "true",
		"(since 0 3 p (not (not true)))":                                  "true",
		"(since 2 3 (or p p) (not (not true)))":                           "(since 2 3 p true)",
		"(since 0 3 (hist 0 1 p) (or p q))":                               "(since 0 3 (not (once 0 1 (not p))) (not (and (not p) (not q))))",
		"(since 0 3 (not (not p)) (and p true))":                          "(since 0 3 p p)",
		"(prev 0 5 (once 0 5 true))":                                      "(prev 0 5 true)",
		"(prev 1 * (or p q))":                                             "(prev 1 * (not (and (not p) (not q))))",
		"(prev 1 2 (not (not (prev 3 4 (and r r)))))":                     "(prev 1 2 (prev 3 4 r))",
		"(not (prev 0 * (not (not (not p)))))":                            "(not (prev 0 * (not p)))",
		"(and (and p (not (not q))) (and p q))":                           "(and p q)",
		"(and q (and (not (not p)) (not (not (not q)))))":                 "(and q (and p (not q)))",
		"(since 0 * (once 3 3 p) (and true (not (hist 0 0 (not true)))))": "true",
	} {
		wantShort(t, text, want)
	}
}

func TestPromise9NormalMeansTheSame(t *testing.T) {
	r := rand.New(rand.NewSource(92))
	shorter, full := 0, 0
	for _, x := range normTrees(r, 2000) {
		want, _ := shortTree(x)
		f := x.formula()
		got := impl.Normal(f)
		wantFormula(t, "Normal "+x.text(), got, want)
		if got.Code != impl.OK {
			full++
			continue
		}
		if len(got.Formula) < len(f) {
			shorter++
		}
		if again := impl.Normal(got.Formula); !sameFormulaOut(again, got) {
			t.Errorf("Normal of Normal %s: got %+v, want %+v", x.text(), again, got)
		}
		l := nearTrace(r, 1+r.Intn(25))
		wantVerdicts(t, got.Formula, l, signs(x.verdicts(l)))
	}
	if shorter < 200 || full < 50 {
		t.Errorf("%d were shorter, %d were too many nodes: too few", shorter, full)
	}
}

func TestPromise9NormalOfGreatBounds(t *testing.T) {
	r := rand.New(rand.NewSource(93))
	for _, x := range rightTrees(600) {
		want, _ := shortTree(x)
		got := impl.Normal(x.formula())
		wantFormula(t, "Normal "+x.text(), got, want)
		l := nearTrace(r, 20)
		// Steps as far as the greatest bounds reach.
		for i := range l {
			l[i].Time = min(l[i].Time, 1000) * int64(i)
		}
		if got.Code == impl.OK {
			wantVerdicts(t, got.Formula, l, signs(x.verdicts(l)))
		}
	}
}

func TestPromise9NegateIsSoJustWhereItWasNot(t *testing.T) {
	for text, want := range map[string]string{
		"true":                     "(not true)",
		"p":                        "(not p)",
		"(not p)":                  "p",
		"(not true)":               "true",
		"(not (not p))":            "(not p)",
		"(not (not (not p)))":      "(not (not p))",
		"(and p p)":                "(not (and p p))",
		"(and true (not (not p)))": "(not (and true (not (not p))))",
		"(or p q)":                 "(not (or p q))",
		"(prev 0 5 p)":             "(not (prev 0 5 p))",
		"(once 0 5 true)":          "(not (once 0 5 true))",
		"(hist 1 * (not p))":       "(not (hist 1 * (not p)))",
		"(since 0 3 p true)":       "(not (since 0 3 p true))",
		"(not (since 0 3 q p))":    "(since 0 3 q p)",
		"(and (not p) (not p))":    "(not (and (not p) (not p)))",
		"(not (or (not p) p))":     "(or (not p) p)",
	} {
		f := formula(t, text)
		got := impl.Negate(f)
		wantWritten(t, "Negate "+text, got, want)
		// Of two FmNots at the top the second Negate takes off the other one, too.
		if !strings.HasPrefix(text, "(not (not ") {
			wantWritten(t, "Negate twice "+text, impl.Negate(got.Formula), text)
		}
		for _, l := range normTraces() {
			wantVerdicts(t, got.Formula, l, opposites(impl.Verdicts(f, l)))
		}
	}
}

func TestPromise9NegateOfAny(t *testing.T) {
	r := rand.New(rand.NewSource(94))
	for _, x := range normTrees(r, 1200) {
		want := negated(x)
		if x.kind == impl.FmNot {
			want = x.kids[0]
		}
		got := impl.Negate(x.formula())
		wantFormula(t, "Negate "+x.text(), got, want)
		if got.Code == impl.OK {
			l := nearTrace(r, 1+r.Intn(25))
			wantVerdicts(t, got.Formula, l, opposites(x.verdicts(l)))
		}
	}
}

func TestPromise9BothHoldWhereEachDoes(t *testing.T) {
	texts := []string{"true", "p", "q", "(not p)", "(not true)", "(and p q)", "(and q p)", "(or p q)", "(prev 0 5 p)",
		"(once 0 5 true)", "(once 1 3 p)", "(hist 0 2 q)", "(since 0 3 p q)", "(since 0 3 q (once 1 3 p))", "(and p p)", "(not (not p))"}
	for _, a := range texts {
		for _, b := range texts {
			// Nothing is in fewer words here: what is written so is what is told.
			f, g := formula(t, a), formula(t, b)
			got := impl.Both(f, g)
			wantWritten(t, "Both "+a+" "+b, got, "(and "+a+" "+b+")")
			for _, l := range normTraces()[2:6] {
				wantVerdicts(t, got.Formula, l, bothSigns(impl.Verdicts(f, l), impl.Verdicts(g, l)))
			}
		}
	}
}

func TestPromise9BothOfAny(t *testing.T) {
	r := rand.New(rand.NewSource(95))
	trees := normTrees(r, 1200)
	full := 0
	for i, a := range trees {
		b := trees[len(trees)-1-i]
		got := impl.Both(a.formula(), b.formula())
		wantFormula(t, "Both "+a.text()+" "+b.text(), got, bothTrees(a, b))
		if got.Code != impl.OK {
			full++
			continue
		}
		l := nearTrace(r, 1+r.Intn(25))
		wantVerdicts(t, got.Formula, l, bothSigns(a.verdicts(l), b.verdicts(l)))
	}
	if full < 50 {
		t.Errorf("%d were too many nodes: too few", full)
	}
}

// Parts that are alike are one node, and all stand in the order in which they are come to.
func TestPromise9PartsAlikeAreOneNode(t *testing.T) {
	f := formula(t, "(since 0 3 (not p) (and q r))")
	q := 2
	rows := map[string][3][]impl.Node{
		"both alike":         {f, f, append(slices.Clone(f), and(5, 5))},
		"one is a part":      {f, f[:2], append(slices.Clone(f), and(5, 1))},
		"a part comes ahead": {f[q : q+1], f, {atom("q"), atom("p"), not(1), atom("r"), and(0, 3), {Kind: impl.FmSince, High: 3, A: 2, B: 4}, and(0, 5)}},
		"an atom is shared":  {{atom("r"), not(0)}, {atom("q"), atom("r"), and(0, 1)}, {atom("r"), not(0), atom("q"), and(2, 0), and(1, 3)}},
		"nothing is shared":  {{atom("z")}, {atom("y")}, {atom("z"), atom("y"), and(0, 1)}},
	}
	for why, row := range rows {
		got := impl.Both(row[0], row[1])
		if !sameFormulaOut(got, impl.FormulaOut{Formula: row[2]}) {
			t.Errorf("Both, %s: got %+v, want %+v", why, got, row[2])
		}
	}
	// What comes in the end stands in an order of its own.
	short := impl.Normal(formula(t, "(and (since 0 * r true) (or p (and r q)))"))
	want := []impl.Node{atom("p"), not(0), atom("r"), atom("q"), and(2, 3), not(4), and(1, 5), not(6)}
	if !sameFormulaOut(short, impl.FormulaOut{Formula: want}) {
		t.Errorf("Normal: got %+v, want %+v", short, want)
	}
}

func TestPromise9Rename(t *testing.T) {
	for _, c := range []struct{ text, from, to, want string }{
		{"p", "p", "q", "q"},
		{"p", "p", "p", "p"},
		{"p", "q", "r", "p"},
		{"p", "q", "p", "p"},
		{"true", "p", "q", "true"},
		{"(not p)", "p", "z", "(not z)"},
		{"(and p q)", "p", "abcdefgh", "(and abcdefgh q)"},
		{"(and p q)", "q", "p", "(and p p)"},
		{"(and p q)", "p", "q", "(and q q)"},
		{"(or q p)", "p", "q", "(or q q)"},
		{"(and (not p) (not q))", "q", "p", "(and (not p) (not p))"},
		{"(or (prev 0 3 p) (and (prev 0 3 q) r))", "q", "p", "(or (prev 0 3 p) (and (prev 0 3 p) r))"},
		{"(and (once 1 2 (not q)) (and r (once 1 2 (not p))))", "p", "q", "(and (once 1 2 (not q)) (and r (once 1 2 (not q))))"},
		{"(since 0 3 p q)", "p", "q", "(since 0 3 q q)"},
		{"(hist 2 * (once 0 0 (prev 1 1 pq)))", "pq", "p", "(hist 2 * (once 0 0 (prev 1 1 p)))"},
		{"(not (not p))", "p", "o", "(not (not o))"},
		{"(and p pp)", "p", "pp", "(and pp pp)"},
		{"(and p pp)", "pp", "p", "(and p p)"},
		{"(and p pp)", "p", "ppp", "(and ppp pp)"},
		{"(and (and p q) (and q p))", "p", "q", "(and (and q q) (and q q))"},
	} {
		wantWritten(t, "Rename "+c.text+" "+c.from+" "+c.to, impl.Rename(formula(t, c.text), c.from, c.to), c.want)
	}
}

func TestPromise9RenameThereAndBack(t *testing.T) {
	r := rand.New(rand.NewSource(96))
	merged := 0
	for _, x := range normTrees(r, 1000) {
		f := x.formula()
		for _, from := range []string{"p", "q", "r", "zz"} {
			there := impl.Rename(f, from, "zz")
			wantFormula(t, "Rename "+x.text()+" "+from+" zz", there, renamedTree(x, from, "zz"))
			back := impl.Rename(there.Formula, "zz", from)
			if len(there.Formula) != len(f) || !sameFormulaOut(back, impl.FormulaOut{Formula: f}) {
				t.Errorf("Rename %s %s, and back: got %+v, want %+v", x.text(), from, back, f)
			}
			for _, to := range []string{"p", "q", "r"} {
				other := impl.Rename(f, from, to)
				wantFormula(t, "Rename "+x.text()+" "+from+" "+to, other, renamedTree(x, from, to))
				if len(other.Formula) < len(f) {
					merged++
				}
			}
		}
	}
	if merged < 500 {
		t.Errorf("%d had parts that became one node: too few", merged)
	}
}

// A formula of which a name is another one means over a trace of which it is, too, what it meant.
func TestPromise9RenameMeansTheSameOfTheOtherName(t *testing.T) {
	r := rand.New(rand.NewSource(97))
	for _, x := range normTrees(r, 300) {
		l := nearTrace(r, 1+r.Intn(25))
		renamed := copyTrace(l)
		for _, e := range renamed {
			for i, name := range e.Names {
				// Behind p and ahead of r, as q is.
				if name == "q" {
					e.Names[i] = "qqq"
				}
			}
		}
		wantVerdicts(t, impl.Rename(x.formula(), "q", "qqq").Formula, renamed, signs(x.verdicts(l)))
	}
}

func TestPromise9ManyNodesOfNormal(t *testing.T) {
	most := int(impl.MaxNodes)
	wantNodes(t, "onces, one less", impl.Normal(oncePile("p", most-1).formula()), most-1)
	wantNodes(t, "onces", impl.Normal(oncePile("p", most).formula()), most)
	for many := 17; many < most; many++ {
		// An atom, its FmNot, the FmOnces, and the FmNot of the last one.
		got := impl.Normal(histPile(many).formula())
		want, _ := shortTree(histPile(many))
		wantNodes(t, strconv.Itoa(many)+" hists", got, many+3)
		wantFormula(t, strconv.Itoa(many)+" hists", got, want)
	}
	for many := 5; many < most-2; many++ {
		pile := oncePile("p", many)
		// Both parts, their FmNots, the FmAnd and its FmNot come for them and the FmOr.
		either := tree{kind: impl.FmOr, kids: []tree{pile, {kind: impl.FmAtom, name: "q"}}}
		wantNodes(t, strconv.Itoa(many)+" onces or q", impl.Normal(either.formula()), many+5)
		alike := tree{kind: impl.FmOr, kids: []tree{pile, negated(negated(pile))}}
		wantNodes(t, strconv.Itoa(many)+" onces, or the same", impl.Normal(alike.formula()), many)
	}
	wantWritten(t, "ands", impl.Normal(twices(most)), "p")
	wantWritten(t, "nots", impl.Normal(nots(most)), "(not p)")
	wantWritten(t, "nots, one less", impl.Normal(nots(most-1)), "p")
}

// Of each node there comes up what it becomes, and the FmNot of that at most: of a right formula never more than 80.
func TestPromise9NodesOnTheWay(t *testing.T) {
	// Nothing of what is asked for between comes in the end.
	away := func(x tree) tree {
		return tree{kind: impl.FmSince, high: -1, kids: []tree{x, {kind: impl.FmTrue}}}
	}
	always := func(x tree) tree {
		return tree{kind: impl.FmHist, kids: []tree{x}}
	}
	greatest := 0
	for many := range impl.MaxNodes - 3 {
		for _, x := range []tree{away(histPile(many)), always(away(histPile(many))), histPile(many), away(away(histPile(many)))} {
			f := x.formula()
			if len(f) > impl.MaxNodes {
				continue
			}
			want, way := shortTree(x)
			wantFormula(t, "Normal "+x.text(), impl.Normal(f), want)
			if len(want.formula()) <= impl.MaxNodes {
				greatest = max(greatest, way)
			}
		}
	}
	if greatest != 46 {
		t.Errorf("%d came up, where the answer is short enough", greatest)
	}
	wantWritten(t, "the most", impl.Normal(always(away(histPile(20))).formula()), "(not (once 0 0 (not true)))")
	_, way := shortTree(histPile(impl.MaxNodes - 1))
	if way != 2*impl.MaxNodes {
		t.Errorf("of the greatest formula %d came up", way)
	}
	for _, x := range rightTrees(3000) {
		if _, way := shortTree(x); way > 2*len(x.formula()) {
			t.Errorf("%s: %d came up", x.text(), way)
		}
	}
}

func TestPromise9ManyNodesOfNegate(t *testing.T) {
	for many := 1; many <= impl.MaxNodes; many++ {
		wantNodes(t, "onces", impl.Negate(oncePile("p", many).formula()), many+1)
		wantNodes(t, "ands", impl.Negate(twices(many)), many+1)
		if many > 1 {
			wantNodes(t, "nots", impl.Negate(nots(many)), many-1)
		}
	}
}

func TestPromise9ManyNodesOfBoth(t *testing.T) {
	for many := 1; many <= impl.MaxNodes; many++ {
		f := oncePile("p", many).formula()
		wantNodes(t, "both alike", impl.Both(f, f), many+1)
		wantNodes(t, "a is a part of b", impl.Both(f[:1], f), many+1)
		wantNodes(t, "b is a part of a", impl.Both(f, f[:1+many/2]), many+1)
		for other := 1; other <= impl.MaxNodes; other++ {
			wantNodes(t, "nothing shared", impl.Both(f, oncePile("q", other).formula()), many+other+1)
			wantNodes(t, "all of one shared", impl.Both(f, oncePile("p", other).formula()), max(many, other)+1)
			if other > 1 {
				wantNodes(t, "an atom shared", impl.Both(f, nots(other)), many+other)
			}
		}
	}
}

// Rename never comes to more nodes than there were.
func TestPromise9ManyNodesOfRename(t *testing.T) {
	for many := 1; many <= impl.MaxNodes; many++ {
		f := oncePile("p", many).formula()
		for _, to := range []string{"p", "z"} {
			got := impl.Rename(f, "p", to)
			wantFormula(t, "onces", got, oncePile(to, many))
			wantNodes(t, "onces", got, many)
		}
		wantFormula(t, "onces of another name", impl.Rename(f, "q", "z"), oncePile("p", many))
	}
	pile := impl.MaxNodes / 2
	// Two piles less an FmAnd: all of one is all of the other, if the names are alike.
	f := bothTrees(oncePile("p", pile), oncePile("q", pile-1)).formula()
	wantNodes(t, "two piles", impl.Rename(f, "p", "z"), impl.MaxNodes)
	wantNodes(t, "two piles alike", impl.Rename(f, "q", "p"), pile+1)
	wantNodes(t, "two piles alike", impl.Rename(f, "p", "q"), pile+1)
}

// normCalls are all calls of the chapter, by what they are of besides.
func normCalls() map[string]func(f []impl.Node) impl.FormulaOut {
	other := []impl.Node{atom("p"), not(0)}
	return map[string]func(f []impl.Node) impl.FormulaOut{
		"Normal":           impl.Normal,
		"Negate":           impl.Negate,
		"Both, as a":       func(f []impl.Node) impl.FormulaOut { return impl.Both(f, other) },
		"Both, as b":       func(f []impl.Node) impl.FormulaOut { return impl.Both(other, f) },
		"Both, as both":    func(f []impl.Node) impl.FormulaOut { return impl.Both(f, f) },
		"Both, b is wrong": func(f []impl.Node) impl.FormulaOut { return impl.Both(f, nil) },
		"Both, a is wrong": func(f []impl.Node) impl.FormulaOut { return impl.Both([]impl.Node{{}}, f) },
		"Rename":           func(f []impl.Node) impl.FormulaOut { return impl.Rename(f, "p", "z") },
		"Rename, the same": func(f []impl.Node) impl.FormulaOut { return impl.Rename(f, "p", "p") },
		"Rename, not there": func(f []impl.Node) impl.FormulaOut {
			return impl.Rename(f, "z", "p")
		},
		"Rename, from no name": func(f []impl.Node) impl.FormulaOut { return impl.Rename(f, "", "z") },
		"Rename, to no name":   func(f []impl.Node) impl.FormulaOut { return impl.Rename(f, "p", "P") },
	}
}

func TestPromise9WrongFormulas(t *testing.T) {
	p, q, yes := atom("p"), atom("q"), impl.Node{Kind: impl.FmTrue}
	rows := map[string][]impl.Node{
		"none":               nil,
		"empty":              {},
		"no kind":            {{}},
		"a kind above":       {p, {Kind: impl.FmSince + 1}},
		"a wrong kind below": {{Kind: -1}, not(0)},
		"two alike":          {p, p, and(0, 1)},
		"none speaks of it":  {p, q, yes},
		"itself":             {p, and(0, 1)},
		"itself alone":       {not(0)},
		"a later one":        {p, not(2), not(0), and(1, 2)},
		"one below 0":        {p, not(-1)},
		"one behind the end": {p, not(2)},
		"another order":      {p, q, and(1, 0)},
		"Low below 0":        {p, once(-1, 5, 0)},
		"High below Low":     {p, {Kind: impl.FmHist, Low: 5, High: 4}},
		"High below -1":      {p, {Kind: impl.FmHist, Low: 0, High: -2}},
		"High too great":     {p, once(0, impl.MaxBound+1, 0)},
		"Low too great":      {p, once(impl.MaxBound+1, -1, 0)},
		"no name":            {atom("")},
		"a word as name":     {atom("true")},
		"true with a name":   {{Kind: impl.FmTrue, Name: "p"}},
		"a not with a name":  {p, {Kind: impl.FmNot, Name: "p"}},
		"true with a bound":  {{Kind: impl.FmTrue, High: -1}},
		"a not with a B":     {p, not(0), {Kind: impl.FmNot, A: 1, B: 1}},
		"an atom with an A":  {p, {Kind: impl.FmAtom, A: 1, Name: "q"}, and(0, 1)},
		"one node too many":  nots(impl.MaxNodes + 1),
		"ands, one too many": twices(impl.MaxNodes + 1),
		"MaxList nodes":      nots(impl.MaxList),
		"MaxList wrong ones": make([]impl.Node, impl.MaxList),
	}
	long := map[string][]impl.Node{
		"nodes":       nots(impl.MaxList + 1),
		"ands":        twices(impl.MaxList + 1),
		"wrong nodes": make([]impl.Node, impl.MaxList+1),
		"many more":   make([]impl.Node, 9*impl.MaxList),
	}
	for name, call := range normCalls() {
		for why, f := range rows {
			wantNoFormula(t, name+" of "+why, call(f), impl.ErrForm)
		}
		// As such a list of more than MaxList is refused ahead of all else.
		for why, f := range long {
			wantNoFormula(t, name+" of too many "+why, call(f), impl.ErrSize)
		}
	}
}

// Several faults at once: what is too long is named, wherever it stands.
func TestPromise9WhichFaultIsNamed(t *testing.T) {
	right, wrong, full := nots(3), []impl.Node{{}}, oncePile("p", impl.MaxNodes).formula()
	long, longWrong := nots(impl.MaxList+1), make([]impl.Node, impl.MaxList+1)
	name := strings.Repeat("p", impl.MaxBytes)
	for _, c := range []struct {
		why  string
		got  impl.FormulaOut
		code int64
	}{
		{"a is wrong, b too long", impl.Both(wrong, long), impl.ErrSize},
		{"a is too long, b wrong", impl.Both(long, wrong), impl.ErrSize},
		{"a is none, b too long and wrong", impl.Both(nil, longWrong), impl.ErrSize},
		{"a is full, b too long", impl.Both(full, long), impl.ErrSize},
		{"a is full, b wrong", impl.Both(full, wrong), impl.ErrForm},
		{"a is wrong, b full", impl.Both(wrong, full), impl.ErrForm},
		{"both are wrong", impl.Both(wrong, nil), impl.ErrForm},
		{"both are full", impl.Both(full, full), impl.ErrFull},
		{"b is full", impl.Both(right, full), impl.ErrFull},
		{"f is full", impl.Negate(full), impl.ErrFull},
		{"one node too many, and full", impl.Negate(oncePile("p", impl.MaxNodes+1).formula()), impl.ErrForm},
		{"hists, full", impl.Normal(histPile(impl.MaxNodes - 1).formula()), impl.ErrFull},
		{"hists, one node too many", impl.Normal(histPile(impl.MaxNodes).formula()), impl.ErrForm},
		{"f is too long, from no name", impl.Rename(long, "", "q"), impl.ErrSize},
		{"f is too long, to no name", impl.Rename(longWrong, "p", ""), impl.ErrSize},
		{"f is wrong, from no name", impl.Rename(wrong, "", "q"), impl.ErrForm},
		{"f is wrong, from of MaxBytes bytes", impl.Rename(wrong, name, "q"), impl.ErrForm},
		{"f is wrong, from too long", impl.Rename(wrong, name+"p", "q"), impl.ErrSize},
		{"f is wrong, to too long", impl.Rename(wrong, "p", name+"p"), impl.ErrSize},
		{"from is no name, to too long", impl.Rename(right, "", name+"p"), impl.ErrSize},
		{"from is too long, to no name", impl.Rename(right, name+"p", ""), impl.ErrSize},
		{"f, from and to are too long", impl.Rename(long, name+"p", name+"p"), impl.ErrSize},
		{"from and to are no names", impl.Rename(right, "", "true"), impl.ErrForm},
	} {
		wantNoFormula(t, c.why, c.got, c.code)
	}
}

func TestPromise9WrongNames(t *testing.T) {
	f := formula(t, "(and p (once 0 3 q))")
	name := strings.Repeat("p", impl.MaxBytes)
	wrong := map[string]int64{"": impl.ErrForm, "P": impl.ErrForm, "p1": impl.ErrForm, "p_": impl.ErrForm, " p": impl.ErrForm, "p ": impl.ErrForm,
		"abcdefghi": impl.ErrForm, "\u00e4": impl.ErrForm, "p\x00": impl.ErrForm, "(not p)": impl.ErrForm, "*": impl.ErrForm,
		name: impl.ErrForm, name + "p": impl.ErrSize, name + name: impl.ErrSize, strings.Repeat(" ", impl.MaxBytes+1): impl.ErrSize}
	for _, word := range treeWords() {
		wrong[word] = impl.ErrForm
	}
	for word, code := range wrong {
		wantNoFormula(t, "Rename from "+word[:min(len(word), 9)], impl.Rename(f, word, "q"), code)
		wantNoFormula(t, "Rename to "+word[:min(len(word), 9)], impl.Rename(f, "p", word), code)
		wantNoFormula(t, "Rename what is not there to "+word[:min(len(word), 9)], impl.Rename(f, "zz", word), code)
		wantNoFormula(t, "Rename to the same, "+word[:min(len(word), 9)], impl.Rename(f, word, word), code)
	}
	for _, word := range []string{"a", "z", "abcdefgh", "tru", "truee", "nota", "sinces"} {
		wantWritten(t, "Rename to "+word, impl.Rename(f, "p", word), "(and "+word+" (once 0 3 q))")
		wantWritten(t, "Rename from "+word, impl.Rename(f, word, "p"), "(and p (once 0 3 q))")
	}
}

// wantOwnNodes asks twice, and writes into one answer, then into what was handed in.
func wantOwnNodes(t *testing.T, what string, f []impl.Node, call func(f []impl.Node) impl.FormulaOut) {
	t.Helper()
	room := append(slices.Clone(f), impl.Node{Kind: 77}, impl.Node{Kind: 78}, impl.Node{Kind: 79})
	room = room[:cap(room)]
	f = room[:len(f)]
	kept := slices.Clone(room)
	first, second := call(f), call(f)
	told := slices.Clone(second.Formula)
	if !sameFormulaOut(first, second) {
		t.Errorf("%s: two answers of one call: %+v and %+v", what, first, second)
	}
	for i, x := range first.Formula {
		for _, y := range f {
			if inside(x.Name, y.Name) {
				t.Errorf("%s: node %d shares its Name", what, i)
			}
		}
		if inside(x.Name, second.Formula[i].Name) {
			t.Errorf("%s: node %d shares its Name with another answer", what, i)
		}
	}
	turnedNodes(first.Formula)
	if !sameFormula(room, kept) {
		t.Errorf("%s: what was handed in was turned: %+v, it was %+v", what, room, kept)
	}
	if !sameFormula(second.Formula, told) {
		t.Errorf("%s: written into one answer, another one was turned: %+v, it was %+v", what, second.Formula, told)
	}
	turnedNodes(room)
	if !sameFormula(second.Formula, told) {
		t.Errorf("%s: written into what was handed in, the answer was turned: %+v, it was %+v", what, second.Formula, told)
	}
}

func TestPromise9MemoryOfFormulas(t *testing.T) {
	texts := []string{"true", "p", "pqrs", "(not p)", "(not (not pqrs))", "(and p p)", "(and true pqrs)", "(or pqrs q)", "(hist 0 3 pqrs)",
		"(once 0 3 true)", "(since 0 3 (not pqrs) (prev 0 * q))", "(and (not pqrs) (or (not p) (hist 1 2 q)))", "(since 0 * pqrs true)"}
	for name, call := range normCalls() {
		for _, text := range texts {
			wantOwnNodes(t, name+" of "+text, formula(t, text), call)
		}
		wantOwnNodes(t, name+" of the most nodes", oncePile("p", impl.MaxNodes).formula(), call)
		wantOwnNodes(t, name+" of nots", nots(impl.MaxNodes), call)
		wantOwnNodes(t, name+" of a wrong one", []impl.Node{atom("p"), atom("p")}, call)
	}
}

func TestPromise9MemoryOfBothAndNames(t *testing.T) {
	a, b := formula(t, "(or pqrs q)"), formula(t, "(not (once 0 3 pqrs))")
	keptA, keptB := slices.Clone(a), slices.Clone(b)
	got := impl.Both(a, b)
	told := slices.Clone(got.Formula)
	if !sameFormula(a, keptA) || !sameFormula(b, keptB) {
		t.Errorf("Both turned what was handed in: %+v, %+v", a, b)
	}
	for _, x := range got.Formula {
		for _, y := range slices.Concat(a, b) {
			if inside(x.Name, y.Name) {
				t.Errorf("Both shares the Name %q", x.Name)
			}
		}
	}
	turnedNodes(a)
	turnedNodes(b)
	if !sameFormula(got.Formula, told) {
		t.Errorf("Both: written into what was handed in, the answer was turned: %+v", got.Formula)
	}
	from, to := strings.Clone("pqrs"), strings.Clone("toname")
	for _, word := range [][2]string{{from, to}, {to, from}, {from, from}} {
		for _, x := range impl.Rename(keptA, word[0], word[1]).Formula {
			if inside(x.Name, from) || inside(x.Name, to) {
				t.Errorf("Rename shares the Name %q with what was handed in", x.Name)
			}
		}
	}
}

// Nothing is kept: what was asked ahead, refused or not, turns no answer.
func TestPromise9NothingIsKept(t *testing.T) {
	f, full := formula(t, "(or p q)"), histPile(impl.MaxNodes-1).formula()
	for range 50 {
		wantNoFormula(t, "Normal, full", impl.Normal(full), impl.ErrFull)
		wantWritten(t, "Normal", impl.Normal(f), "(not (and (not p) (not q)))")
		wantNoFormula(t, "Both, full", impl.Both(full, f), impl.ErrFull)
		wantWritten(t, "Both", impl.Both(f, f), "(and (or p q) (or p q))")
		wantWritten(t, "Negate", impl.Negate(f), "(not (or p q))")
		wantWritten(t, "Rename", impl.Rename(f, "q", "p"), "(or p p)")
		wantNoFormula(t, "Rename, wrong", impl.Rename(f, "q", ""), impl.ErrForm)
	}
}
