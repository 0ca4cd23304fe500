package tests

import (
	"math"
	"math/rand"
	"reflect"
	"slices"
	"strconv"
	"strings"
	"testing"

	"loop.example/g00759/impl"
)

// tree is a formula as the table tells it, without any sharing.
type tree struct {
	kind int64
	low  int64
	high int64
	name string
	kids []tree
}

// treeWords are the words of the table, by kind.
func treeWords() map[int64]string {
	return map[int64]string{impl.FmTrue: "true", impl.FmNot: "not", impl.FmAnd: "and", impl.FmOr: "or",
		impl.FmPrev: "prev", impl.FmOnce: "once", impl.FmHist: "hist", impl.FmSince: "since"}
}

func treeKids(kind int64) int {
	switch kind {
	case impl.FmTrue, impl.FmAtom:
		return 0
	case impl.FmAnd, impl.FmOr, impl.FmSince:
		return 2
	}
	return 1
}

func treeBound(kind int64) bool {
	return kind >= impl.FmPrev
}

func (x tree) text() string {
	if x.kind == impl.FmAtom {
		return x.name
	}
	words := []string{treeWords()[x.kind]}
	if treeBound(x.kind) {
		words = append(words, strconv.FormatInt(x.low, 10), strings.Replace(strconv.FormatInt(x.high, 10), "-1", "*", 1))
	}
	for _, kid := range x.kids {
		words = append(words, kid.text())
	}
	if len(x.kids) == 0 {
		return words[0]
	}
	return "(" + strings.Join(words, " ") + ")"
}

func (x tree) depth() int64 {
	var most int64
	for _, kid := range x.kids {
		most = max(most, kid.depth())
	}
	return most + 1
}

// rows puts the tree behind what stands in f, and tells its place; parts of one text are one node.
func (x tree) rows(f []impl.Node, texts []string) ([]impl.Node, []string, int64) {
	row := impl.Node{Kind: x.kind, Low: x.low, High: x.high, Name: x.name}
	for i, kid := range x.kids {
		var at int64
		f, texts, at = kid.rows(f, texts)
		if i == 0 {
			row.A = at
		} else {
			row.B = at
		}
	}
	if at := slices.Index(texts, x.text()); at >= 0 {
		return f, texts, int64(at)
	}
	return append(f, row), append(texts, x.text()), int64(len(f))
}

func (x tree) formula() []impl.Node {
	f, _, _ := x.rows(nil, nil)
	return f
}

// parts are the tree and all within it.
func (x tree) parts() []tree {
	all := []tree{x}
	for _, kid := range x.kids {
		all = append(all, kid.parts()...)
	}
	return all
}

func anyTree(r *rand.Rand, deep int) tree {
	kind := int64(r.Intn(impl.FmSince) + 1)
	if deep <= 1 {
		kind = int64(r.Intn(2) + 1)
	}
	x := tree{kind: kind}
	if kind == impl.FmAtom {
		names := []string{"p", "q", "r", "abcdefgh", "o", "ofp", "tru", "nots"}
		x.name = names[r.Intn(len(names))]
	}
	if treeBound(kind) {
		lows := []int64{0, 1, 2, 9, 10, 999, impl.MaxBound}
		x.low = lows[r.Intn(len(lows))]
		highs := []int64{-1, x.low, impl.MaxBound, min(x.low+1, impl.MaxBound)}
		x.high = highs[r.Intn(len(highs))]
	}
	for range treeKids(kind) {
		x.kids = append(x.kids, anyTree(r, deep-1))
	}
	return x
}

// rightTrees are of all kinds, and of at most MaxNodes nodes each.
func rightTrees(many int) []tree {
	r := rand.New(rand.NewSource(3))
	var all []tree
	for len(all) < many {
		x := anyTree(r, 1+r.Intn(6))
		if len(x.formula()) <= impl.MaxNodes {
			all = append(all, x)
		}
	}
	return all
}

func atom(name string) impl.Node {
	return impl.Node{Kind: impl.FmAtom, Name: name}
}

func not(a int64) impl.Node {
	return impl.Node{Kind: impl.FmNot, A: a}
}

func and(a int64, b int64) impl.Node {
	return impl.Node{Kind: impl.FmAnd, A: a, B: b}
}

func once(low int64, high int64, a int64) impl.Node {
	return impl.Node{Kind: impl.FmOnce, Low: low, High: high, A: a}
}

// nots is an atom below so many nodes that it has that many in all.
func nots(many int) []impl.Node {
	f := []impl.Node{atom("p")}
	for len(f) < many {
		f = append(f, not(int64(len(f)-1)))
	}
	return f
}

// twices has of each node but the first one both parts the same one ahead.
func twices(many int) []impl.Node {
	f := []impl.Node{atom("p")}
	for len(f) < many {
		f = append(f, and(int64(len(f)-1), int64(len(f)-1)))
	}
	return f
}

func sameFormula(a []impl.Node, b []impl.Node) bool {
	return slices.Equal(a, b)
}

func wantRead(t *testing.T, text string, want []impl.Node) {
	t.Helper()
	got := impl.FormulaRead(text)
	if got.Code != impl.OK || !sameFormula(got.Formula, want) {
		t.Errorf("FormulaRead(%.80q): got %+v, want %+v", text, got, want)
	}
}

func wantUnread(t *testing.T, text string, code int64) {
	t.Helper()
	got := impl.FormulaRead(text)
	if got.Code != code || len(got.Formula) != 0 {
		t.Errorf("FormulaRead(%.80q): got %+v, want code %d", text, got, code)
	}
}

// wantWrong holds all calls of a formula to their answers for one that is not right.
func wantWrong(t *testing.T, why string, f []impl.Node) {
	t.Helper()
	if impl.FormulaRight(f) {
		t.Errorf("%s: FormulaRight of %+v", why, f)
	}
	if text := impl.FormulaText(f); text != "" {
		t.Errorf("%s: FormulaText tells %.80q", why, text)
	}
	if depth := impl.DepthOf(f); depth != 0 {
		t.Errorf("%s: DepthOf tells %d", why, depth)
	}
	if names := impl.AtomsOf(f); len(names) != 0 {
		t.Errorf("%s: AtomsOf tells %q", why, names)
	}
	if bound := impl.BoundOf(f); bound != -1 {
		t.Errorf("%s: BoundOf tells %d", why, bound)
	}
	for i := int64(-1); i <= int64(min(len(f), impl.MaxNodes)); i++ {
		if part := impl.PartOf(f, i); len(part) != 0 {
			t.Errorf("%s: PartOf %d tells %+v", why, i, part)
		}
	}
}

func TestConstantsOfChapter3(t *testing.T) {
	kinds := [...]int64{impl.FmTrue, impl.FmAtom, impl.FmNot, impl.FmAnd, impl.FmOr, impl.FmPrev, impl.FmOnce,
		impl.FmHist, impl.FmSince, impl.MaxNodes, impl.MaxBound}
	if kinds != [...]int64{1, 2, 3, 4, 5, 6, 7, 8, 9, 24, 1000} {
		t.Errorf("constants: got %v", kinds)
	}
}

func TestPromise3Words(t *testing.T) {
	for _, word := range []string{"a", "z", "p", "tru", "truer", "nots", "an", "andor", "onces", "sinc", "watch", "abcdefgh", "zzzzzzzz"} {
		if !impl.WordRight(word) {
			t.Errorf("WordRight(%q): got no", word)
		}
	}
	for _, word := range []string{"", "abcdefghi", "P", "aB", "p1", "1", "_", "a_b", "p ", " p", "a-b", "p\n", "p\x00", "`", "{", "é", "p\xff",
		"true", "not", "and", "or", "prev", "once", "hist", "since",
		strings.Repeat("a", impl.MaxBytes), strings.Repeat("a", impl.MaxBytes+1)} {
		if impl.WordRight(word) {
			t.Errorf("WordRight(%.40q): got yes", word)
		}
	}
}

func TestPromise3EachKind(t *testing.T) {
	p, q := atom("p"), atom("q")
	kinds := map[string][]impl.Node{
		"true":                    {{Kind: impl.FmTrue}},
		"p":                       {p},
		"(not p)":                 {p, not(0)},
		"(not true)":              {{Kind: impl.FmTrue}, not(0)},
		"(and p q)":               {p, q, and(0, 1)},
		"(or p q)":                {p, q, {Kind: impl.FmOr, A: 0, B: 1}},
		"(prev 0 * p)":            {p, {Kind: impl.FmPrev, Low: 0, High: -1}},
		"(once 1 3 p)":            {p, once(1, 3, 0)},
		"(hist 1000 1000 p)":      {p, {Kind: impl.FmHist, Low: 1000, High: 1000}},
		"(since 0 0 p q)":         {p, q, {Kind: impl.FmSince, A: 0, B: 1}},
		"(since 7 * p p)":         {p, {Kind: impl.FmSince, Low: 7, High: -1}},
		"(and p p)":               {p, and(0, 0)},
		"(and (not p) (not p))":   {p, not(0), and(1, 1)},
		"(and (or p q) (or q p))": {p, q, {Kind: impl.FmOr, A: 0, B: 1}, {Kind: impl.FmOr, A: 1, B: 0}, and(2, 3)},
		"(and q (and p q))":       {q, p, and(1, 0), and(0, 2)},
	}
	for text, f := range kinds {
		wantRead(t, text, f)
		if !impl.FormulaRight(f) || impl.FormulaText(f) != text {
			t.Errorf("%s: FormulaRight %t, FormulaText %q", text, impl.FormulaRight(f), impl.FormulaText(f))
		}
	}
}

func TestPromise3ThereAndBack(t *testing.T) {
	for _, x := range rightTrees(3000) {
		f, text := x.formula(), x.text()
		if !impl.FormulaRight(f) || impl.FormulaText(f) != text {
			t.Fatalf("%s: FormulaRight %t, FormulaText %q", text, impl.FormulaRight(f), impl.FormulaText(f))
		}
		wantRead(t, text, f)
		if got := impl.DepthOf(f); got != x.depth() {
			t.Errorf("DepthOf %s: got %d, want %d", text, got, x.depth())
		}
		wantTold(t, x)
		wantParts(t, x)
	}
}

// wantTold holds AtomsOf and BoundOf to what stands in the tree.
func wantTold(t *testing.T, x tree) {
	t.Helper()
	names := []string{}
	var bound int64
	for _, part := range x.parts() {
		if part.kind == impl.FmAtom && !slices.Contains(names, part.name) {
			names = append(names, part.name)
		}
		reach := part.high
		if reach == -1 {
			reach = part.low
		}
		bound = max(bound, reach)
	}
	slices.Sort(names)
	if got := impl.AtomsOf(x.formula()); !slices.Equal(got, names) {
		t.Errorf("AtomsOf %s: got %q, want %q", x.text(), got, names)
	}
	if got := impl.BoundOf(x.formula()); got != bound {
		t.Errorf("BoundOf %s: got %d, want %d", x.text(), got, bound)
	}
}

// wantParts holds PartOf, of each place, to what the tree has there.
func wantParts(t *testing.T, x tree) {
	t.Helper()
	f, texts, _ := x.rows(nil, nil)
	for _, part := range x.parts() {
		at := int64(slices.Index(texts, part.text()))
		got := impl.PartOf(f, at)
		if !sameFormula(got, part.formula()) || !impl.FormulaRight(got) {
			t.Errorf("PartOf %s at %d: got %+v", x.text(), at, got)
		}
		if impl.DepthOf(got) > impl.DepthOf(f) || impl.FormulaText(got) != part.text() {
			t.Errorf("PartOf %s at %d: it tells %q", x.text(), at, impl.FormulaText(got))
		}
	}
	for _, at := range []int64{-1, math.MinInt64, int64(len(f)), int64(len(f)) + 1, math.MaxInt64} {
		if got := impl.PartOf(f, at); len(got) != 0 {
			t.Errorf("PartOf %s at %d: got %+v", x.text(), at, got)
		}
	}
}

func TestPromise3PartInItsOwnOrder(t *testing.T) {
	f := impl.FormulaRead("(and (not p) (and q p))").Formula
	want := []impl.Node{atom("q"), atom("p"), and(0, 1)}
	if got := impl.PartOf(f, 3); !sameFormula(got, want) {
		t.Errorf("got %+v, want %+v", got, want)
	}
}

func TestPromise3Depth(t *testing.T) {
	depths := map[string]int64{"true": 1, "p": 1, "(not p)": 2, "(and p (not p))": 3, "(and (not p) p)": 3,
		"(since 0 * p (prev 0 1 (once 0 2 q)))": 4}
	for text, want := range depths {
		if got := impl.DepthOf(impl.FormulaRead(text).Formula); got != want {
			t.Errorf("DepthOf %s: got %d, want %d", text, got, want)
		}
	}
}

func TestPromise3Atoms(t *testing.T) {
	atoms := map[string][]string{"true": nil, "(or b a)": {"a", "b"}, "(or ab a)": {"a", "ab"},
		"(and (or z b) (or b (not true)))": {"b", "z"}}
	for text, want := range atoms {
		if got := impl.AtomsOf(impl.FormulaRead(text).Formula); !slices.Equal(got, want) {
			t.Errorf("AtomsOf %s: got %q, want %q", text, got, want)
		}
	}
}

func TestPromise3Bound(t *testing.T) {
	bounds := map[string]int64{"true": 0, "(not p)": 0, "(once 0 0 p)": 0, "(once 0 * p)": 0, "(once 5 * p)": 5,
		"(prev 1 2 p)": 2, "(hist 1 1000 p)": 1000, "(since 3 4 p q)": 4, "(since 1000 * p q)": 1000,
		"(and (once 5 * p) (once 0 3 p))": 5, "(and (once 0 3 p) (once 1 * p))": 3}
	for text, want := range bounds {
		if got := impl.BoundOf(impl.FormulaRead(text).Formula); got != want {
			t.Errorf("BoundOf %s: got %d, want %d", text, got, want)
		}
	}
}

func TestPromise3Nodes(t *testing.T) {
	for _, many := range []int{1, 2, impl.MaxNodes - 1, impl.MaxNodes} {
		f := nots(many)
		text := strings.Repeat("(not ", many-1) + "p" + strings.Repeat(")", many-1)
		if !impl.FormulaRight(f) || impl.FormulaText(f) != text || impl.DepthOf(f) != int64(many) {
			t.Errorf("%d nodes: FormulaRight %t, text %q, depth %d", many, impl.FormulaRight(f), impl.FormulaText(f), impl.DepthOf(f))
		}
		wantRead(t, text, f)
	}
	wantWrong(t, "none", nil)
	wantWrong(t, "empty", []impl.Node{})
	for _, many := range []int{impl.MaxNodes + 1, impl.MaxList, impl.MaxList + 1} {
		wantWrong(t, strconv.Itoa(many)+" nodes", nots(many))
		wantUnread(t, strings.Repeat("(not ", many-1)+"p"+strings.Repeat(")", many-1), impl.ErrSyntax)
	}
}

// A part that is spoken of often stands in the text as often, whatever the length of that.
func TestPromise3LongText(t *testing.T) {
	f := twices(impl.MaxNodes)
	text := impl.FormulaText(f)
	if want := 8<<(impl.MaxNodes-1) - 7; len(text) != want {
		t.Fatalf("%d bytes, want %d", len(text), want)
	}
	if got := impl.DepthOf(f); got != impl.MaxNodes {
		t.Errorf("DepthOf: got %d", got)
	}
	if !sameFormula(impl.PartOf(f, impl.MaxNodes-2), twices(impl.MaxNodes-1)) {
		t.Errorf("PartOf is not what it is of")
	}
	wantUnread(t, text, impl.ErrSize)
	short := twices(10)
	wantRead(t, impl.FormulaText(short), short)
}

// fullText has MaxBytes bytes, and few nodes, because most of its parts are alike.
func fullText() string {
	text := impl.FormulaText(twices(10))
	for _, many := range []int{9, 8, 7, 6, 4} {
		text = "(or " + text + " " + impl.FormulaText(twices(many)) + ")"
	}
	return "(not (not " + text + "))"
}

func TestPromise3TextSize(t *testing.T) {
	full := fullText()
	if len(full) != impl.MaxBytes {
		t.Fatalf("%d bytes", len(full))
	}
	got := impl.FormulaRead(full)
	if got.Code != impl.OK || impl.FormulaText(got.Formula) != full {
		t.Errorf("a text of MaxBytes: code %d, %d nodes", got.Code, len(got.Formula))
	}
	wantUnread(t, full+")", impl.ErrSize)
	wantUnread(t, full+" ", impl.ErrSize)
	wantUnread(t, strings.Replace(full, "p", "pp", 1), impl.ErrSize)
	wantUnread(t, strings.Repeat("(", impl.MaxBytes), impl.ErrSyntax)
	wantUnread(t, strings.Repeat("(", impl.MaxBytes+1), impl.ErrSize)
	wantUnread(t, strings.Repeat("(not ", impl.MaxBytes/5), impl.ErrSyntax)
	wantUnread(t, strings.Repeat("p", impl.MaxBytes), impl.ErrSyntax)
}

func TestPromise3BoundsAtTheirEdges(t *testing.T) {
	right := [][2]int64{{0, -1}, {0, 0}, {0, impl.MaxBound}, {impl.MaxBound, -1}, {impl.MaxBound, impl.MaxBound}, {5, 5}, {5, 6}}
	wrong := [][2]int64{{-1, -1}, {-1, 0}, {0, -2}, {0, impl.MaxBound + 1}, {impl.MaxBound + 1, -1},
		{impl.MaxBound + 1, impl.MaxBound + 1}, {5, 4}, {impl.MaxBound, impl.MaxBound - 1}, {1, 0},
		{math.MinInt64, -1}, {math.MaxInt64, -1}, {0, math.MaxInt64}, {0, math.MinInt64}}
	for kind := int64(impl.FmPrev); kind <= impl.FmSince; kind++ {
		for _, b := range right {
			f := []impl.Node{atom("p"), {Kind: kind, Low: b[0], High: b[1]}}
			if !impl.FormulaRight(f) {
				t.Errorf("kind %d with %v: not right", kind, b)
			}
			wantRead(t, impl.FormulaText(f), f)
		}
		for _, b := range wrong {
			wantWrong(t, "bounds", []impl.Node{atom("p"), {Kind: kind, Low: b[0], High: b[1]}})
		}
	}
}

func TestPromise3WrongRows(t *testing.T) {
	p, q := atom("p"), atom("q")
	yes := impl.Node{Kind: impl.FmTrue}
	rows := map[string][]impl.Node{
		"two alike":                {p, p, and(0, 1)},
		"two alike, far apart":     {p, not(0), not(1), not(0), and(2, 3)},
		"the last one twice":       {p, not(0), not(0)},
		"none speaks of it":        {p, q, not(1)},
		"only by its zero A":       {p, yes},
		"only by an atom's zero A": {p, q},
		"only by a zero B":         {p, q, not(1), not(2)},
		"itself":                   {p, not(1)},
		"a later one":              {p, not(2), not(0), and(1, 2)},
		"one behind the end":       {p, not(2)},
		"one far behind":           {p, not(math.MaxInt64)},
		"one below 0":              {p, not(-1)},
		"one far below":            {p, not(math.MinInt64)},
		"B itself":                 {p, and(0, 1)},
		"B below 0":                {p, and(0, -1)},
		"B and A turned":           {p, q, and(1, 0)},
		"another order":            {p, q, not(1), and(0, 2), and(2, 3)},
		"parts turned":             {p, not(0), q, not(2), and(3, 1)},
		"no kind":                  {{}},
		"a kind below":             {{Kind: -1}},
		"a kind above":             {{Kind: impl.FmSince + 1}},
		"a kind far above":         {{Kind: math.MaxInt64}},
		"a wrong kind on top":      {p, {Kind: impl.FmSince + 1}},
		"a wrong kind below":       {{Kind: 0}, not(0)},
		"a name of none":           {atom("")},
		"a name of nine":           {atom("abcdefghi")},
		"a word of the table":      {atom("once")},
		"a great letter":           {atom("P")},
		"a digit":                  {atom("p1")},
		"a name not right below":   {atom("true"), not(0)},
	}
	for why, f := range rows {
		wantWrong(t, why, f)
	}
}

// namedFields tells which fields a kind has: A, B, bounds, Name.
func namedFields(kind int64) [4]bool {
	return [4]bool{treeKids(kind) > 0, treeKids(kind) > 1, treeBound(kind), kind == impl.FmAtom}
}

func TestPromise3FieldsNotNamed(t *testing.T) {
	for kind := int64(impl.FmTrue); kind <= impl.FmSince; kind++ {
		base := []impl.Node{atom("p"), not(0), {Kind: kind}}
		named := namedFields(kind)
		if named[0] {
			base[2].A = 1
		}
		if named[1] {
			base[2].B = 1
		}
		if named[3] {
			base[2].Name = "q"
		}
		if !named[0] {
			base = base[2:]
		}
		if !impl.FormulaRight(base) {
			t.Fatalf("kind %d: %+v is not right", kind, base)
		}
		last := len(base) - 1
		for field, turn := range []func(*impl.Node){
			func(x *impl.Node) { x.A = 1 }, func(x *impl.Node) { x.B = 1 },
			func(x *impl.Node) { x.Low, x.High = 1, 1 }, func(x *impl.Node) { x.Name = "q" },
		} {
			f := slices.Clone(base)
			turn(&f[last])
			if !named[field] {
				wantWrong(t, "a field that is not named", f)
			}
		}
		if !named[2] {
			for _, turn := range []impl.Node{{Low: 1}, {High: 1}, {High: -1}, {Low: -1}} {
				f := slices.Clone(base)
				f[last].Low, f[last].High = turn.Low, turn.High
				wantWrong(t, "bounds that are not named", f)
			}
		}
	}
}

func plainWord(word string) bool {
	for _, own := range treeWords() {
		if word == own {
			return false
		}
	}
	return len(word) >= 1 && len(word) <= 8 && strings.Trim(word, "abcdefghijklmnopqrstuvwxyz") == ""
}

// treeOf goes back to a tree, and tells no, where a node is not right as such.
func treeOf(f []impl.Node, at int) (tree, bool) {
	x := f[at]
	made := tree{kind: x.Kind, low: x.Low, high: x.High, name: x.Name}
	if x.Kind < impl.FmTrue || x.Kind > impl.FmSince {
		return made, false
	}
	named := namedFields(x.Kind)
	if !named[0] && x.A != 0 || !named[1] && x.B != 0 || !named[2] && (x.Low != 0 || x.High != 0) || !named[3] && x.Name != "" {
		return made, false
	}
	if named[3] && !plainWord(x.Name) {
		return made, false
	}
	if named[2] && (x.Low < 0 || x.Low > impl.MaxBound || x.High < -1 || x.High > impl.MaxBound || x.High >= 0 && x.High < x.Low) {
		return made, false
	}
	for _, kid := range []int64{x.A, x.B}[:treeKids(x.Kind)] {
		if kid < 0 || kid >= int64(at) {
			return made, false
		}
		below, ok := treeOf(f, int(kid))
		if !ok {
			return made, false
		}
		made.kids = append(made.kids, below)
	}
	return made, true
}

// A row of nodes is right just if the tree of its last one, put in a row anew, is the same.
func TestPromise3RightByRule(t *testing.T) {
	r := rand.New(rand.NewSource(4))
	rights, wrongs := 0, 0
	for _, x := range rightTrees(400) {
		for range 40 {
			f := turnedRow(r, x.formula())
			made, ok := treeOf(f, len(f)-1)
			want := ok && len(f) <= impl.MaxNodes && sameFormula(made.formula(), f)
			if got := impl.FormulaRight(f); got != want {
				t.Errorf("FormulaRight %+v: got %t", f, got)
			}
			if want {
				rights++
			} else {
				wrongs++
			}
		}
	}
	if rights < 500 || wrongs < 500 {
		t.Errorf("%d right, %d wrong: too few", rights, wrongs)
	}
}

func turnedRow(r *rand.Rand, f []impl.Node) []impl.Node {
	i, j := r.Intn(len(f)), r.Intn(len(f))
	step := int64(r.Intn(3) - 1)
	switch r.Intn(8) {
	case 0:
		f[i].Kind += step
	case 1:
		f[i].A += step
	case 2:
		f[i].B += step
	case 3:
		f[i].Low += step
	case 4:
		f[i].High += step
	case 5:
		f[i], f[j] = f[j], f[i]
	case 6:
		f = f[:i+1]
	case 7:
		f = append(f, f[i])
	}
	return f
}

func TestPromise3WrongTexts(t *testing.T) {
	texts := []string{"", " ", "(", ")", "()", "( )", "*", "0", "1", "P", "p1", "p_", "abcdefghi", "é",
		"once", "not", "and", "or", "prev", "hist", "since", "(true)", "(true p)", "(true true)", "(p)", "(p q)", "(atom p)", "(not)", "(and)",
		" p", "p ", "p\n", "p\x00", "p p", "p)", "(p", "true)", "true true", "True", "truetrue(",
		"(not p", "(not p))", "((not p)", "((not p))", "(not p) ", " (not p)", "(not p)p", "(not p) p", "(not p)(not p)",
		"(not  p)", "( not p)", "(not p )", "(not\tp)", "(not\np)", "(not p\n)", "(not", "(not ", "(notp)", "(not(not p))", "(Not p)", "(NOT p)",
		"(not p q)", "(and p)", "(and p q r)", "(and p  q)", "(and p q )", "(and pq)", "(and p,q)", "(or p (not q)",
		"(and (not p)(not q))", "(and p(not q))", "(and (not p) once)",
		"(once p)", "(once 0 p)", "(once 0 0)", "(once 0 0 0 p)", "(once 0 0 p q)", "(once 0  0 p)", "(once  0 0 p)", "(once 0 0  p)",
		"(once00 p)", "(once 0 0p)", "(once 0 0 p", "(once 0* p)", "(once 0 *p)", "(once 0 ** p)", "(once * * p)", "(once * 0 p)", "(once 0 -1 p)", "(once -1 -1 p)", "(once -0 0 p)",
		"(once 00 0 p)", "(once 0 00 p)", "(once 01 2 p)", "(once 1 02 p)", "(once +1 2 p)", "(once 1 +2 p)", "(once 1.0 2 p)", "(once 1_0 20 p)", "(once 0x1 2 p)",
		"(once 3 2 p)", "(once 1001 * p)", "(once 0 1001 p)", "(once 1001 1001 p)", "(once 0 99999999999999999999 p)",
		"(once 18446744073709551616 * p)", "(once 0 18446744073709551616 p)", "(once a b p)", "(prev p)", "(hist p)", "(hist 2 1 p)", "(prev 2 1 p)",
		"(since 0 * p)", "(since p q)", "(since 0 p q)", "(since 0 * p q r)", "(since 1 0 p q)", "(since 0 * p  q)", "(since 0 * pq)",
		"(not 0 1 p)", "(and 0 * p q)", "(true 0 1 p)", "(not abcdefghi)", "(not p1)", "(not P)", "(not )", "(not ())", "(not é)", "(not p\xff)",
	}
	for _, text := range texts {
		wantUnread(t, text, impl.ErrSyntax)
	}
}

// readLoosely takes blanks and noughts as they come; told again, only a right text is what it was.
func readLoosely(words []string) (tree, []string, bool) {
	if len(words) == 0 {
		return tree{}, nil, false
	}
	head, words := words[0], words[1:]
	if head == "true" {
		return tree{kind: impl.FmTrue}, words, true
	}
	if head != "(" {
		return tree{kind: impl.FmAtom, name: head}, words, plainWord(head)
	}
	return bracketLoosely(words)
}

func bracketLoosely(words []string) (tree, []string, bool) {
	var x tree
	for kind, own := range treeWords() {
		if len(words) > 0 && own == words[0] && kind != impl.FmTrue {
			x.kind = kind
		}
	}
	if x.kind == 0 {
		return x, nil, false
	}
	words = words[1:]
	if treeBound(x.kind) {
		if len(words) < 2 {
			return x, nil, false
		}
		low, errLow := strconv.Atoi(words[0])
		high, errHigh := strconv.Atoi(strings.Replace(words[1], "*", "-1", 1))
		x.low, x.high = int64(low), int64(high)
		if errLow != nil || errHigh != nil || low < 0 || low > impl.MaxBound || high > impl.MaxBound || high < -1 || high >= 0 && high < low {
			return x, nil, false
		}
		words = words[2:]
	}
	for range treeKids(x.kind) {
		kid, rest, ok := readLoosely(words)
		if !ok {
			return x, nil, false
		}
		x.kids, words = append(x.kids, kid), rest
	}
	if len(words) == 0 || words[0] != ")" {
		return x, nil, false
	}
	return x, words[1:], true
}

// formulaOfText is found by another way than the program's.
func formulaOfText(text string) ([]impl.Node, bool) {
	words := strings.Fields(strings.ReplaceAll(strings.ReplaceAll(text, "(", " ( "), ")", " ) "))
	x, rest, ok := readLoosely(words)
	if !ok || len(rest) > 0 || x.text() != text || len(x.formula()) > impl.MaxNodes {
		return nil, false
	}
	return x.formula(), true
}

func TestPromise3TurnedTexts(t *testing.T) {
	r := rand.New(rand.NewSource(5))
	pool := "()  *0129apz\n\x80"
	rights, wrongs := 0, 0
	for _, x := range rightTrees(300) {
		for range 60 {
			text := turnedText(r, x.text(), pool)
			if len(text) > impl.MaxBytes {
				continue
			}
			if f, ok := formulaOfText(text); ok {
				wantRead(t, text, f)
				rights++
			} else {
				wantUnread(t, text, impl.ErrSyntax)
				wrongs++
			}
		}
	}
	if rights < 500 || wrongs < 500 {
		t.Errorf("%d right, %d wrong: too few", rights, wrongs)
	}
}

func turnedText(r *rand.Rand, text string, pool string) string {
	at := r.Intn(len(text))
	b := string(pool[r.Intn(len(pool))])
	switch r.Intn(3) {
	case 0:
		return text[:at] + b + text[at:]
	case 1:
		return text[:at] + text[at+1:]
	}
	return text[:at] + b + text[at+1:]
}

// What is handed in stays, and what is told shares no memory with it, nor with what was told ahead.
func TestPromise3MemoryOfFormulas(t *testing.T) {
	text := "(and (not pqr) (since 1 3 st pqr))"
	f := impl.FormulaRead(text).Formula
	kept := slices.Clone(f)
	part := impl.PartOf(f, int64(len(f)-1))
	names := impl.AtomsOf(f)
	for i := range part {
		if inside(part[i].Name, f[i].Name) || inside(f[i].Name, text) {
			t.Errorf("node %d shares its Name", i)
		}
		part[i] = impl.Node{}
	}
	names[0] = "x"
	if atom := impl.FormulaText(f[:1]); inside(atom, f[0].Name) {
		t.Errorf("FormulaText shares the Name")
	}
	if !sameFormula(f, kept) || !sameFormula(impl.FormulaRead(text).Formula, kept) {
		t.Errorf("the formula was turned")
	}
	if got := impl.AtomsOf(f); !reflect.DeepEqual(got, []string{"pqr", "st"}) || inside(got[0], f[0].Name) {
		t.Errorf("AtomsOf: got %q, or its memory", got)
	}
}
