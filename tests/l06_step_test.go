package tests

import (
	"math"
	"math/rand"
	"slices"
	"strconv"
	"strings"
	"testing"

	"loop.example/g00759/impl"
)

func sameCell(a impl.Cell, b impl.Cell) bool {
	return a.Was == b.Was && sameKeep(a.Keep, b.Keep)
}

func sameMonitor(a impl.Monitor, b impl.Monitor) bool {
	return sameFormula(a.Formula, b.Formula) && a.Count == b.Count && a.Now == b.Now && slices.EqualFunc(a.Cells, b.Cells, sameCell)
}

func sameMonOut(a impl.MonOut, b impl.MonOut) bool {
	return sameMonitor(a.Monitor, b.Monitor) && a.Verdict == b.Verdict && slices.Equal(a.All, b.All) && a.Code == b.Code
}

func copyMonitor(m impl.Monitor) impl.Monitor {
	m.Formula = slices.Clone(m.Formula)
	m.Cells = slices.Clone(m.Cells)
	for i := range m.Cells {
		m.Cells[i].Keep.Times = slices.Clone(m.Cells[i].Keep.Times)
	}
	return m
}

func copyMonOut(o impl.MonOut) impl.MonOut {
	o.Monitor = copyMonitor(o.Monitor)
	o.All = slices.Clone(o.All)
	return o
}

// kindKeeps tells which kinds keep times.
func kindKeeps(kind int64) bool {
	return kind == impl.FmOnce || kind == impl.FmHist || kind == impl.FmSince
}

// monByRule asks for what the chapter names, cell by cell.
func monByRule(m impl.Monitor) bool {
	if !impl.FormulaRight(m.Formula) || len(m.Cells) != len(m.Formula) {
		return false
	}
	if m.Count < 0 || m.Count > 1000000 || !timeByRule(m.Now) || m.Count == 0 && m.Now != 0 {
		return false
	}
	for i, x := range m.Formula {
		c := m.Cells[i]
		if c.Was && (x.Kind != impl.FmPrev || m.Count == 0) {
			return false
		}
		if !kindKeeps(x.Kind) {
			if !sameKeep(c.Keep, impl.Keep{}) {
				return false
			}
			continue
		}
		if !keepByRule(c.Keep) || c.Keep.Low != x.Low || c.Keep.High != x.High {
			return false
		}
		for _, time := range c.Keep.Times {
			if time > m.Now || m.Count == 0 {
				return false
			}
		}
	}
	return true
}

// mostByRule is of each node that keeps times 1, or High and 1.
func mostByRule(f []impl.Node) int64 {
	var most int64
	for _, x := range f {
		if kindKeeps(x.Kind) {
			most += max(x.High, 0) + 1
		}
	}
	return most
}

// stepByRule is of a right monitor and event, of which none is refused.
func stepByRule(m impl.Monitor, e impl.Event) impl.MonOut {
	all := make([]bool, len(m.Formula))
	cells := make([]impl.Cell, len(m.Formula))
	for i, x := range m.Formula {
		k, put := m.Cells[i].Keep, false
		switch x.Kind {
		case impl.FmTrue:
			all[i] = true
		case impl.FmAtom:
			all[i] = slices.Contains(e.Names, x.Name)
		case impl.FmNot:
			all[i] = !all[x.A]
		case impl.FmAnd:
			all[i] = all[x.A] && all[x.B]
		case impl.FmOr:
			all[i] = all[x.A] || all[x.B]
		case impl.FmPrev:
			gap := e.Time - m.Now
			all[i] = m.Count > 0 && m.Cells[i].Was && gap >= x.Low && (x.High == -1 || gap <= x.High)
			cells[i].Was = all[x.A]
		case impl.FmOnce:
			put = all[x.A]
		case impl.FmHist:
			put = !all[x.A]
		case impl.FmSince:
			put = all[x.B]
			if !all[x.A] {
				k = keep(x.Low, x.High)
			}
		}
		if !kindKeeps(x.Kind) {
			continue
		}
		if put {
			k = putByRule(k, e.Time)
		} else {
			k = dropByRule(k, e.Time)
		}
		cells[i].Keep = k
		all[i] = askByRule(k.Low, k.High, k.Times, e.Time) != (x.Kind == impl.FmHist)
	}
	next := impl.Monitor{Formula: m.Formula, Count: m.Count + 1, Now: e.Time, Cells: cells}
	return impl.MonOut{Monitor: next, Verdict: all[len(all)-1], All: all}
}

// begun is the monitor of no event.
func begun(t *testing.T, f []impl.Node) impl.Monitor {
	t.Helper()
	got := impl.MonNew(f)
	if got.Code != impl.OK {
		t.Fatalf("MonNew %+v: code %d", f, got.Code)
	}
	return got.Monitor
}

// stepped is the monitor behind all events of l.
func stepped(t *testing.T, text string, l ...impl.Event) impl.Monitor {
	t.Helper()
	m := begun(t, formula(t, text))
	for _, e := range l {
		m = wantStep(t, m, e).Monitor
	}
	return m
}

// wantRightMonitor asks also that it keeps no more than it may.
func wantRightMonitor(t *testing.T, m impl.Monitor) {
	t.Helper()
	if !impl.MonRight(m) {
		t.Errorf("MonRight %+v: got no", m)
	}
	var size int64
	for _, c := range m.Cells {
		size += int64(len(c.Keep.Times))
	}
	if got := impl.MonSize(m); got != size {
		t.Errorf("MonSize %+v: got %d, want %d", m, got, size)
	}
	if most := impl.SizeMost(m.Formula); most != mostByRule(m.Formula) || size > most {
		t.Errorf("SizeMost %+v: got %d, want %d, and it keeps %d", m.Formula, most, mostByRule(m.Formula), size)
	}
}

// wantStep holds a step that is not refused to the rules.
func wantStep(t *testing.T, m impl.Monitor, e impl.Event) impl.MonOut {
	t.Helper()
	wantRightMonitor(t, m)
	got, want := impl.MonStep(m, e), stepByRule(m, e)
	if !sameMonOut(got, want) {
		t.Fatalf("MonStep(%+v, %+v): got %+v, want %+v", m, e, got, want)
	}
	wantRightMonitor(t, got.Monitor)
	return got
}

// wantStepCode is of a step that is refused: nothing is told but the code.
func wantStepCode(t *testing.T, why string, m impl.Monitor, e impl.Event, code int64) {
	t.Helper()
	if got := impl.MonStep(m, e); !sameMonOut(got, impl.MonOut{Code: code}) {
		t.Errorf("%s: MonStep(%+v, %+v): got %+v, want code %d", why, m, e, got, code)
	}
}

// wantWrongMonitor holds all calls to their answers for a monitor that is not right, whatever the event.
func wantWrongMonitor(t *testing.T, why string, m impl.Monitor) {
	t.Helper()
	if impl.MonRight(m) {
		t.Errorf("%s: MonRight(%+v): got yes", why, m)
	}
	if got := impl.MonSize(m); got != -1 {
		t.Errorf("%s: MonSize(%+v): got %d", why, m, got)
	}
	for _, e := range []impl.Event{event(0), event(9, "p"), event(impl.MaxTime, "p", "q"), event(-1), event(9, "q", "p")} {
		wantStepCode(t, why, m, e, impl.ErrForm)
	}
}

// wantWatched steps through a right trace: each step, of each node, is what that means over all so far.
func wantWatched(t *testing.T, x tree, l []impl.Event) {
	t.Helper()
	f, texts, _ := x.rows(nil, nil)
	rows := make([][]bool, len(f))
	for _, part := range x.parts() {
		rows[slices.Index(texts, part.text())] = part.verdicts(l)
	}
	m := begun(t, f)
	for i, e := range l {
		got := wantStep(t, m, e)
		if m = got.Monitor; m.Count != int64(i+1) || m.Now != e.Time || len(got.All) != len(f) {
			t.Fatalf("%s of %+v at %d: got %+v", x.text(), l, i, got)
		}
		for node, yes := range got.All {
			if yes != rows[node][i] {
				t.Fatalf("%s of %+v at %d: node %d tells %t", x.text(), l, i, node, yes)
			}
			if i < impl.MaxTrace && yes != impl.HoldsAt(f, int64(node), l[:i+1], int64(i)) {
				t.Fatalf("%s of %+v at %d: node %d is not as HoldsAt tells", x.text(), l, i, node)
			}
		}
		if got.Verdict != rows[len(f)-1][i] {
			t.Fatalf("%s of %+v at %d: the whole tells %t", x.text(), l, i, got.Verdict)
		}
	}
	if len(l) <= impl.MaxTrace {
		wantRun(t, f, l, signs(impl.Verdicts(f, l)))
	}
}

func wantRun(t *testing.T, f []impl.Node, l []impl.Event, want string) {
	t.Helper()
	if got := signs(impl.MonRun(f, l)); got != want {
		t.Errorf("MonRun %.120s of %+v: got %s, want %s", impl.FormulaText(f), l, got, want)
	}
}

func treeOfText(t *testing.T, text string) tree {
	t.Helper()
	f := formula(t, text)
	x, ok := treeOf(f, len(f)-1)
	if !ok {
		t.Fatalf("%s: no tree", text)
	}
	return x
}

// nestedTexts have several kinds that look back within each other.
func nestedTexts() []string {
	return []string{
		"(once 0 3 (hist 0 2 p))",
		"(hist 0 3 (once 0 2 p))",
		"(once 1 * (since 0 4 p q))",
		"(hist 1 * (since 0 4 p q))",
		"(since 0 * (once 0 2 p) (hist 0 1 q))",
		"(since 1 5 (prev 0 * p) (prev 1 2 q))",
		"(since 2 2 (not (once 1 1 q)) (since 0 3 p q))",
		"(prev 0 3 (prev 0 3 (once 0 1 p)))",
		"(prev 1 1 (since 0 * (hist 0 0 p) q))",
		"(and (once 0 3 p) (once 0 4 p))",
		"(or (hist 0 2 p) (since 0 2 p (hist 0 2 p)))",
		"(not (since 0 3 (or p (prev 0 * q)) (and q (once 1 * r))))",
		"(hist 0 * (or (not p) (once 0 5 (since 0 * (not r) q))))",
		"(once 2 4 (once 2 4 (once 2 4 p)))",
		"(hist 2 4 (hist 2 4 (hist 2 4 p)))",
		"(since 0 3 (since 0 3 p q) (since 0 3 q r))",
	}
}

func TestPromise8EachKind(t *testing.T) {
	l := []impl.Event{event(0, "q"), event(2, "p"), event(2), event(5, "p"), event(6, "p", "q"), event(9, "p")}
	kinds := map[string]string{
		"true":                     "++++++",
		"p":                        "-+-+++",
		"other":                    "------",
		"(not p)":                  "+-+---",
		"(and p q)":                "----+-",
		"(or p q)":                 "++-+++",
		"(prev 0 * p)":             "--+-++",
		"(prev 0 0 p)":             "--+---",
		"(prev 1 2 p)":             "----+-",
		"(prev 3 3 p)":             "-----+",
		"(prev 0 * true)":          "-+++++",
		"(once 0 * q)":             "++++++",
		"(once 0 0 p)":             "-+++++",
		"(once 1 * p)":             "---+++",
		"(once 3 3 p)":             "---+-+",
		"(once 5 6 q)":             "---++-",
		"(once 7 * true)":          "-----+",
		"(hist 0 * p)":             "------",
		"(hist 0 1 p)":             "-+-+++",
		"(hist 1 1 p)":             "++++++",
		"(hist 3 3 p)":             "+++-++",
		"(hist 3 * p)":             "+++---",
		"(hist 9 9 p)":             "+++++-",
		"(since 0 * p q)":          "++--++",
		"(since 2 * p q)":          "-+---+",
		"(since 0 1 p q)":          "+---+-",
		"(since 3 3 p q)":          "-----+",
		"(since 0 0 (not true) q)": "+---+-",
		"(since 0 * p (not p))":    "++++++",
		"(since 1 4 p (not p))":    "-+-++-",
		"(prev 0 * (prev 0 * q))":  "--+---",
		"(not (once 0 3 q))":       "---+--",
	}
	for text, want := range kinds {
		wantRun(t, formula(t, text), l, want)
		wantWatched(t, treeOfText(t, text), l)
	}
}

func TestPromise8WithinEachOther(t *testing.T) {
	r := rand.New(rand.NewSource(81))
	for _, text := range nestedTexts() {
		x := treeOfText(t, text)
		for range 30 {
			wantWatched(t, x, nearTrace(r, 1+r.Intn(impl.MaxTrace)))
		}
	}
}

func TestPromise8EachPartAtEachEvent(t *testing.T) {
	r := rand.New(rand.NewSource(82))
	for _, x := range rightTrees(900) {
		wantWatched(t, x.near(r), nearTrace(r, 1+r.Intn(25)))
	}
	for _, x := range rightTrees(150) {
		l := nearTrace(r, 20)
		// Steps as far as the greatest bounds reach.
		for i := range l {
			l[i].Time = min(l[i].Time, 1000) * int64(i)
		}
		wantWatched(t, x, l)
	}
}

// More events than a trace may have: a monitor goes on all the same.
func TestPromise8ManyEvents(t *testing.T) {
	r := rand.New(rand.NewSource(83))
	for _, text := range nestedTexts() {
		l := nearTrace(r, 300)
		for i := range l {
			l[i].Time = min(l[i].Time, impl.MaxTime)
		}
		wantWatched(t, treeOfText(t, text), l)
	}
}

func TestPromise7BeginsRight(t *testing.T) {
	for _, x := range rightTrees(300) {
		f := x.formula()
		got := impl.MonNew(f)
		want := impl.Monitor{Formula: f}
		for _, node := range f {
			c := impl.Cell{}
			if kindKeeps(node.Kind) {
				c.Keep = keep(node.Low, node.High)
			}
			want.Cells = append(want.Cells, c)
		}
		if !sameMonOut(got, impl.MonOut{Monitor: want}) {
			t.Errorf("MonNew %s: got %+v, want %+v", x.text(), got, want)
		}
		wantRightMonitor(t, got.Monitor)
		if size := impl.MonSize(got.Monitor); size != 0 {
			t.Errorf("MonSize of no event: got %d", size)
		}
	}
}

// anyMonitor is right, and need not have begun anywhere: its times may lie further apart than any bound.
func anyMonitor(r *rand.Rand, f []impl.Node) impl.Monitor {
	counts := []int64{0, 1, 2, 77, impl.MaxTime - 1}
	nows := []int64{0, 1, 6, 40, 2500, impl.MaxTime - 3, impl.MaxTime}
	m := impl.Monitor{Formula: f, Count: counts[r.Intn(len(counts))]}
	if m.Count > 0 {
		m.Now = nows[r.Intn(len(nows))]
	}
	for _, x := range f {
		c := impl.Cell{Was: x.Kind == impl.FmPrev && m.Count > 0 && r.Intn(3) > 0}
		if kindKeeps(x.Kind) {
			c.Keep = keep(x.Low, x.High, anyTimes(r, max(x.High, 0)+1, m)...)
		}
		m.Cells = append(m.Cells, c)
	}
	return m
}

// anyTimes go back from Now, near or far, or are as many as may be.
func anyTimes(r *rand.Rand, most int64, m impl.Monitor) []int64 {
	if m.Count == 0 {
		return nil
	}
	most = []int64{0, 1, min(4, most), min(4, most), most}[r.Intn(5)]
	far := []int64{1, 2, 9, 400}[r.Intn(4)]
	var times []int64
	for time := m.Now - r.Int63n(far+1); time >= 0 && int64(len(times)) < most; time -= 1 + r.Int63n(far) {
		times = append(times, time)
	}
	slices.Reverse(times)
	return times
}

func TestPromise7AnyRightMonitorStaysRight(t *testing.T) {
	r := rand.New(rand.NewSource(71))
	for i, x := range rightTrees(1500) {
		if i%2 == 0 {
			x = x.near(r)
		}
		m := anyMonitor(r, x.formula())
		for range 4 {
			wantRightMonitor(t, m)
			if m.Count == impl.MaxTime {
				wantStepCode(t, "full", m, event(m.Now), impl.ErrFull)
				break
			}
			e := nearTrace(r, 1)[0]
			e.Time = min(m.Now+[]int64{0, 1, 2, 5, 1001}[r.Intn(5)], impl.MaxTime)
			m = wantStep(t, m, e).Monitor
		}
	}
}

// At each time an event of which all is put: the Keeps fill up, and then are as full as they may be.
func TestPromise7KeepsNoMoreThanItMay(t *testing.T) {
	most := map[string]int64{
		"p": 0, "true": 0, "(not p)": 0, "(and p q)": 0, "(or p q)": 0, "(prev 0 * p)": 0, "(prev 0 1000 p)": 0,
		"(once 0 0 p)": 1, "(once 0 3 p)": 4, "(once 3 3 p)": 4, "(once 0 * p)": 1, "(once 1000 * p)": 1, "(once 7 1000 p)": 1001,
		"(hist 0 0 q)": 1, "(hist 2 5 q)": 6, "(hist 4 * q)": 1, "(hist 1000 1000 q)": 1001,
		"(since 0 0 p p)": 1, "(since 1 9 p p)": 10, "(since 3 * p p)": 1, "(since 0 1000 p p)": 1001,
		"(and (once 0 3 p) (since 0 * p (not (hist 0 6 q))))": 4 + 1 + 7,
		"(once 0 3 (once 0 4 p))":                             4 + 5,
		"(or (once 1 3 p) (once 2 3 p))":                      4 + 4,
	}
	for text, want := range most {
		f := formula(t, text)
		if got := impl.SizeMost(f); got != want {
			t.Errorf("SizeMost %s: got %d, want %d", text, got, want)
		}
		m := begun(t, f)
		for time := range min(2*want+3, 1100) {
			m = impl.MonStep(m, event(time, "p")).Monitor
			if time%50 == 0 {
				wantRightMonitor(t, m)
			}
			if got := impl.MonSize(m); got < 0 || got > want {
				t.Fatalf("MonSize %s behind %d: got %d", text, time, got)
			}
		}
		if got := impl.MonSize(m); got != want {
			t.Errorf("MonSize %s in the end: got %d, want %d", text, got, want)
		}
	}
}

// Many events of one time are put once; far ones push all out that are over.
func TestPromise8KeepsNoMoreThanItsBoundsAskFor(t *testing.T) {
	m := begun(t, formula(t, "(and (once 1 3 p) (hist 0 2 q))"))
	sizes := []struct {
		e    impl.Event
		size int64
	}{
		{event(5, "p"), 2}, {event(5, "p"), 2}, {event(5, "q"), 2}, {event(6, "p"), 4}, {event(7), 5}, {event(8, "q"), 4},
		{event(9, "p", "q"), 3}, {event(10), 2}, {event(900, "q"), 0}, {event(900, "p"), 2}, {event(impl.MaxTime, "q"), 0},
	}
	for _, x := range sizes {
		m = wantStep(t, m, x.e).Monitor
		if got := impl.MonSize(m); got != x.size {
			t.Errorf("MonSize behind %+v: got %d, want %d, of %+v", x.e, got, x.size, m.Cells)
		}
	}
}

func TestPromise8FirstEvent(t *testing.T) {
	alone := map[string]string{"true": "+", "p": "+", "q": "-", "(not q)": "+", "(prev 0 * p)": "-", "(prev 0 0 true)": "-", "(not (prev 0 * p))": "+",
		"(once 0 0 p)": "+", "(once 0 * p)": "+", "(once 1 * p)": "-", "(hist 0 0 p)": "+", "(hist 0 * q)": "-", "(hist 1 * q)": "+",
		"(since 0 * q p)": "+", "(since 0 * p q)": "-", "(since 1 * p p)": "-", "(since 0 0 p p)": "+"}
	for text, want := range alone {
		for _, time := range []int64{0, 1, impl.MaxTime - 1, impl.MaxTime} {
			wantRun(t, formula(t, text), []impl.Event{event(time, "p")}, want)
			got := impl.MonStep(begun(t, formula(t, text)), event(time, "p"))
			if got.Code != impl.OK || got.Monitor.Count != 1 || got.Monitor.Now != time || signs([]bool{got.Verdict}) != want {
				t.Errorf("%s, one event at %d: got %+v", text, time, got)
			}
			wantRightMonitor(t, got.Monitor)
		}
	}
}

func TestPromise8TimesOfEvents(t *testing.T) {
	for _, text := range []string{"p", "(prev 0 * p)", "(once 0 5 p)", "(hist 0 5 q)", "(since 0 * p p)"} {
		for _, now := range []int64{0, 1, 7, impl.MaxTime - 1, impl.MaxTime} {
			m := stepped(t, text, event(now, "p"))
			for _, below := range []int64{now - 1, now - 2, 0} {
				if 0 <= below && below < now {
					wantStepCode(t, "below Now", m, event(below, "p"), impl.ErrRange)
				}
			}
			for _, time := range []int64{now, now + 1, now + 2, impl.MaxTime} {
				if time <= impl.MaxTime {
					wantStep(t, m, event(time, "p"))
				}
			}
			for _, time := range noTimes() {
				wantStepCode(t, "no time", m, event(time, "p"), impl.ErrForm)
			}
		}
	}
}

func TestPromise7Counts(t *testing.T) {
	for _, text := range []string{"p", "(prev 0 * p)", "(and (once 0 5 p) (since 1 * p q))"} {
		m := stepped(t, text, event(4, "p"), event(6, "p", "q"))
		for _, count := range []int64{1, 2, impl.MaxTrace + 1, impl.MaxList + 1, impl.MaxTime - 2, impl.MaxTime - 1} {
			m.Count = count
			got := wantStep(t, m, event(7, "p"))
			if got.Monitor.Count != count+1 {
				t.Errorf("%s: Count %d behind %d", text, got.Monitor.Count, count)
			}
		}
		last := impl.MonStep(m, event(7, "p")).Monitor
		if last.Count != impl.MaxTime {
			t.Fatalf("%s: Count %d, want MaxTime", text, last.Count)
		}
		wantRightMonitor(t, last)
		wantStepCode(t, "Count at MaxTime", last, event(7, "p"), impl.ErrFull)
		wantStepCode(t, "Count at MaxTime", last, event(impl.MaxTime), impl.ErrFull)
		for _, count := range []int64{impl.MaxTime + 1, -1, math.MinInt64, math.MaxInt64} {
			m.Count = count
			wantWrongMonitor(t, "Count "+strconv.FormatInt(count, 10), m)
		}
	}
}

func TestPromise7OfNoEvent(t *testing.T) {
	for _, text := range []string{"p", "(prev 0 * p)", "(once 0 3 p)", "(hist 2 * p)", "(since 0 * p q)"} {
		zero := begun(t, formula(t, text))
		wantRightMonitor(t, zero)
		for _, now := range []int64{1, 2, impl.MaxTime, impl.MaxTime + 1, -1, math.MaxInt64, math.MinInt64} {
			m := copyMonitor(zero)
			m.Now = now
			wantWrongMonitor(t, "Count 0 with Now "+strconv.FormatInt(now, 10), m)
			m.Count = 1
			if impl.MonRight(m) != timeByRule(now) {
				t.Errorf("%s, Count 1 with Now %d: got %t", text, now, impl.MonRight(m))
			}
		}
		whole := len(zero.Cells) - 1
		m := copyMonitor(zero)
		if kindKeeps(m.Formula[whole].Kind) {
			m.Cells[whole].Keep.Times = []int64{0}
			wantWrongMonitor(t, "Count 0 with a time", m)
			m.Count = 1
			wantRightMonitor(t, m)
			m.Count, m.Cells[whole].Keep.Times = 0, []int64{}
			wantRightMonitor(t, m)
		}
		m = copyMonitor(zero)
		m.Cells[whole].Was = true
		wantWrongMonitor(t, "Count 0 with a Was", m)
		m.Count = 1
		if impl.MonRight(m) != (m.Formula[whole].Kind == impl.FmPrev) {
			t.Errorf("%s, Count 1 with a Was: got %t", text, impl.MonRight(m))
		}
	}
}

func TestPromise8PrevAtItsBounds(t *testing.T) {
	for _, b := range keepBounds() {
		low, high := b[0], b[1]
		f := []impl.Node{atom("p"), {Kind: impl.FmPrev, Low: low, High: high}}
		gaps := map[int64]bool{low: true, low + 1: high == -1 || high > low}
		if low > 0 {
			gaps[low-1], gaps[0] = false, false
		}
		if high >= 0 {
			gaps[high], gaps[high+1], gaps[9000] = true, false, false
		} else {
			gaps[9000] = true
		}
		for gap, in := range gaps {
			for _, begin := range []int64{0, 1, impl.MaxTime - gap} {
				m := begun(t, f)
				for _, e := range []impl.Event{event(begin, "p"), event(begin + gap)} {
					got := wantStep(t, m, e)
					if m = got.Monitor; got.Verdict != (in && m.Count == 2) {
						t.Errorf("prev %d %d, %d behind %d: got %t", low, high, gap, begin, got.Verdict)
					}
				}
				if m.Cells[1].Was {
					t.Errorf("prev %d %d, %d behind %d: Was is of the event ahead", low, high, gap, begin)
				}
			}
		}
	}
	// What was asked is what was, not what is: Was is turned last.
	l := []impl.Event{event(0), event(1, "p"), event(2), event(2, "p"), event(2, "p"), event(3)}
	wantRun(t, formula(t, "(prev 0 * p)"), l, "--+-++")
	wantRun(t, formula(t, "(prev 0 0 p)"), l, "----+-")
}

func TestPromise8SinceWhereAStops(t *testing.T) {
	both, onlyA, onlyB, none := []string{"p", "q"}, []string{"p"}, []string{"q"}, []string{}
	rows := []struct {
		text  string
		names [][]string
		want  string
		times []int64
	}{
		// At an event at which B holds A may stop: what was goes, and that event stays.
		{"(since 0 * p q)", [][]string{both, onlyA, onlyB, onlyA, onlyA}, "+++++", []int64{2}},
		{"(since 2 * p q)", [][]string{both, onlyA, onlyB, onlyA, onlyA}, "----+", []int64{2}},
		{"(since 1 1 p q)", [][]string{both, onlyA, onlyB, onlyA, onlyA}, "-+-+-", nil},
		{"(since 2 3 p q)", [][]string{both, both, onlyB, onlyA, onlyA}, "----+", []int64{2}},
		{"(since 0 9 p q)", [][]string{both, both, onlyB, both, onlyA}, "+++++", []int64{2, 3}},
		{"(since 0 9 p q)", [][]string{both, onlyA, none, onlyA, both}, "++--+", []int64{4}},
		{"(since 0 * p q)", [][]string{onlyB, none, onlyA, both, none}, "+--+-", nil},
		{"(since 1 9 p q)", [][]string{onlyB, onlyB, onlyB, onlyB, onlyA}, "----+", []int64{3}},
		{"(since 0 * p q)", [][]string{both, both, both, both, both}, "+++++", []int64{0}},
		{"(since 4 * p q)", [][]string{onlyB, both, both, both, both}, "----+", []int64{0}},
	}
	for _, x := range rows {
		f := formula(t, x.text)
		m := begun(t, f)
		var l []impl.Event
		for i, names := range x.names {
			l = append(l, event(int64(i), names...))
			m = wantStep(t, m, l[i]).Monitor
		}
		wantRun(t, f, l, x.want)
		if got := m.Cells[2].Keep.Times; !slices.Equal(got, x.times) {
			t.Errorf("%s of %v: got %v, want %v", x.text, x.names, got, x.times)
		}
	}
	// All at one time: what went may not come back by an event of that same time.
	same := []impl.Event{event(5, "q"), event(5), event(5, "p"), event(5, "q"), event(5, "p"), event(5)}
	for _, bounds := range []string{"0 0", "0 *", "0 9"} {
		wantRun(t, formula(t, "(since "+bounds+" p q)"), same, "+--++-")
	}
}

func TestPromise8WithoutAnEndAndOfOneNumber(t *testing.T) {
	l := []impl.Event{event(1), event(2, "p"), event(3), event(5, "p"), event(8), event(impl.MaxTime)}
	rows := []struct {
		text, want string
		times      []int64
	}{
		{"(once 0 * p)", "-+++++", []int64{2}},
		{"(once 3 * p)", "---+++", []int64{2}},
		{"(once 1000 * p)", "-----+", []int64{2}},
		{"(once 0 0 p)", "-+-+--", nil},
		{"(once 3 3 p)", "---++-", nil},
		{"(once 1 1 p)", "--+---", nil},
		{"(hist 0 * p)", "------", []int64{1}},
		{"(hist 0 * (not p))", "+-----", []int64{2}},
		{"(hist 3 * (not p))", "+++---", []int64{2}},
		{"(hist 1000 * (not p))", "+++++-", []int64{2}},
		{"(hist 0 0 p)", "-+-+--", []int64{impl.MaxTime}},
		{"(hist 3 3 (not p))", "+++--+", nil},
		{"(hist 2 2 p)", "++--++", []int64{impl.MaxTime}},
	}
	for _, x := range rows {
		f := formula(t, x.text)
		wantRun(t, f, l, x.want)
		m := stepped(t, x.text, l...)
		if got := m.Cells[len(f)-1].Keep.Times; !slices.Equal(got, x.times) {
			t.Errorf("%s: got %v, want %v", x.text, got, x.times)
		}
	}
}

func TestPromise8ManyNodes(t *testing.T) {
	l := []impl.Event{event(0, "p"), event(4)}
	for _, many := range []int{1, 2, impl.MaxNodes - 1, impl.MaxNodes} {
		wantRun(t, nots(many), l, []string{"-+", "+-"}[many%2])
		wantRun(t, twices(many), l, "+-")
	}
	long := make([]impl.Event, impl.MaxTrace)
	for i := range long {
		long[i] = event(int64(i), "p")
	}
	for _, kind := range []int64{impl.FmPrev, impl.FmOnce, impl.FmHist, impl.FmSince} {
		for _, b := range [][2]int64{{0, -1}, {1, 2}, {2, -1}, {0, impl.MaxBound}} {
			f := piled(kind, b[0], b[1])
			wantRun(t, f, long, signs(impl.Verdicts(f, long)))
			if got := impl.SizeMost(f); got != mostByRule(f) {
				t.Errorf("SizeMost of %d nodes: got %d", len(f), got)
			}
			if got := impl.SizeMost(append(f, not(impl.MaxNodes-1))); got != -1 {
				t.Errorf("SizeMost of one node too many: got %d", got)
			}
		}
	}
	for _, many := range []int{impl.MaxNodes + 1, impl.MaxList, impl.MaxList + 1, 3 * impl.MaxList} {
		code := int64(impl.ErrForm)
		// As such a list of more than MaxList is refused ahead of all else.
		if many > impl.MaxList {
			code = impl.ErrSize
		}
		wantNoMonitor(t, strconv.Itoa(many)+" nodes", nots(many), code)
		wantNoMonitor(t, strconv.Itoa(many)+" nodes", twices(many), code)
		wantNoMonitor(t, strconv.Itoa(many)+" wrong nodes", make([]impl.Node, many), code)
	}
}

// wantNoMonitor is of a formula that is not right: no call of it tells anything, and no monitor of it is right.
func wantNoMonitor(t *testing.T, why string, f []impl.Node, code int64) {
	t.Helper()
	if got := impl.MonNew(f); !sameMonOut(got, impl.MonOut{Code: code}) {
		t.Errorf("%s: MonNew tells %+v, want code %d", why, got, code)
	}
	if got := impl.SizeMost(f); got != -1 {
		t.Errorf("%s: SizeMost tells %d", why, got)
	}
	for _, l := range [][]impl.Event{nil, {event(0, "p")}, {event(3), event(2)}, {event(1, "p"), event(1, "q")}} {
		if got := impl.MonRun(f, l); len(got) != 0 {
			t.Errorf("%s: MonRun of %+v tells %v", why, l, got)
		}
	}
	m := impl.Monitor{Formula: f, Cells: make([]impl.Cell, len(f))}
	for i, x := range f {
		if kindKeeps(x.Kind) {
			m.Cells[i].Keep = keep(x.Low, x.High)
		}
	}
	wantWrongMonitor(t, why, m)
	m.Count, m.Now = 3, 9
	wantWrongMonitor(t, why, m)
	m.Cells = nil
	wantWrongMonitor(t, why, m)
}

func TestPromise7WrongFormulas(t *testing.T) {
	p, q, yes := atom("p"), atom("q"), impl.Node{Kind: impl.FmTrue}
	rows := map[string][]impl.Node{
		"none":               nil,
		"empty":              {},
		"no kind":            {{}},
		"a kind above":       {p, {Kind: impl.FmSince + 1}},
		"a kind far above":   {p, {Kind: math.MaxInt64}},
		"a kind below":       {{Kind: -1}, not(0)},
		"two alike":          {p, p, and(0, 1)},
		"none speaks of it":  {p, q, yes},
		"itself":             {p, once(0, 3, 1)},
		"a later one":        {p, not(2), not(0), and(1, 2)},
		"one below 0":        {p, once(0, 3, -1)},
		"one behind the end": {p, not(2)},
		"another order":      {p, q, and(1, 0)},
		"Low below 0":        {p, once(-1, 5, 0)},
		"High below Low":     {p, {Kind: impl.FmHist, Low: 5, High: 4}},
		"High below -1":      {p, {Kind: impl.FmHist, Low: 0, High: -2}},
		"High too great":     {p, once(0, impl.MaxBound+1, 0)},
		"Low too great":      {p, once(impl.MaxBound+1, -1, 0)},
		"a word as name":     {atom("once")},
		"no name":            {atom("")},
		"true with a bound":  {{Kind: impl.FmTrue, High: -1}},
	}
	for why, f := range rows {
		wantNoMonitor(t, why, f, impl.ErrForm)
	}
	wantWrongMonitor(t, "the zero one", impl.Monitor{})
}

func TestPromise8WrongTraces(t *testing.T) {
	l := make([]impl.Event, impl.MaxTrace)
	for _, text := range []string{"true", "(hist 0 * true)", "(not (prev 0 * p))", "(once 0 0 true)", "(since 0 * true true)"} {
		f := formula(t, text)
		wantRun(t, f, nil, "")
		wantRun(t, f, []impl.Event{}, "")
		wantRun(t, f, l[:1], "+")
		wantRun(t, f, l[:impl.MaxTrace-1], strings.Repeat("+", impl.MaxTrace-1))
		wantRun(t, f, l, strings.Repeat("+", impl.MaxTrace))
		for _, many := range []int{impl.MaxTrace + 1, impl.MaxList, impl.MaxList + 1} {
			wantRun(t, f, make([]impl.Event, many), "")
		}
		wantRun(t, f, trace(2, 1), "")
		wantRun(t, f, trace(2, 2, 3, 2), "")
		wantRun(t, f, trace(0, impl.MaxTime, impl.MaxTime), "+++")
		wantRun(t, f, trace(0, impl.MaxTime+1), "")
		for why, e := range wrongEvents() {
			for at := range 3 {
				row := slices.Insert(trace(7, 7), at, e)
				if got := impl.MonRun(f, row); len(got) != 0 {
					t.Errorf("%s: MonRun %s of %+v tells %v", why, text, row, got)
				}
			}
		}
	}
}

func wrongEvents() map[string]impl.Event {
	return map[string]impl.Event{
		"a Time below 0":   event(-1, "p"),
		"a Time too great": event(impl.MaxTime+1, "p"),
		"names that fall":  event(7, "q", "p"),
		"names alike":      event(7, "p", "p"),
		"no name":          event(7, ""),
		"a word as name":   event(7, "once"),
		"a great letter":   event(7, "P"),
		"nine names":       event(7, "a", "b", "c", "d", "e", "f", "g", "h", "i"),
		"very many names":  event(7, make([]string, impl.MaxList+1)...),
	}
}

func TestPromise7WrongEvents(t *testing.T) {
	for _, text := range []string{"p", "(prev 0 * p)", "(since 0 3 p (once 0 * p))"} {
		zero := begun(t, formula(t, text))
		late := stepped(t, text, event(5, "p"), event(7, "p"))
		for why, e := range wrongEvents() {
			wantStepCode(t, why, zero, e, impl.ErrForm)
			wantStepCode(t, why, late, e, impl.ErrForm)
		}
		wantStep(t, late, event(7, eightNames()...))
	}
}

func TestPromise7TimesAtNow(t *testing.T) {
	for _, text := range []string{"(once 0 4 p)", "(hist 1 4 p)", "(since 0 4 q p)", "(once 2 * p)", "(hist 0 * p)", "(since 0 * q p)"} {
		m := begun(t, formula(t, text))
		last := len(m.Cells) - 1
		m.Count = 1
		for _, now := range []int64{0, 1, 40, impl.MaxTime - 1, impl.MaxTime} {
			m.Now = now
			m.Cells[last].Keep.Times = []int64{now}
			wantRightMonitor(t, m)
			wantStep(t, m, event(now, "p"))
			wantStep(t, m, event(min(now+1, impl.MaxTime)))
			m.Cells[last].Keep.Times = []int64{now + 1}
			wantWrongMonitor(t, "a time above Now", m)
			if m.Formula[last].High >= 0 && now > 0 {
				m.Cells[last].Keep.Times = []int64{now - 1, now}
				wantRightMonitor(t, m)
				m.Cells[last].Keep.Times = []int64{now - 1, now + 1}
				wantWrongMonitor(t, "the last time above Now", m)
			}
		}
	}
}

func TestPromise7WrongCells(t *testing.T) {
	// Its nodes: p, q, prev, once, hist, not, and, since, or.
	begin := stepped(t, "(or (since 0 4 (and (prev 0 3 p) (not (hist 1 * (once 0 4 q)))) p) true)", event(2, "q"), event(3, "p"), event(9, "p", "q"))
	wantRightMonitor(t, begin)
	turn := func(why string, change func(m *impl.Monitor)) {
		m := copyMonitor(begin)
		change(&m)
		wantWrongMonitor(t, why, m)
	}
	turn("no cells", func(m *impl.Monitor) { m.Cells = nil })
	turn("a cell too few", func(m *impl.Monitor) { m.Cells = m.Cells[:len(m.Cells)-1] })
	turn("the first cell missing", func(m *impl.Monitor) { m.Cells = m.Cells[1:] })
	turn("a cell too many", func(m *impl.Monitor) { m.Cells = append(m.Cells, impl.Cell{}) })
	turn("very many cells", func(m *impl.Monitor) { m.Cells = make([]impl.Cell, impl.MaxList+1) })
	turn("Now below the times", func(m *impl.Monitor) { m.Now = 0 })
	turn("Now no time", func(m *impl.Monitor) { m.Now = impl.MaxTime + 1 })
	turn("Count 0", func(m *impl.Monitor) { m.Count = 0 })
	for i, x := range begin.Formula {
		at := " at node " + strconv.Itoa(i)
		if x.Kind != impl.FmPrev {
			turn("a Was"+at, func(m *impl.Monitor) { m.Cells[i].Was = true })
		}
		turn("another Low"+at, func(m *impl.Monitor) { m.Cells[i].Keep.Low++ })
		turn("a Low below"+at, func(m *impl.Monitor) { m.Cells[i].Keep.Low-- })
		turn("another High"+at, func(m *impl.Monitor) { m.Cells[i].Keep.High++ })
		turn("no end"+at, func(m *impl.Monitor) { m.Cells[i].Keep.High = -1 - m.Cells[i].Keep.High })
		if !kindKeeps(x.Kind) {
			turn("a time"+at, func(m *impl.Monitor) { m.Cells[i].Keep.Times = []int64{0} })
			turn("its own bounds"+at, func(m *impl.Monitor) { m.Cells[i].Keep = keep(0, 3) })
			continue
		}
		turn("the zero Keep"+at, func(m *impl.Monitor) { m.Cells[i].Keep = keep(0, 0, 9) })
		turn("a time above Now"+at, func(m *impl.Monitor) { m.Cells[i].Keep.Times = []int64{10} })
		turn("times alike"+at, func(m *impl.Monitor) { m.Cells[i].Keep.Times = []int64{9, 9} })
		turn("times that fall"+at, func(m *impl.Monitor) { m.Cells[i].Keep.Times = []int64{8, 7} })
		turn("a time below 0"+at, func(m *impl.Monitor) { m.Cells[i].Keep.Times = []int64{-1} })
		turn("too many times"+at, func(m *impl.Monitor) { m.Cells[i].Keep.Times = risingTimes(1, max(x.High, 0)+2) })
	}
}

// turnedMonitor has one thing, or two, a little otherwise.
func turnedMonitor(r *rand.Rand, m impl.Monitor) impl.Monitor {
	m = copyMonitor(m)
	i := r.Intn(len(m.Cells))
	step := int64(r.Intn(3) - 1)
	c := &m.Cells[i]
	switch r.Intn(10) {
	case 0:
		m.Count += step
	case 1:
		m.Now += step
	case 2:
		c.Was = !c.Was
	case 3:
		c.Keep.Low += step
	case 4:
		c.Keep.High += step
	case 5:
		c.Keep.Times = append(c.Keep.Times, m.Now+step)
	case 6:
		for at := range c.Keep.Times {
			c.Keep.Times[at] += step
		}
	case 7:
		m.Formula = turnedRow(r, m.Formula)
	case 8:
		m.Cells = slices.Delete(m.Cells, i, i+1)
	case 9:
		m.Count = []int64{0, 1, impl.MaxTime, impl.MaxTime + 1}[r.Intn(4)]
	}
	return m
}

func TestPromise7RightByRule(t *testing.T) {
	r := rand.New(rand.NewSource(72))
	rights, wrongs := 0, 0
	for _, x := range rightTrees(500) {
		begin := anyMonitor(r, x.near(r).formula())
		for range 30 {
			m := turnedMonitor(r, begin)
			if len(m.Cells) > 0 && r.Intn(3) == 0 {
				m = turnedMonitor(r, m)
			}
			if !monByRule(m) {
				wantWrongMonitor(t, "by rule", m)
				wrongs++
				continue
			}
			wantRightMonitor(t, m)
			if m.Count < impl.MaxTime {
				wantStep(t, m, event(m.Now, "p"))
			}
			rights++
		}
	}
	if rights < 2000 || wrongs < 2000 {
		t.Errorf("%d right, %d wrong: too few", rights, wrongs)
	}
}

// Of several faults the first one is named: what is not right, then a Time below Now, then a full Count.
func TestPromise7WhichFaultIsNamed(t *testing.T) {
	late := stepped(t, "(since 0 4 p q)", event(5, "q"), event(9, "p"))
	full := copyMonitor(late)
	full.Count = impl.MaxTime
	wrong := copyMonitor(full)
	wrong.Cells[0].Was = true
	rows := []struct {
		why  string
		m    impl.Monitor
		e    impl.Event
		code int64
	}{
		{"both wrong", wrong, event(-1), impl.ErrForm},
		{"wrong, full and below Now", wrong, event(3), impl.ErrForm},
		{"wrong and full", wrong, event(9), impl.ErrForm},
		{"a wrong event, full", full, event(9, "q", "p"), impl.ErrForm},
		{"a wrong event, full and below Now", full, event(3, "q", "p"), impl.ErrForm},
		{"a wrong event below Now", late, event(8, "p", "p"), impl.ErrForm},
		{"no time below Now", late, event(-1), impl.ErrForm},
		{"full and below Now", full, event(8), impl.ErrRange},
		{"full and below Now, at 0", full, event(0), impl.ErrRange},
		{"below Now", late, event(8), impl.ErrRange},
		{"full at Now", full, event(9), impl.ErrFull},
		{"full above Now", full, event(10), impl.ErrFull},
	}
	for _, x := range rows {
		wantStepCode(t, x.why, x.m, x.e, x.code)
	}
	wantRightMonitor(t, full)
	wantNoMonitor(t, "too long and wrong", make([]impl.Node, impl.MaxList+1), impl.ErrSize)
}

// roomyMonitor has room behind each of its lists, the empty ones too, with something written into it.
func roomyMonitor(m impl.Monitor) impl.Monitor {
	m = copyMonitor(m)
	m.Formula = append(m.Formula, impl.Node{Kind: 77}, impl.Node{Kind: 78})[:len(m.Formula)]
	m.Cells = append(m.Cells, impl.Cell{Was: true}, impl.Cell{Was: true})[:len(m.Cells)]
	for i, c := range m.Cells {
		m.Cells[i].Keep.Times = append(c.Keep.Times, 1001, 1002, 1003)[:len(c.Keep.Times)]
	}
	return m
}

// wholeRoom is m with all room behind its lists shown.
func wholeRoom(m impl.Monitor) impl.Monitor {
	m.Formula = m.Formula[:cap(m.Formula)]
	m.Cells = slices.Clone(m.Cells[:cap(m.Cells)])
	for i, c := range m.Cells {
		m.Cells[i].Keep.Times = c.Keep.Times[:cap(c.Keep.Times)]
	}
	return m
}

func turnedNodes(f []impl.Node) {
	f = f[:cap(f)]
	for i := range f {
		f[i] = impl.Node{Kind: -77, Name: "turned"}
	}
}

func turnedBools(all []bool) {
	all = all[:cap(all)]
	for i := range all {
		all[i] = !all[i]
	}
}

// turnedLists writes into all memory that a monitor's lists have, the inner ones first.
func turnedLists(m impl.Monitor) {
	turnedNodes(m.Formula)
	for _, c := range m.Cells {
		turnedTimes(c.Keep.Times)
	}
	cells := m.Cells[:cap(m.Cells)]
	for i := range cells {
		cells[i] = impl.Cell{Keep: keep(-77, -77), Was: !cells[i].Was}
	}
}

// wantOwnLists asks twice, and writes into one answer, then into what was handed in.
func wantOwnLists(t *testing.T, what string, m impl.Monitor, call func(m impl.Monitor) impl.MonOut) {
	t.Helper()
	m = roomyMonitor(m)
	kept := copyMonitor(wholeRoom(m))
	first, second := call(m), call(m)
	told := copyMonOut(second)
	if !sameMonOut(first, second) {
		t.Errorf("%s: two answers of one call: %+v and %+v", what, first, second)
	}
	if !sameMonitor(wholeRoom(m), kept) {
		t.Errorf("%s: what was handed in was turned: %+v, it was %+v", what, wholeRoom(m), kept)
	}
	for i, x := range first.Monitor.Formula {
		if inside(x.Name, m.Formula[i].Name) || inside(x.Name, second.Monitor.Formula[i].Name) {
			t.Errorf("%s: node %d shares its Name", what, i)
		}
	}
	turnedLists(first.Monitor)
	turnedBools(first.All)
	if !sameMonitor(wholeRoom(m), kept) {
		t.Errorf("%s: written into the answer, what was handed in was turned: %+v, it was %+v", what, wholeRoom(m), kept)
	}
	if !sameMonOut(second, told) {
		t.Errorf("%s: written into one answer, another one was turned: %+v, it was %+v", what, second, told)
	}
	turnedLists(m)
	if !sameMonOut(second, told) {
		t.Errorf("%s: written into what was handed in, the answer was turned: %+v, it was %+v", what, second, told)
	}
	wantListsApart(t, what, second)
}

// wantListsApart writes into the lists of times one after the other: no other one is turned by it.
func wantListsApart(t *testing.T, what string, o impl.MonOut) {
	t.Helper()
	for i := range o.Monitor.Cells {
		kept := copyMonOut(o)
		times := o.Monitor.Cells[i].Keep.Times
		turnedTimes(times)
		kept.Monitor.Cells[i].Keep.Times = slices.Clone(times)
		if !sameMonOut(o, kept) {
			t.Errorf("%s: written into the times of cell %d, another list was turned: %+v, it was %+v", what, i, o, kept)
		}
	}
}

func TestPromise7MemoryOfMonitors(t *testing.T) {
	text := "(and (since 0 9 (prev 0 * pq) (once 0 9 pq)) (hist 0 * (or (once 1 9 pq) (not (hist 0 9 rst)))))"
	zero := begun(t, formula(t, text))
	late := stepped(t, text, event(1, "pq", "rst"), event(2, "pq"), event(5, "pq", "rst"), event(6), event(8, "pq"))
	full := copyMonitor(late)
	full.Count = impl.MaxTime
	wrong := copyMonitor(late)
	wrong.Cells[0].Was = true
	steps := map[string]impl.Event{
		"a put":         event(9, "pq"),
		"a drop":        event(9),
		"the same time": event(8, "pq", "rst"),
		"some go":       event(13, "rst"),
		"all go":        event(900, "rst"),
		"below Now":     event(7),
		"no event":      event(-1),
	}
	for what, e := range steps {
		step := func(m impl.Monitor) impl.MonOut { return impl.MonStep(m, e) }
		wantOwnLists(t, what+", none ahead", zero, step)
		wantOwnLists(t, what, late, step)
		wantOwnLists(t, what+", full", full, step)
		wantOwnLists(t, what+", wrong", wrong, step)
	}
	wantOwnLists(t, "MonNew", zero, func(m impl.Monitor) impl.MonOut { return impl.MonNew(m.Formula) })
	wantOwnLists(t, "MonRight", late, func(m impl.Monitor) impl.MonOut { impl.MonRight(m); return impl.MonOut{} })
	wantOwnLists(t, "MonSize", late, func(m impl.Monitor) impl.MonOut { return impl.MonOut{Code: impl.MonSize(m)} })
	wantOwnLists(t, "SizeMost", late, func(m impl.Monitor) impl.MonOut { return impl.MonOut{Code: impl.SizeMost(m.Formula)} })
	l := []impl.Event{event(0, "pq"), event(3, "rst"), event(4, "pq", "rst")}
	wantOwnLists(t, "MonRun", late, func(m impl.Monitor) impl.MonOut { return impl.MonOut{All: impl.MonRun(m.Formula, l)} })
}

func TestPromise8MemoryOfEvents(t *testing.T) {
	room := []string{"p", "q", "zz"}
	e := event(4, room[:2]...)
	m := stepped(t, "(once 0 3 (and p q))", event(2, "p"))
	got := impl.MonStep(m, e)
	told := copyMonOut(got)
	if !slices.Equal(room, []string{"p", "q", "zz"}) || e.Time != 4 {
		t.Errorf("the event was turned: %q", room)
	}
	room[0], room[1] = "a", "b"
	if !sameMonOut(got, told) {
		t.Errorf("written into the event, the answer was turned: %+v", got)
	}
	l := copyTrace([]impl.Event{event(0, "q"), event(1, "p", "q"), event(9, "p")})
	kept := copyTrace(l)
	f := formula(t, "(since 0 5 p q)")
	first, second := impl.MonRun(f, l), impl.MonRun(f, l)
	turnedBools(first)
	if !sameTrace(l, kept) || signs(second) != "++-" {
		t.Errorf("MonRun: the trace is %+v, another answer is %s", l, signs(second))
	}
}

// Two ways that go on from one monitor do not come upon each other.
func TestPromise8TwoWaysFromOneMonitor(t *testing.T) {
	r := rand.New(rand.NewSource(84))
	for _, text := range nestedTexts() {
		begin := stepped(t, text, nearTrace(r, 20)...)
		kept := copyMonitor(begin)
		one, other := begin, begin
		oneByRule, otherByRule := copyMonitor(begin), copyMonitor(begin)
		for i, e := range nearTrace(r, 15) {
			e.Time = min(begin.Now+int64(i), impl.MaxTime)
			one, oneByRule = impl.MonStep(one, e).Monitor, stepByRule(oneByRule, e).Monitor
			e.Names = nil
			other, otherByRule = impl.MonStep(other, e).Monitor, stepByRule(otherByRule, e).Monitor
		}
		if !sameMonitor(one, oneByRule) || !sameMonitor(other, otherByRule) || !sameMonitor(begin, kept) {
			t.Errorf("%s: two ways from %+v: got %+v and %+v", text, kept, one, other)
		}
	}
}
