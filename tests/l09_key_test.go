package tests

import (
	"math"
	"math/rand"
	"slices"
	"strconv"
	"strings"
	"testing"

	"loop.example/g00759/impl"
)

// keyed is an event that has come, and of which key.
type keyed struct {
	key string
	e   impl.Event
}

// keyedOf reads texts of a key and its event, as "a 5 p q".
func keyedOf(t *testing.T, texts ...string) []keyed {
	t.Helper()
	var all []keyed
	for _, text := range texts {
		key, rest, _ := strings.Cut(text, " ")
		got := impl.EventRead(rest)
		if got.Code != impl.OK {
			t.Fatalf("%s: no event, code %d", text, got.Code)
		}
		all = append(all, keyed{key: key, e: got.Event})
	}
	return all
}

func sameRow(a impl.Row, b impl.Row) bool {
	return a.Key == b.Key && sameMonitor(a.Monitor, b.Monitor)
}

func sameTable(a impl.Table, b impl.Table) bool {
	return sameFormula(a.Formula, b.Formula) && a.Cap == b.Cap && slices.EqualFunc(a.Rows, b.Rows, sameRow)
}

func sameTableOut(a impl.TableOut, b impl.TableOut) bool {
	return sameTable(a.Table, b.Table) && a.Verdict == b.Verdict && a.Code == b.Code
}

func copyTable(x impl.Table) impl.Table {
	x.Formula = slices.Clone(x.Formula)
	x.Rows = slices.Clone(x.Rows)
	for i, r := range x.Rows {
		x.Rows[i].Monitor = copyMonitor(r.Monitor)
	}
	return x
}

func copyTableOut(o impl.TableOut) impl.TableOut {
	o.Table = copyTable(o.Table)
	return o
}

// tableByRule asks for what the chapter names, row by row.
func tableByRule(x impl.Table) bool {
	if !impl.FormulaRight(x.Formula) || x.Cap < 1 || x.Cap > 12 || int64(len(x.Rows)) > x.Cap {
		return false
	}
	for i, r := range x.Rows {
		if !plainWord(r.Key) || i > 0 && strings.Compare(x.Rows[i-1].Key, r.Key) >= 0 {
			return false
		}
		if !monByRule(r.Monitor) || !sameFormula(r.Monitor.Formula, x.Formula) || r.Monitor.Count < 1 {
			return false
		}
	}
	return true
}

// bareMonitor is that of no event, of a right formula.
func bareMonitor(f []impl.Node) impl.Monitor {
	m := impl.Monitor{Formula: f, Cells: make([]impl.Cell, len(f))}
	for i, x := range f {
		if kindKeeps(x.Kind) {
			m.Cells[i].Keep = keep(x.Low, x.High)
		}
	}
	return m
}

// tablePutByRule names faults in the chapter's order, and finds a key's row by going through all.
func tablePutByRule(x impl.Table, key string, e impl.Event) impl.TableOut {
	if len(key) > 8000 {
		return impl.TableOut{Code: impl.ErrSize}
	}
	if !tableByRule(x) || !plainWord(key) || !eventByRule(e) {
		return impl.TableOut{Code: impl.ErrForm}
	}
	at := 0
	for at < len(x.Rows) && x.Rows[at].Key < key {
		at++
	}
	x = copyTable(x)
	if at == len(x.Rows) || x.Rows[at].Key != key {
		if int64(len(x.Rows)) == x.Cap {
			return impl.TableOut{Code: impl.ErrFull}
		}
		x.Rows = slices.Insert(x.Rows, at, impl.Row{Key: key, Monitor: bareMonitor(x.Formula)})
	}
	was := x.Rows[at].Monitor
	if e.Time < was.Now {
		return impl.TableOut{Code: impl.ErrRange}
	}
	if was.Count == 1000000 {
		return impl.TableOut{Code: impl.ErrFull}
	}
	told := stepByRule(was, e)
	x.Rows[at].Monitor = told.Monitor
	return impl.TableOut{Table: x, Verdict: told.Verdict}
}

// wantTable holds a right table to its keys and its size.
func wantTable(t *testing.T, x impl.Table) {
	t.Helper()
	if !impl.TableRight(x) {
		t.Fatalf("TableRight %.300s of %d rows: got no", impl.FormulaText(x.Formula), len(x.Rows))
	}
	var keys []string
	var size int64
	for _, r := range x.Rows {
		keys = append(keys, r.Key)
		size += impl.MonSize(r.Monitor)
	}
	if got := impl.KeysOf(x); !slices.Equal(got, keys) {
		t.Errorf("KeysOf: got %q, want %q", got, keys)
	}
	if got := impl.TableSize(x); got != size {
		t.Errorf("TableSize: got %d, want %d", got, size)
	}
}

// wantTablePut holds a call of any table, key and event to the rules.
func wantTablePut(t *testing.T, x impl.Table, key string, e impl.Event) impl.TableOut {
	t.Helper()
	got, want := impl.TablePut(x, key, e), tablePutByRule(x, key, e)
	if !sameTableOut(got, want) {
		t.Fatalf("TablePut of %q, %+v: got %.300s, want %.300s", key, e, tableText(got), tableText(want))
	}
	if got.Code == impl.OK {
		wantTable(t, got.Table)
	}
	return got
}

// wantTableCode is of a put that is refused: nothing is told but the code.
func wantTableCode(t *testing.T, why string, x impl.Table, key string, e impl.Event, code int64) {
	t.Helper()
	if got := impl.TablePut(x, key, e); !sameTableOut(got, impl.TableOut{Code: code}) {
		t.Errorf("%s: TablePut of %.40q, %d: got %.300s, want code %d", why, key, e.Time, tableText(got), code)
	}
}

// tableText is what is told in short, for a failure.
func tableText(o impl.TableOut) string {
	pieces := []string{"code " + strconv.FormatInt(o.Code, 10), strconv.FormatBool(o.Verdict), "cap " + strconv.FormatInt(o.Table.Cap, 10)}
	for _, r := range o.Table.Rows {
		m := r.Monitor
		pieces = append(pieces, r.Key+":"+strconv.FormatInt(m.Count, 10)+"@"+strconv.FormatInt(m.Now, 10)+"/"+strconv.FormatInt(impl.MonSize(m), 10))
	}
	return strings.Join(pieces, " ")
}

// wantWrongTable holds all calls to their answers for a table that is not right, whatever the key and the event.
func wantWrongTable(t *testing.T, why string, x impl.Table) {
	t.Helper()
	if impl.TableRight(x) {
		t.Errorf("%s: TableRight: got yes", why)
	}
	if got := impl.KeysOf(x); len(got) != 0 {
		t.Errorf("%s: KeysOf: got %.200q", why, got)
	}
	if got := impl.TableSize(x); got != -1 {
		t.Errorf("%s: TableSize: got %d", why, got)
	}
	keys := []string{"a", "zz", "A", ""}
	if len(x.Rows) > 0 && len(x.Rows[0].Key) <= impl.MaxBytes {
		keys = append(keys, x.Rows[0].Key)
	}
	for _, key := range keys {
		for _, e := range []impl.Event{event(0), event(9, "p"), event(impl.MaxTime, "p", "q"), event(-1), event(9, "q", "p")} {
			wantTableCode(t, why, x, key, e, impl.ErrForm)
		}
	}
	wantTableCode(t, why, x, strings.Repeat("a", impl.MaxBytes+1), event(9), impl.ErrSize)
}

// wantNoTable is of what TableNew refuses.
func wantNoTable(t *testing.T, why string, f []impl.Node, most int64, code int64) {
	t.Helper()
	if got := impl.TableNew(f, most); !sameTableOut(got, impl.TableOut{Code: code}) {
		t.Errorf("%s: TableNew of %d: got %.300s, want code %d", why, most, tableText(got), code)
	}
}

// opened is the table of no key.
func opened(t *testing.T, f []impl.Node, most int64) impl.Table {
	t.Helper()
	got := impl.TableNew(f, most)
	if !sameTableOut(got, impl.TableOut{Table: impl.Table{Formula: f, Cap: most}}) {
		t.Fatalf("TableNew of %d: got %.300s", most, tableText(got))
	}
	wantTable(t, got.Table)
	return got.Table
}

// filled is the table behind all that came, of which nothing is refused.
func filled(t *testing.T, text string, most int64, came ...string) impl.Table {
	t.Helper()
	x := opened(t, formula(t, text), most)
	for _, one := range keyedOf(t, came...) {
		got := wantTablePut(t, x, one.key, one.e)
		if got.Code != impl.OK {
			t.Fatalf("TablePut of %+v: code %d", one, got.Code)
		}
		x = got.Table
	}
	return x
}

// own is what is known of one key, by its own events alone.
type own struct {
	monitor impl.Monitor
	events  []impl.Event
}

func (o *own) step(t *testing.T, x tree, e impl.Event) bool {
	t.Helper()
	told := impl.MonStep(o.monitor, e)
	o.monitor, o.events = told.Monitor, append(o.events, e)
	verdicts := x.verdicts(o.events)
	if told.Code != impl.OK || told.Verdict != verdicts[len(verdicts)-1] {
		t.Fatalf("MonStep %s of %+v: got code %d, %t", x.text(), o.events, told.Code, told.Verdict)
	}
	return told.Verdict
}

// wantAlone puts all that came, and holds each key to what its own events alone tell. It tells the table, and all verdicts.
func wantAlone(t *testing.T, x tree, most int64, came []keyed) (impl.Table, string) {
	t.Helper()
	table := opened(t, x.formula(), most)
	owns := make(map[string]*own)
	var verdicts []bool
	for _, one := range came {
		ahead := copyTable(table)
		if owns[one.key] == nil {
			owns[one.key] = &own{monitor: begun(t, x.formula())}
		}
		yes := owns[one.key].step(t, x, one.e)
		got := impl.TablePut(table, one.key, one.e)
		if got.Code != impl.OK || got.Verdict != yes || got.Table.Cap != most || !sameFormula(got.Table.Formula, x.formula()) {
			t.Fatalf("%s: TablePut of %+v: got %.300s, want %t", x.text(), one, tableText(got), yes)
		}
		wantTable(t, got.Table)
		if !sameTable(table, ahead) {
			t.Fatalf("%s: TablePut of %+v turned the table that was handed in", x.text(), one)
		}
		wantRowsOf(t, got.Table, owns)
		wantOthersStay(t, ahead, got.Table, one.key)
		table, verdicts = got.Table, append(verdicts, got.Verdict)
	}
	return table, signs(verdicts)
}

func wantRowsOf(t *testing.T, x impl.Table, owns map[string]*own) {
	t.Helper()
	if len(x.Rows) != len(owns) {
		t.Fatalf("%d rows of %d keys", len(x.Rows), len(owns))
	}
	for _, r := range x.Rows {
		if owns[r.Key] == nil || !sameMonitor(r.Monitor, owns[r.Key].monitor) {
			t.Fatalf("key %q is not as its own events tell: %.300s", r.Key, tableText(impl.TableOut{Table: x}))
		}
	}
}

func wantOthersStay(t *testing.T, ahead impl.Table, x impl.Table, key string) {
	t.Helper()
	isKey := func(r impl.Row) bool { return r.Key == key }
	were, are := slices.DeleteFunc(slices.Clone(ahead.Rows), isKey), slices.DeleteFunc(slices.Clone(x.Rows), isKey)
	if !slices.EqualFunc(were, are, sameRow) {
		t.Fatalf("an event of %q turned other rows", key)
	}
}

// someKeys are of all lengths, the shorter one first where one begins the other.
func someKeys() []string {
	return []string{"a", "aa", "aaaaaaaa", "ab", "b", "h", "histo", "m", "nots", "p", "zzzzzzz", "zzzzzzzz"}
}

// eachOwn has a row of events for each key, at times that have nothing to do with those of others.
func eachOwn(r *rand.Rand, keys []string, many int) map[string][]impl.Event {
	all := make(map[string][]impl.Event)
	for _, key := range keys {
		all[key] = nearTrace(r, 1+r.Intn(many))
	}
	return all
}

// keyByKey has all events of one key, then all of the next.
func keyByKey(all map[string][]impl.Event, keys []string) []keyed {
	var came []keyed
	for _, key := range keys {
		for _, e := range all[key] {
			came = append(came, keyed{key: key, e: e})
		}
	}
	return came
}

// inTurns has the first event of each key, then the second of each that has one.
func inTurns(all map[string][]impl.Event, keys []string) []keyed {
	var came []keyed
	for i, more := 0, true; more; i++ {
		more = false
		for _, key := range keys {
			if i < len(all[key]) {
				came, more = append(came, keyed{key: key, e: all[key][i]}), true
			}
		}
	}
	return came
}

// anyTurns takes always the next event of some key.
func anyTurns(r *rand.Rand, all map[string][]impl.Event, keys []string) []keyed {
	var turns []string
	for _, one := range keyByKey(all, keys) {
		turns = append(turns, one.key)
	}
	r.Shuffle(len(turns), func(i int, j int) { turns[i], turns[j] = turns[j], turns[i] })
	next := make(map[string]int)
	var came []keyed
	for _, key := range turns {
		came = append(came, keyed{key: key, e: all[key][next[key]]})
		next[key]++
	}
	return came
}

// byKey are the verdicts of each key alone.
func byKey(came []keyed, verdicts string) map[string]string {
	all := make(map[string]string)
	for i, one := range came {
		all[one.key] += verdicts[i : i+1]
	}
	return all
}

func TestConstantsOfChapter10(t *testing.T) {
	if impl.MaxKeys != 12 {
		t.Errorf("MaxKeys: got %d", impl.MaxKeys)
	}
}

func TestPromise12EachKind(t *testing.T) {
	came := keyedOf(t, "a 0 q", "b 5 p", "a 2 p", "b 5 q", "a 9", "b 6 p q")
	kinds := map[string]string{
		"true":                "++++++",
		"p":                   "-++--+",
		"other":               "------",
		"(not p)":             "+--++-",
		"(and p q)":           "-----+",
		"(or p q)":            "++++-+",
		"(prev 0 * p)":        "---++-",
		"(prev 0 3 p)":        "---+--",
		"(prev 1 * q)":        "--+--+",
		"(once 0 3 q)":        "+-++-+",
		"(once 1 * p)":        "----++",
		"(hist 0 * p)":        "-+----",
		"(hist 0 0 (or p q))": "++++-+",
		"(hist 7 * p)":        "++++-+",
		"(since 0 * p q)":     "+-++-+",
		"(since 0 1 p q)":     "+--+-+",
		"(since 1 * p q)":     "--+--+",
	}
	for text, want := range kinds {
		table, got := wantAlone(t, treeOfText(t, text), 2, came)
		if got != want {
			t.Errorf("%s: got %s, want %s", text, got, want)
		}
		if keys := impl.KeysOf(table); !slices.Equal(keys, []string{"a", "b"}) {
			t.Errorf("%s: KeysOf tells %q", text, keys)
		}
	}
}

// One key alone is told what a monitor alone tells.
func TestPromise12OneKey(t *testing.T) {
	r := rand.New(rand.NewSource(121))
	for _, text := range nestedTexts() {
		x := treeOfText(t, text)
		l := nearTrace(r, impl.MaxTrace)
		all := map[string][]impl.Event{"only": l}
		table, got := wantAlone(t, x, 1, keyByKey(all, []string{"only"}))
		if want := signs(impl.MonRun(x.formula(), l)); got != want {
			t.Errorf("%s: got %s, want %s", text, got, want)
		}
		if size := impl.TableSize(table); size != impl.MonSize(table.Rows[0].Monitor) {
			t.Errorf("%s: TableSize %d", text, size)
		}
	}
}

// Whatever the order in which keys take their turns, each one is told the same, and the table is the same in the end.
func TestPromise12WhateverTheTurns(t *testing.T) {
	r := rand.New(rand.NewSource(122))
	for _, text := range nestedTexts() {
		x := treeOfText(t, text)
		keys := someKeys()[:2+r.Intn(impl.MaxKeys-1)]
		all := eachOwn(r, keys, 9)
		first := keyByKey(all, keys)
		table, verdicts := wantAlone(t, x, impl.MaxKeys, first)
		alone := byKey(first, verdicts)
		for key, l := range all {
			if want := signs(impl.MonRun(x.formula(), l)); alone[key] != want {
				t.Errorf("%s: of %q %s, want %s", text, key, alone[key], want)
			}
		}
		back := slices.Clone(keys)
		slices.Reverse(back)
		for _, came := range [][]keyed{keyByKey(all, back), inTurns(all, keys), inTurns(all, back), anyTurns(r, all, keys), anyTurns(r, all, back)} {
			other, verdicts := wantAlone(t, x, impl.MaxKeys, came)
			for key, told := range byKey(came, verdicts) {
				if told != alone[key] {
					t.Errorf("%s: of %q %s, in other turns %s", text, key, alone[key], told)
				}
			}
			if !sameTable(table, other) {
				t.Errorf("%s: in other turns another table", text)
			}
		}
	}
}

func TestPromise12AnyFormula(t *testing.T) {
	r := rand.New(rand.NewSource(123))
	for i, x := range rightTrees(250) {
		if i%3 > 0 {
			x = x.near(r)
		}
		keys := someKeys()
		r.Shuffle(len(keys), func(i int, j int) { keys[i], keys[j] = keys[j], keys[i] })
		keys = keys[:1+r.Intn(5)]
		wantAlone(t, x, int64(len(keys)+r.Intn(impl.MaxKeys-len(keys))), anyTurns(r, eachOwn(r, keys, 6), keys))
	}
}

// The first event of a key makes its row, wherever it falls.
func TestPromise12NewKeysFindTheirPlace(t *testing.T) {
	rows := []struct{ first, then, want string }{
		{"m", "a", "a m"}, {"m", "z", "m z"}, {"m", "mm", "m mm"}, {"mm", "m", "m mm"},
		{"c f m", "a", "a c f m"}, {"c f m", "d", "c d f m"}, {"c f m", "g", "c f g m"}, {"c f m", "n", "c f m n"},
		{"c f m", "b z", "b c f m z"}, {"m f c", "ff cc e", "c cc e f ff m"}, {"b a", "aaaaaaaa", "a aaaaaaaa b"},
		{"z y x w v u t s r q p", "o", "o p q r s t u v w x y z"}, {"a b c d e f g h i j k", "ee", "a b c d e ee f g h i j k"},
		{"a b c d e f g h i j k", "zz", "a b c d e f g h i j k zz"},
	}
	for _, x := range rows {
		table := filled(t, "(once 0 3 p)", impl.MaxKeys)
		var at int64 = 90
		for _, key := range strings.Fields(x.first + " " + x.then) {
			got := wantTablePut(t, table, key, event(at, "p"))
			if got.Code != impl.OK || !got.Verdict {
				t.Fatalf("first event of %q: got %.300s", key, tableText(got))
			}
			wantOthersStay(t, table, got.Table, key)
			table = got.Table
			// Each key comes earlier than those that are there.
			at -= 3
		}
		if keys := impl.KeysOf(table); strings.Join(keys, " ") != x.want {
			t.Errorf("%s, then %s: KeysOf tells %q", x.first, x.then, keys)
		}
		for _, r := range table.Rows {
			if r.Monitor.Count != 1 || impl.MonSize(r.Monitor) != 1 {
				t.Errorf("%s, then %s: %q has Count %d", x.first, x.then, r.Key, r.Monitor.Count)
			}
		}
	}
}

// What is told of the first event of a key is what is told of the first event of all.
func TestPromise12FirstEventOfAKey(t *testing.T) {
	for _, text := range []string{"true", "p", "(prev 0 * true)", "(once 0 0 p)", "(once 1 * p)", "(hist 0 * p)", "(hist 1 * q)", "(since 0 * q p)", "(since 1 * p p)"} {
		busy := filled(t, text, 4, "a 3 p q", "b 3 q", "b 7 p", "c 1000000 p q")
		for _, key := range []string{"aa", "bb", "d", "z"} {
			for _, time := range []int64{0, 1, 3, 7, impl.MaxTime - 1, impl.MaxTime} {
				e := event(time, "p")
				alone := impl.MonStep(begun(t, busy.Formula), e)
				got := wantTablePut(t, busy, key, e)
				at := slices.IndexFunc(got.Table.Rows, func(r impl.Row) bool { return r.Key == key })
				if at < 0 || got.Verdict != alone.Verdict || !sameMonitor(got.Table.Rows[at].Monitor, alone.Monitor) {
					t.Errorf("%s of %q at %d: got %.300s", text, key, time, tableText(got))
				}
			}
		}
	}
}

func TestPromise12FullTables(t *testing.T) {
	for most := range int64(impl.MaxKeys) {
		most++
		table := opened(t, formula(t, "(since 0 5 p q)"), most)
		keys := someKeys()[:most]
		for i, key := range keys {
			if got := impl.TablePut(table, key, event(int64(i), "q")); got.Code != impl.OK || len(got.Table.Rows) != i+1 {
				t.Fatalf("Cap %d, key %d: got %.300s", most, i, tableText(got))
			}
			table = wantTablePut(t, table, key, event(int64(i), "q")).Table
		}
		// One key more, ahead of all, between, behind all, and at times that MonStep would take or not.
		for _, key := range []string{"aaa", "ac", "c", "zzz", "abcdefgh", "zzzzzzy"} {
			for _, time := range []int64{0, 20, impl.MaxTime} {
				wantTableCode(t, "Cap "+strconv.FormatInt(most, 10), table, key, event(time, "p"), impl.ErrFull)
			}
		}
		for _, key := range keys {
			got := wantTablePut(t, table, key, event(20, "p"))
			if got.Code != impl.OK || len(got.Table.Rows) != int(most) {
				t.Errorf("Cap %d: a key that is there: got %.300s", most, tableText(got))
			}
			table = got.Table
		}
		table.Cap++
		if most == impl.MaxKeys {
			wantWrongTable(t, "Cap above MaxKeys", table)
			continue
		}
		if got := wantTablePut(t, table, "aaa", event(0)); len(got.Table.Rows) != int(most+1) {
			t.Errorf("Cap %d with room for one: got %.300s", most+1, tableText(got))
		}
		table.Cap -= 2
		wantWrongTable(t, "one row more than Cap", table)
	}
}

func TestPromise12Caps(t *testing.T) {
	texts := []string{"p", "true", "(once 0 3 p)", "(since 0 * (not p) (prev 1 2 q))"}
	for _, text := range texts {
		f := formula(t, text)
		for most := range int64(impl.MaxKeys) {
			x := opened(t, f, most+1)
			if size := impl.TableSize(x); size != 0 {
				t.Errorf("TableSize without rows: got %d", size)
			}
			if keys := impl.KeysOf(x); len(keys) != 0 {
				t.Errorf("KeysOf without rows: got %q", keys)
			}
			wantTablePut(t, x, "k", event(4, "p"))
		}
		for _, most := range []int64{0, -1, -2, -12, impl.MaxKeys + 1, impl.MaxKeys + 2, impl.MaxList, impl.MaxList + 1, math.MaxInt64, math.MinInt64, 1 << 32, 1<<32 + 1} {
			wantNoTable(t, "Cap", f, most, impl.ErrForm)
			wantWrongTable(t, "Cap "+strconv.FormatInt(most, 10), impl.Table{Formula: f, Cap: most})
			x := filled(t, text, 1, "k 4 p")
			x.Cap = most
			wantWrongTable(t, "Cap with a row "+strconv.FormatInt(most, 10), x)
		}
	}
	wantWrongTable(t, "the zero one", impl.Table{})
}

// wrongKeys are no names as of WordRight, and none is longer than a text may be.
func wrongKeys() []string {
	return []string{"", " ", "A", "aB", "k1", "1", "_", "a_b", "a ", " a", "a\n", "a\x00", "`", "{", "é", "a\xff", "abcdefghi", "a-b",
		"true", "not", "and", "or", "prev", "once", "hist", "since", strings.Repeat("a", 20), strings.Repeat("a", impl.MaxBytes)}
}

func TestPromise12WhichKeys(t *testing.T) {
	none := filled(t, "(once 0 3 p)", 3)
	some := filled(t, "(once 0 3 p)", 3, "b 5 p", "y 7 q")
	full := filled(t, "(once 0 3 p)", 2, "b 5 p", "y 7 q")
	for _, key := range append(someKeys(), "tru", "truee", "no", "sinces", "abcdefgh", "zzzzzzzz") {
		for _, x := range []impl.Table{none, some} {
			if got := wantTablePut(t, x, key, event(9, "p")); got.Code != impl.OK || !slices.Contains(impl.KeysOf(got.Table), key) {
				t.Errorf("%q: got %.300s", key, tableText(got))
			}
		}
	}
	for _, key := range wrongKeys() {
		for _, x := range []impl.Table{none, some, full} {
			wantTableCode(t, "a wrong key", x, key, event(9, "p"), impl.ErrForm)
			wantTableCode(t, "a wrong key at 0", x, key, event(0), impl.ErrForm)
		}
		x := copyTable(some)
		x.Rows[0].Key = key
		wantWrongTable(t, "a wrong key as the first", x)
		x = copyTable(some)
		x.Rows[1].Key = key
		wantWrongTable(t, "a wrong key as the last", x)
	}
	for _, many := range []int{impl.MaxBytes + 1, 3 * impl.MaxBytes} {
		key := strings.Repeat("a", many)
		for _, x := range []impl.Table{none, some, full, {}} {
			wantTableCode(t, "too long a key", x, key, event(9, "p"), impl.ErrSize)
			wantTableCode(t, "too long a key, no event", x, key, event(-1), impl.ErrSize)
		}
		x := copyTable(some)
		x.Rows[0].Key = key
		wantWrongTable(t, "too long a key as the first", x)
		wantTableCode(t, "a table's key is a field", x, "b", event(9), impl.ErrForm)
	}
}

func TestPromise12TimesOfKeys(t *testing.T) {
	for _, text := range []string{"p", "(prev 0 * p)", "(once 0 5 p)", "(hist 0 5 q)", "(since 0 * p p)"} {
		x := filled(t, text, 4, "early 0 p", "late 1000000 p", "mid 50 q", "mid 60 p")
		for key, now := range map[string]int64{"early": 0, "late": impl.MaxTime, "mid": 60, "new": 0} {
			for _, time := range []int64{0, 1, 49, 50, 59, 60, 61, impl.MaxTime - 1, impl.MaxTime} {
				if time < now {
					wantTableCode(t, "below its own Now", x, key, event(time, "p"), impl.ErrRange)
					continue
				}
				if got := wantTablePut(t, x, key, event(time, "p")); got.Code != impl.OK {
					t.Errorf("%s of %q at %d: code %d", text, key, time, got.Code)
				}
			}
			for _, time := range noTimes() {
				wantTableCode(t, "no time", x, key, event(time, "p"), impl.ErrForm)
			}
		}
	}
}

func TestPromise12Counts(t *testing.T) {
	for _, text := range []string{"p", "(prev 0 * p)", "(and (once 0 5 p) (since 1 * p q))"} {
		x := filled(t, text, 3, "a 4 p", "b 6 p q", "b 7 q")
		for at, key := range []string{"a", "b"} {
			for _, count := range []int64{1, 2, impl.MaxTrace + 1, impl.MaxList + 1, impl.MaxTime - 2, impl.MaxTime - 1} {
				x.Rows[at].Monitor.Count = count
				got := wantTablePut(t, x, key, event(7, "p"))
				if got.Code != impl.OK || got.Table.Rows[at].Monitor.Count != count+1 {
					t.Errorf("%s: behind Count %d: got %.300s", text, count, tableText(got))
				}
			}
			x.Rows[at].Monitor.Count = impl.MaxTime
			wantTable(t, x)
			wantTableCode(t, "Count at MaxTime", x, key, event(7, "p"), impl.ErrFull)
			wantTableCode(t, "Count at MaxTime", x, key, event(impl.MaxTime), impl.ErrFull)
			wantTableCode(t, "Count at MaxTime, below Now", x, key, event(3), impl.ErrRange)
			// Of another key, old or new, nothing stands in the way.
			for _, other := range []string{"aa", "c"} {
				if got := wantTablePut(t, x, other, event(0, "p")); got.Code != impl.OK {
					t.Errorf("%s: %q beside a full one: code %d", text, other, got.Code)
				}
			}
			for _, count := range []int64{0, -1, impl.MaxTime + 1, math.MinInt64, math.MaxInt64} {
				x.Rows[at].Monitor.Count = count
				wantWrongTable(t, "Count "+strconv.FormatInt(count, 10), x)
			}
			x.Rows[at].Monitor.Count = 3
		}
		x.Rows[0].Monitor.Count = impl.MaxTime
		if got := wantTablePut(t, x, "b", event(7, "p")); got.Code != impl.OK || got.Table.Rows[0].Monitor.Count != impl.MaxTime {
			t.Errorf("%s: an old key beside a full one: got %.300s", text, tableText(got))
		}
	}
}

// A Monitor of no event is right by itself, but in no table.
func TestPromise12NoEvent(t *testing.T) {
	for _, text := range append(nestedTexts(), "p", "true", "(prev 0 3 p)") {
		bare := begun(t, formula(t, text))
		one := filled(t, text, 3, "b 5 p q")
		for _, rows := range [][]impl.Row{
			{{Key: "a", Monitor: bare}},
			{{Key: "a", Monitor: bare}, one.Rows[0]},
			{one.Rows[0], {Key: "c", Monitor: bare}},
		} {
			wantWrongTable(t, "no event ahead, "+text, impl.Table{Formula: bare.Formula, Cap: 3, Rows: rows})
		}
	}
}

func TestPromise12SizeOfAllRows(t *testing.T) {
	steps := []struct {
		came string
		size int64
	}{
		{"a 5 p", 2}, {"b 5 p", 4}, {"a 6 p", 6}, {"c 0 q", 6}, {"b 6 q", 6}, {"a 7", 7}, {"c 1", 8}, {"b 900 q", 6}, {"a 1000000 q", 1},
	}
	x := filled(t, "(and (once 1 3 p) (hist 0 2 q))", 3)
	for _, s := range steps {
		one := keyedOf(t, s.came)[0]
		x = wantTablePut(t, x, one.key, one.e).Table
		if got := impl.TableSize(x); got != s.size {
			t.Errorf("TableSize behind %s: got %d, want %d: %.300s", s.came, got, s.size, tableText(impl.TableOut{Table: x}))
		}
	}
	// As many times as there may be, of each key.
	x = filled(t, "(since 0 1000 p p)", impl.MaxKeys)
	for i := range x.Cap {
		m := begun(t, x.Formula)
		m.Count, m.Now, m.Cells[1].Keep.Times = 1001, 1000, risingTimes(0, 1001)
		x.Rows = append(x.Rows, impl.Row{Key: string(rune('a' + i)), Monitor: m})
		wantTable(t, x)
		if got := impl.TableSize(x); got != 1001*(i+1) {
			t.Errorf("TableSize of %d full rows: got %d", i+1, got)
		}
	}
	wantTablePut(t, x, "l", event(1001, "p"))
}

func TestPromise12ManyNodes(t *testing.T) {
	came := []keyed{{"b", event(0, "p")}, {"a", event(3, "p")}, {"b", event(4)}, {"a", event(3)}}
	for _, many := range []int{1, 2, impl.MaxNodes - 1, impl.MaxNodes} {
		x, ok := treeOf(nots(many), many-1)
		if !ok {
			t.Fatalf("no tree of %d nodes", many)
		}
		_, got := wantAlone(t, x, 2, came)
		if want := []string{"--++", "++--"}[many%2]; got != want {
			t.Errorf("%d nodes: got %s, want %s", many, got, want)
		}
	}
	for _, kind := range []int64{impl.FmAnd, impl.FmPrev, impl.FmOnce, impl.FmHist, impl.FmSince} {
		for _, b := range [][2]int64{{0, -1}, {1, 2}, {0, impl.MaxBound}} {
			if kind == impl.FmAnd {
				b = [2]int64{}
			}
			f := piled(kind, b[0], b[1])
			x := opened(t, f, impl.MaxKeys)
			for time := range int64(3) {
				for _, key := range someKeys() {
					x = wantTablePut(t, x, key, event(time*time, "p")).Table
				}
			}
		}
	}
	for _, many := range []int{impl.MaxNodes + 1, impl.MaxList, impl.MaxList + 1, 3 * impl.MaxList} {
		code := int64(impl.ErrForm)
		// As such a list of more than MaxList is refused ahead of all else.
		if many > impl.MaxList {
			code = impl.ErrSize
		}
		for _, f := range [][]impl.Node{nots(many), make([]impl.Node, many)} {
			for _, most := range []int64{1, impl.MaxKeys, 0, impl.MaxKeys + 1} {
				wantNoTable(t, strconv.Itoa(many)+" nodes", f, most, code)
			}
			// In a table it is a field.
			wantWrongTable(t, strconv.Itoa(many)+" nodes", impl.Table{Formula: f, Cap: 3})
		}
	}
}

func TestPromise12WrongFormulas(t *testing.T) {
	for why, f := range wrongFormulas() {
		for _, most := range []int64{1, 5, impl.MaxKeys, 0, -1, impl.MaxKeys + 1} {
			wantNoTable(t, why, f, most, impl.ErrForm)
		}
		wantWrongTable(t, why, impl.Table{Formula: f, Cap: 3})
		// Its own monitors are no more right.
		m := bareMonitor(f)
		m.Count = 1
		wantWrongTable(t, why+", with a row", impl.Table{Formula: f, Cap: 3, Rows: []impl.Row{{Key: "a", Monitor: m}}})
		x := filled(t, "(once 0 3 p)", 3, "b 4 p")
		x.Formula = f
		wantWrongTable(t, why+", with a row of a right one", x)
	}
}

func TestPromise12WrongRows(t *testing.T) {
	text := "(since 0 4 (prev 0 3 p) (hist 1 * q))"
	begin := filled(t, text, 4, "b 2 p", "d 3 q", "f 9 p q", "b 5 q", "d 3 p")
	wantTable(t, begin)
	turn := func(why string, change func(x *impl.Table)) {
		x := copyTable(begin)
		change(&x)
		wantWrongTable(t, why, x)
	}
	row := func(key string) impl.Row { return impl.Row{Key: key, Monitor: begin.Rows[0].Monitor} }
	turn("keys that fall, ahead", func(x *impl.Table) { x.Rows[0].Key = "e" })
	turn("keys that fall, behind", func(x *impl.Table) { x.Rows[2].Key = "c" })
	turn("keys turned about", func(x *impl.Table) { slices.Reverse(x.Rows) })
	turn("the longer key first", func(x *impl.Table) { x.Rows[0].Key, x.Rows[1].Key = "dd", "d" })
	turn("two keys alike, ahead", func(x *impl.Table) { x.Rows[1].Key = "b" })
	turn("two keys alike, behind", func(x *impl.Table) { x.Rows[1].Key = "f" })
	turn("two rows alike", func(x *impl.Table) { x.Rows[1] = x.Rows[0] })
	turn("a row behind that falls", func(x *impl.Table) { x.Rows = append(x.Rows, row("a")) })
	turn("Cap of one row less", func(x *impl.Table) { x.Cap = 2 })
	turn("Cap 1", func(x *impl.Table) { x.Cap = 1 })
	turn("more rows than Cap", func(x *impl.Table) { x.Rows = append(x.Rows, row("g"), row("h")) })
	turn("very many rows", func(x *impl.Table) { x.Rows = make([]impl.Row, impl.MaxList+1) })
	turn("a zero row", func(x *impl.Table) { x.Rows = append(x.Rows, impl.Row{}) })
	turn("a zero Monitor", func(x *impl.Table) { x.Rows = append(x.Rows, impl.Row{Key: "g"}) })
	turn("another formula of the table", func(x *impl.Table) { x.Formula = formula(t, "p") })
	turn("another bound of the table", func(x *impl.Table) { x.Formula = formula(t, "(since 0 4 (prev 0 3 p) (hist 2 * q))") })
	turn("another name of the table", func(x *impl.Table) { x.Formula = formula(t, "(since 0 4 (prev 0 3 p) (hist 1 * r))") })
	turn("a part of the table", func(x *impl.Table) { x.Formula = impl.PartOf(x.Formula, 1) })
	for at := range begin.Rows {
		i := " of row " + strconv.Itoa(at)
		last := len(begin.Formula) - 1
		monitor := func(why string, change func(m *impl.Monitor)) {
			turn(why+i, func(x *impl.Table) { change(&x.Rows[at].Monitor) })
		}
		monitor("Count 0", func(m *impl.Monitor) { m.Count = 0 })
		monitor("Count below 0", func(m *impl.Monitor) { m.Count = -1 })
		monitor("Count above MaxTime", func(m *impl.Monitor) { m.Count = impl.MaxTime + 1 })
		monitor("Now below its times", func(m *impl.Monitor) { m.Now = 0; m.Cells[last].Keep.Times = []int64{1} })
		monitor("Now no time", func(m *impl.Monitor) { m.Now = -1 })
		monitor("no cells", func(m *impl.Monitor) { m.Cells = nil })
		monitor("a cell too few", func(m *impl.Monitor) { m.Cells = m.Cells[:last] })
		monitor("a Was of an atom", func(m *impl.Monitor) { m.Cells[0].Was = true })
		monitor("another Keep", func(m *impl.Monitor) { m.Cells[last].Keep.High++ })
		monitor("another name", func(m *impl.Monitor) { m.Formula[0].Name = "r" })
		monitor("no formula", func(m *impl.Monitor) { m.Formula = nil })
		monitor("another bound", func(m *impl.Monitor) { m.Formula[last].High, m.Cells[last].Keep.High = 6, 6 })
		turn("another right formula"+i, func(x *impl.Table) { x.Rows[at].Monitor = filled(t, "p", 1, "a 4 p").Rows[0].Monitor })
		turn("a zero Monitor"+i, func(x *impl.Table) { x.Rows[at].Monitor = impl.Monitor{} })
		turn("of no event"+i, func(x *impl.Table) { x.Rows[at].Monitor = begun(t, x.Formula) })
	}
}

func TestPromise12WrongEvents(t *testing.T) {
	for _, text := range []string{"p", "(prev 0 * p)", "(since 0 3 p (once 0 * p))"} {
		none := filled(t, text, 2)
		one := filled(t, text, 2, "a 7 p")
		full := filled(t, text, 2, "a 7 p", "b 5")
		for why, e := range wrongEvents() {
			for _, key := range []string{"a", "b", "c"} {
				for _, x := range []impl.Table{none, one, full} {
					wantTableCode(t, why, x, key, e, impl.ErrForm)
				}
			}
		}
		for _, key := range []string{"a", "b"} {
			if got := wantTablePut(t, full, key, event(7, eightNames()...)); got.Code != impl.OK {
				t.Errorf("eight names: code %d", got.Code)
			}
		}
	}
}

// Of several faults the first one is named: what is too long, what is not right, no room for a key, then what MonStep tells.
func TestPromise12WhichFaultIsNamed(t *testing.T) {
	long := strings.Repeat("a", impl.MaxBytes+1)
	some := filled(t, "(since 0 4 p q)", 3, "a 5 q", "b 9 p")
	full := filled(t, "(since 0 4 p q)", 2, "a 5 q", "b 9 p")
	worn := copyTable(full)
	worn.Rows[0].Monitor.Count = impl.MaxTime
	wrong := copyTable(worn)
	wrong.Rows[1].Monitor.Cells[0].Was = true
	rows := []struct {
		why  string
		x    impl.Table
		key  string
		e    impl.Event
		code int64
	}{
		{"all wrong, too long a key", wrong, long, event(-1), impl.ErrSize},
		{"too long a key, full", full, long, event(1), impl.ErrSize},
		{"too long a key alone", some, long, event(9), impl.ErrSize},
		{"a wrong table, key and event", wrong, "A", event(-1), impl.ErrForm},
		{"a wrong table, full", wrong, "c", event(9), impl.ErrForm},
		{"a wrong table, below Now", wrong, "b", event(8), impl.ErrForm},
		{"a wrong table, a worn Monitor", wrong, "a", event(9), impl.ErrForm},
		{"a wrong table in another row", wrong, "a", event(3), impl.ErrForm},
		{"a wrong key, full", full, "A", event(9), impl.ErrForm},
		{"a wrong event of a new key, full", full, "c", event(9, "q", "p"), impl.ErrForm},
		{"no time of a new key, full", full, "c", event(-1), impl.ErrForm},
		{"no time of an old key", full, "a", event(-1), impl.ErrForm},
		{"a wrong event below Now", full, "b", event(8, "p", "p"), impl.ErrForm},
		{"a wrong event, worn", worn, "a", event(9, "q", "p"), impl.ErrForm},
		{"a new key, full", full, "c", event(9), impl.ErrFull},
		{"a new key, full, earlier than others", full, "c", event(0), impl.ErrFull},
		{"below Now, full", full, "b", event(8), impl.ErrRange},
		{"below Now, with room", some, "b", event(8), impl.ErrRange},
		{"worn and below Now", worn, "a", event(4), impl.ErrRange},
		{"worn", worn, "a", event(5), impl.ErrFull},
		{"as late as its own Now", full, "a", event(5), impl.OK},
		{"earlier than another key's", some, "c", event(0), impl.OK},
	}
	for _, x := range rows {
		if got := wantTablePut(t, x.x, x.key, x.e); got.Code != x.code {
			t.Errorf("%s: code %d, want %d", x.why, got.Code, x.code)
		}
	}
	manyNodes := make([]impl.Node, impl.MaxList+1)
	wantNoTable(t, "too long a formula, no Cap", manyNodes, 0, impl.ErrSize)
	wantNoTable(t, "too long a formula", manyNodes, 1, impl.ErrSize)
	wantNoTable(t, "a wrong formula, no Cap", manyNodes[1:], 0, impl.ErrForm)
	wantNoTable(t, "no Cap alone", some.Formula, 0, impl.ErrForm)
}

// anyTable is right, and need not have begun anywhere.
func anyTable(r *rand.Rand, f []impl.Node) impl.Table {
	x := impl.Table{Formula: f, Cap: 1 + r.Int63n(impl.MaxKeys)}
	keys := someKeys()
	for at := range keys {
		if r.Intn(3) == 0 || int64(len(x.Rows)) == x.Cap {
			continue
		}
		m := anyMonitor(r, slices.Clone(f))
		if m.Count == 0 {
			m.Count = 1
		}
		x.Rows = append(x.Rows, impl.Row{Key: keys[at], Monitor: m})
	}
	return x
}

// turnedTable has one thing a little otherwise.
func turnedTable(r *rand.Rand, x impl.Table) impl.Table {
	x = copyTable(x)
	step := int64(r.Intn(3) - 1)
	if len(x.Rows) == 0 {
		x.Cap += step * impl.MaxKeys
		return x
	}
	i, j := r.Intn(len(x.Rows)), r.Intn(len(x.Rows))
	keys := append(wrongKeys(), someKeys()...)
	switch r.Intn(9) {
	case 0:
		x.Cap += step
	case 1:
		x.Rows[i].Key = keys[r.Intn(len(keys))]
	case 2:
		x.Rows[i].Key, x.Rows[j].Key = x.Rows[j].Key, x.Rows[i].Key
	case 3:
		x.Rows[i].Monitor, x.Rows[j].Monitor = x.Rows[j].Monitor, x.Rows[i].Monitor
	case 4:
		x.Rows = slices.Delete(x.Rows, i, i+1)
	case 5:
		x.Rows = append(x.Rows, impl.Row{Key: "zzzzzzzz", Monitor: x.Rows[i].Monitor})
	case 6:
		x.Formula = turnedRow(r, x.Formula)
	case 7:
		x.Rows[i].Key += "a"
	default:
		x.Rows[i].Monitor = turnedMonitor(r, x.Rows[i].Monitor)
	}
	return x
}

func TestPromise12AnyRightTableStaysRight(t *testing.T) {
	r := rand.New(rand.NewSource(124))
	for _, x := range rightTrees(200) {
		table := anyTable(r, x.near(r).formula())
		wantTable(t, table)
		for range 6 {
			keys := append(impl.KeysOf(table), someKeys()...)
			key := keys[r.Intn(len(keys))]
			e := nearTrace(r, 1)[0]
			if at := slices.IndexFunc(table.Rows, func(r impl.Row) bool { return r.Key == key }); at >= 0 && r.Intn(4) > 0 {
				e.Time = min(table.Rows[at].Monitor.Now+[]int64{0, 1, 2, 5, 1001}[r.Intn(5)], impl.MaxTime)
			}
			got := wantTablePut(t, table, key, e)
			if got.Code == impl.OK {
				wantOthersStay(t, table, got.Table, key)
				table = got.Table
			}
		}
	}
}

func TestPromise12RightByRule(t *testing.T) {
	r := rand.New(rand.NewSource(125))
	rights, wrongs := 0, 0
	for _, x := range rightTrees(150) {
		begin := anyTable(r, x.near(r).formula())
		for range 20 {
			table := turnedTable(r, begin)
			if r.Intn(3) == 0 && monitorsWhole(table) {
				table = turnedTable(r, table)
			}
			if !tableByRule(table) {
				wantWrongTable(t, "by rule", table)
				wrongs++
				continue
			}
			wantTable(t, table)
			wantTablePut(t, table, someKeys()[r.Intn(impl.MaxKeys)], event(impl.MaxTime, "p"))
			rights++
		}
	}
	if rights < 700 || wrongs < 700 {
		t.Errorf("%d right, %d wrong: too few", rights, wrongs)
	}
}

// monitorsWhole tells whether each Monitor has something that may be turned.
func monitorsWhole(x impl.Table) bool {
	return len(x.Formula) > 0 && !slices.ContainsFunc(x.Rows, func(r impl.Row) bool {
		return len(r.Monitor.Cells) == 0 || len(r.Monitor.Formula) == 0
	})
}

// roomyTable has room behind each of its lists, the empty ones too, with something written into it.
func roomyTable(x impl.Table) impl.Table {
	x = copyTable(x)
	many := len(x.Rows)
	for i, r := range x.Rows {
		x.Rows[i] = impl.Row{Key: strings.Clone(r.Key), Monitor: roomyMonitor(r.Monitor)}
	}
	x.Formula = append(x.Formula, impl.Node{Kind: 77})[:len(x.Formula)]
	x.Rows = append(x.Rows, impl.Row{Key: "room"}, impl.Row{Key: "room"})[:many]
	return x
}

// wholeTable is x with all room behind its lists shown.
func wholeTable(x impl.Table) impl.Table {
	x.Formula = x.Formula[:cap(x.Formula)]
	many := len(x.Rows)
	x.Rows = slices.Clone(x.Rows[:cap(x.Rows)])
	for i, r := range x.Rows[:many] {
		x.Rows[i].Monitor = wholeRoom(r.Monitor)
	}
	return x
}

// tableWriters write into one list each, of all that a table has, the inner ones first.
func tableWriters(x impl.Table) []func(x impl.Table) {
	var all []func(x impl.Table)
	for i, r := range x.Rows {
		for c := range r.Monitor.Cells {
			all = append(all, func(x impl.Table) { turnedTimes(x.Rows[i].Monitor.Cells[c].Keep.Times) })
		}
		all = append(all, func(x impl.Table) {
			cells := x.Rows[i].Monitor.Cells
			for c := range cells[:cap(cells)] {
				cells[:cap(cells)][c].Keep.Low, cells[:cap(cells)][c].Was = -77, true
			}
		})
		all = append(all, func(x impl.Table) { turnedNodes(x.Rows[i].Monitor.Formula) })
	}
	all = append(all, func(x impl.Table) { turnedNodes(x.Formula) })
	return append(all, func(x impl.Table) {
		rows := x.Rows[:cap(x.Rows)]
		for i := range rows {
			rows[i] = impl.Row{Key: "turned"}
		}
	})
}

// textsOf are all texts that a table has.
func textsOf(x impl.Table) []string {
	var all []string
	for _, node := range x.Formula {
		all = append(all, node.Name)
	}
	for _, r := range x.Rows {
		all = append(all, r.Key)
		for _, node := range r.Monitor.Formula {
			all = append(all, node.Name)
		}
	}
	return all
}

func wantTextsApart(t *testing.T, what string, a []string, b []string) {
	t.Helper()
	for _, one := range a {
		for _, other := range b {
			if inside(one, other) || inside(other, one) {
				t.Errorf("%s: %q is in the memory of another text", what, one)
			}
		}
	}
}

// wantOwnTable asks twice, and writes into each list of one answer, then into what was handed in.
func wantOwnTable(t *testing.T, what string, x impl.Table, call func(x impl.Table) impl.TableOut) {
	t.Helper()
	x = roomyTable(x)
	kept := copyTable(wholeTable(x))
	first, second := call(x), call(x)
	told := copyTableOut(second)
	if !sameTableOut(first, second) {
		t.Errorf("%s: two answers of one call: %.300s and %.300s", what, tableText(first), tableText(second))
	}
	if !sameTable(wholeTable(x), kept) {
		t.Errorf("%s: what was handed in was turned", what)
	}
	wantTextsApart(t, what, textsOf(first.Table), append(textsOf(x), textsOf(second.Table)...))
	for i, write := range tableWriters(first.Table) {
		// In the copy no two lists share any: where they do, the answer comes out otherwise.
		apart := copyTableOut(first)
		write(first.Table)
		write(apart.Table)
		if !sameTableOut(first, apart) {
			t.Errorf("%s: written into list %d, another list of the answer was turned", what, i)
		}
		if !sameTable(wholeTable(x), kept) {
			t.Errorf("%s: written into list %d of the answer, what was handed in was turned", what, i)
		}
		if !sameTableOut(second, told) {
			t.Errorf("%s: written into list %d of one answer, another one was turned", what, i)
		}
	}
	for i, write := range tableWriters(x) {
		write(x)
		if !sameTableOut(second, told) {
			t.Errorf("%s: written into list %d of what was handed in, the answer was turned", what, i)
		}
	}
}

func TestPromise12MemoryOfTables(t *testing.T) {
	text := "(and (since 0 9 (prev 0 * pq) (once 0 9 pq)) (hist 0 * (or (once 1 9 pq) (not (hist 0 9 rst)))))"
	none := filled(t, text, 4)
	some := filled(t, text, 4, "bb 1 pq rst", "dd 0 rst", "ff 3 pq", "bb 2 pq", "ff 5 pq rst", "bb 5", "bb 8 pq", "dd 6 pq rst")
	full := copyTable(some)
	full.Cap = 3
	wrong := copyTable(some)
	wrong.Rows[1].Monitor.Cells[0].Was = true
	room := []string{"pq", "rst", "zz"}
	events := map[string]impl.Event{"a put": event(9, "pq"), "a drop": event(9), "all go": event(900, room[:2]...), "below Now": event(1, "pq"), "no event": event(-1)}
	for what, e := range events {
		for _, key := range []string{"aa", "bb", "cc", "dd", "ff", "zz", "A"} {
			put := func(x impl.Table) impl.TableOut { return impl.TablePut(x, key, e) }
			wantOwnTable(t, what+" of "+key+", no rows", none, put)
			wantOwnTable(t, what+" of "+key, some, put)
			wantOwnTable(t, what+" of "+key+", full", full, put)
			wantOwnTable(t, what+" of "+key+", wrong", wrong, put)
		}
	}
	if !slices.Equal(room, []string{"pq", "rst", "zz"}) {
		t.Errorf("the event was turned: %q", room)
	}
	wantOwnTable(t, "TableNew", some, func(x impl.Table) impl.TableOut { return impl.TableNew(x.Formula, 3) })
	wantOwnTable(t, "TableRight", some, func(x impl.Table) impl.TableOut { impl.TableRight(x); return impl.TableOut{} })
	wantOwnTable(t, "TableSize", some, func(x impl.Table) impl.TableOut { return impl.TableOut{Code: impl.TableSize(x)} })
	wantOwnTable(t, "KeysOf", some, func(x impl.Table) impl.TableOut { return impl.TableOut{Code: int64(len(impl.KeysOf(x)))} })
}

func TestPromise12MemoryOfKeysAndEvents(t *testing.T) {
	some := filled(t, "(once 0 3 p)", 4, "bb 1 p", "dd 0", "ff 3 p")
	key := strings.Clone("cc")
	room := []string{"p", "q", "zz"}
	e := event(4, room[:2]...)
	got := impl.TablePut(some, key, e)
	told := copyTableOut(got)
	for _, r := range got.Table.Rows {
		if inside(r.Key, key) {
			t.Errorf("the row's Key is in the memory of what was handed in")
		}
	}
	room[0], room[1] = "a", "b"
	if !sameTableOut(got, told) {
		t.Errorf("written into the event, the answer was turned")
	}
	first, second := impl.KeysOf(some), impl.KeysOf(some)
	wantTextsApart(t, "KeysOf", first, append(textsOf(some), second...))
	for i := range first[:cap(first)] {
		first[:cap(first)][i] = "turned"
	}
	want := []string{"bb", "dd", "ff"}
	if !slices.Equal(second, want) || !slices.Equal(impl.KeysOf(some), want) || some.Rows[0].Key != "bb" {
		t.Errorf("written into the keys, others were turned: %q and %q", second, impl.KeysOf(some))
	}
}

// Two ways that go on from one table do not come upon each other.
func TestPromise12TwoWaysFromOneTable(t *testing.T) {
	r := rand.New(rand.NewSource(126))
	for _, text := range nestedTexts() {
		begin := filled(t, text, 4, "a 1 p", "b 2 q", "a 3 p q", "c 0 p r")
		kept := copyTable(begin)
		one, other := begin, begin
		oneByRule, otherByRule := copyTable(begin), copyTable(begin)
		for i := range int64(12) {
			key := []string{"a", "b", "c", "d"}[r.Intn(4)]
			e := nearTrace(r, 1)[0]
			e.Time = 3 + i
			one, oneByRule = impl.TablePut(one, key, e).Table, tablePutByRule(oneByRule, key, e).Table
			e.Names = nil
			other, otherByRule = impl.TablePut(other, key, e).Table, tablePutByRule(otherByRule, key, e).Table
		}
		if !sameTable(one, oneByRule) || !sameTable(other, otherByRule) || !sameTable(begin, kept) {
			t.Errorf("%s: two ways from one table came upon each other", text)
		}
	}
}

// Calls of other tables in between turn nothing: the same call tells the same.
func TestPromise12NothingIsKept(t *testing.T) {
	x := filled(t, "(since 0 9 p q)", 12, "c 1 q", "a 2 p q", "b 0")
	first := impl.TablePut(x, "d", event(5, "q"))
	for range 50 {
		for i, key := range someKeys() {
			impl.TablePut(x, key, event(int64(5+i), "p"))
			impl.TablePut(first.Table, key, event(0, "q"))
		}
		if got := impl.TablePut(x, "d", event(5, "q")); !sameTableOut(got, first) {
			t.Fatalf("the same call tells %.300s, it told %.300s", tableText(got), tableText(first))
		}
		if got := impl.KeysOf(first.Table); !slices.Equal(got, []string{"a", "b", "c", "d"}) {
			t.Fatalf("KeysOf: got %q", got)
		}
	}
}
