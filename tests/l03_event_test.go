package tests

import (
	"math"
	"math/rand"
	"regexp"
	"slices"
	"strconv"
	"strings"
	"testing"

	"loop.example/g00759/impl"
)

func event(time int64, names ...string) impl.Event {
	return impl.Event{Time: time, Names: names}
}

// trace has events without names.
func trace(times ...int64) []impl.Event {
	var l []impl.Event
	for _, time := range times {
		l = append(l, event(time))
	}
	return l
}

func sameEvent(a impl.Event, b impl.Event) bool {
	return a.Time == b.Time && slices.Equal(a.Names, b.Names)
}

func sameTrace(a []impl.Event, b []impl.Event) bool {
	return slices.EqualFunc(a, b, sameEvent)
}

func copyTrace(l []impl.Event) []impl.Event {
	own := slices.Clone(l)
	for i := range own {
		own[i].Names = slices.Clone(own[i].Names)
	}
	return own
}

// eightNames rise, the shorter one first where one begins the other.
func eightNames() []string {
	return []string{"a", "aa", "ab", "abcdefgh", "b", "p", "zz", "zzzzzzzz"}
}

// eventByRule asks for what the chapter names, name by name.
func eventByRule(e impl.Event) bool {
	if e.Time < 0 || e.Time > 1000000 || len(e.Names) > 8 {
		return false
	}
	for i, name := range e.Names {
		if !plainWord(name) || i > 0 && strings.Compare(e.Names[i-1], name) >= 0 {
			return false
		}
	}
	return true
}

// eventOfText is found by another way than the program's.
func eventOfText(text string) (impl.Event, bool) {
	form := regexp.MustCompile(`\A(0|[1-9][0-9]{0,6})((?: [a-z]{1,8})*)\z`)
	found := form.FindStringSubmatch(text)
	if found == nil {
		return impl.Event{}, false
	}
	time, _ := strconv.Atoi(found[1])
	e := event(int64(time), strings.Fields(found[2])...)
	return e, eventByRule(e)
}

// anyEvent is right; many of its names are alike from event to event.
func anyEvent(r *rand.Rand) impl.Event {
	times := []int64{0, 1, 9, 10, 305, 999999, 1000000, r.Int63n(1000001)}
	pool := append(eightNames(), "q", "r", "tru", "nots", "oncemore")
	var names []string
	for _, at := range r.Perm(len(pool))[:r.Intn(9)] {
		names = append(names, pool[at])
	}
	slices.Sort(names)
	return event(times[r.Intn(len(times))], names...)
}

func wantEvent(t *testing.T, text string, e impl.Event) {
	t.Helper()
	if !impl.EventRight(e) {
		t.Errorf("EventRight(%+v): got no", e)
	}
	if got := impl.EventText(e); got != text {
		t.Errorf("EventText(%+v): got %q, want %q", e, got, text)
	}
	got := impl.EventRead(text)
	if got.Code != impl.OK || !sameEvent(got.Event, e) {
		t.Errorf("EventRead(%q): got %+v, want %+v", text, got, e)
	}
}

func wantNoEvent(t *testing.T, text string, code int64) {
	t.Helper()
	got := impl.EventRead(text)
	if got.Code != code || !sameEvent(got.Event, impl.Event{}) {
		t.Errorf("EventRead(%.80q): got code %d, Time %d, Names %.20q, want code %d", text, got.Code, got.Event.Time, got.Event.Names, code)
	}
}

// wantWrongEvent holds all calls to their answers for an event that is not right, wherever it stands in a trace.
func wantWrongEvent(t *testing.T, why string, e impl.Event) {
	t.Helper()
	if impl.EventRight(e) {
		t.Errorf("%s: EventRight: got yes", why)
	}
	if text := impl.EventText(e); text != "" {
		t.Errorf("%s: EventText tells %.80q", why, text)
	}
	for _, name := range append([]string{"", "p"}, e.Names...) {
		if impl.EventHas(e, name) {
			t.Errorf("%s: EventHas(%.80q): got yes", why, name)
		}
	}
	for at := range 3 {
		l := slices.Insert(trace(e.Time, e.Time), at, e)
		if e.Time < 0 || e.Time > impl.MaxTime {
			l = slices.Insert(trace(7, 7), at, e)
		}
		wantNoTrace(t, why, l)
	}
	wantNoTrace(t, why, []impl.Event{e})
}

// wantNoTrace is of what neither is a trace nor becomes one.
func wantNoTrace(t *testing.T, why string, l []impl.Event) {
	t.Helper()
	if impl.TraceRight(l) {
		t.Errorf("%s: TraceRight: got yes", why)
	}
	if got := impl.Clamp(l); len(got) != 0 {
		t.Errorf("%s: Clamp tells %+v", why, got)
	}
}

// wantClamped holds Clamp to what is wanted, and to stay there when clamped again.
func wantClamped(t *testing.T, l []impl.Event, want []impl.Event) {
	t.Helper()
	kept := copyTrace(l)
	got := impl.Clamp(l)
	if !sameTrace(got, want) {
		t.Errorf("Clamp(%+v): got %+v, want %+v", l, got, want)
	}
	if !impl.TraceRight(got) {
		t.Errorf("Clamp(%+v): %+v is no right trace", l, got)
	}
	if again := impl.Clamp(got); !sameTrace(again, want) {
		t.Errorf("Clamp(%+v), clamped again: got %+v, want %+v", l, again, want)
	}
	if !sameTrace(l, kept) {
		t.Errorf("Clamp turned what it was given: %+v, it was %+v", l, kept)
	}
}

func TestConstantsOfChapter4(t *testing.T) {
	if impl.MaxTrace != 60 {
		t.Errorf("MaxTrace: got %d", impl.MaxTrace)
	}
}

func TestPromise4EventsComeBack(t *testing.T) {
	wantEvent(t, "0", event(0))
	wantEvent(t, "0", impl.Event{Names: []string{}})
	wantEvent(t, "5 p q", event(5, "p", "q"))
	wantEvent(t, "10 p", event(10, "p"))
	wantEvent(t, "100 abcdefgh", event(100, "abcdefgh"))
	wantEvent(t, "999999 a aa ab abcdefgh b p zz zzzzzzzz", event(999999, eightNames()...))
	wantEvent(t, "1000000", event(impl.MaxTime))
	wantEvent(t, "1000000 z", event(impl.MaxTime, "z"))
	r := rand.New(rand.NewSource(4))
	for range 3000 {
		e := anyEvent(r)
		words := append([]string{strconv.FormatInt(e.Time, 10)}, e.Names...)
		wantEvent(t, strings.Join(words, " "), e)
	}
}

func TestPromise4Times(t *testing.T) {
	for _, time := range []int64{0, 1, impl.MaxTime - 1, impl.MaxTime} {
		wantEvent(t, strconv.FormatInt(time, 10), event(time))
		wantEvent(t, strconv.FormatInt(time, 10)+" p", event(time, "p"))
	}
	for _, time := range []int64{-1, -2, math.MinInt64, impl.MaxTime + 1, 1 << 32, math.MaxInt64} {
		wantWrongEvent(t, "a Time that is none", event(time))
		wantWrongEvent(t, "a Time that is none", event(time, "p"))
		wantNoEvent(t, strconv.FormatInt(time, 10), impl.ErrSyntax)
		wantNoEvent(t, strconv.FormatInt(time, 10)+" p", impl.ErrSyntax)
	}
}

func TestPromise4ManyNames(t *testing.T) {
	for many := range 9 {
		names := eightNames()[:many]
		wantEvent(t, strings.Join(append([]string{"7"}, names...), " "), event(7, names...))
	}
	nine := append(slices.Clone(eightNames()[:7]), "zzz", "zzzz")
	wantWrongEvent(t, "nine names", event(7, nine...))
	wantNoEvent(t, "7 "+strings.Join(nine, " "), impl.ErrSyntax)
	for _, many := range []int{impl.MaxList, impl.MaxList + 1} {
		var far []string
		for i := range many {
			far = append(far, "a"+string(rune('a'+i/26))+string(rune('a'+i%26)))
		}
		wantWrongEvent(t, "names by the hundred", event(7, far...))
		wantNoEvent(t, "7 "+strings.Join(far, " "), impl.ErrSyntax)
	}
}

func TestPromise4NamesOfAnEvent(t *testing.T) {
	for _, name := range []string{"a", "z", "abcdefgh", "zzzzzzzz", "tru", "truer", "nots", "onc", "sinces"} {
		wantEvent(t, "3 "+name, event(3, name))
	}
	wrong := []string{"", "abcdefghi", "true", "not", "and", "or", "prev", "once", "hist", "since",
		"A", "aB", "a1", "a_", "a-b", "`", "{", "a\n", "a\x00", "a\xff", "\u00e4", "a\u0430", "\u3042", "\ufffd",
		strings.Repeat("a", 20), strings.Repeat("a", impl.MaxBytes), strings.Repeat("a", impl.MaxBytes+1)}
	for _, name := range wrong {
		wantWrongEvent(t, "a name that is none", event(3, name))
		wantWrongEvent(t, "a name that is none, the last one", event(3, "a", name))
		wantWrongEvent(t, "a name that is none, the first one", event(3, name, "zzzzzzzz"))
		if len(name) < impl.MaxBytes {
			wantNoEvent(t, "3 "+name, impl.ErrSyntax)
			wantNoEvent(t, "3 "+name+" zzzzzzzz", impl.ErrSyntax)
		}
	}
	for _, name := range []string{" ", "a b", " a", "a "} {
		wantWrongEvent(t, "a name with a blank", event(3, name))
	}
	for b := range 256 {
		name := "a" + string([]byte{byte(b)})
		e := event(3, name)
		if letter := b >= 'a' && b <= 'z'; letter {
			wantEvent(t, "3 "+name, e)
		} else {
			wantWrongEvent(t, "the byte "+strconv.Itoa(b), e)
		}
	}
}

func TestPromise4OrderOfNames(t *testing.T) {
	falling := [][]string{{"q", "p"}, {"b", "ab"}, {"aa", "a"}, {"abcdefgh", "abcdefg"}, {"a", "c", "b"},
		{"b", "a", "c"}, {"p", "p"}, {"a", "p", "p"}, {"p", "p", "q"}, {"p", "q", "p"}}
	for _, names := range falling {
		wantWrongEvent(t, strings.Join(names, " "), event(1, names...))
		wantNoEvent(t, "1 "+strings.Join(names, " "), impl.ErrSyntax)
	}
	full := eightNames()
	full[6], full[7] = full[7], full[6]
	wantWrongEvent(t, "the last two turned", event(1, full...))
	wantNoEvent(t, "1 "+strings.Join(full, " "), impl.ErrSyntax)
}

func TestPromise4EventHas(t *testing.T) {
	e := event(5, eightNames()...)
	for _, name := range e.Names {
		if !impl.EventHas(e, name) || impl.EventHas(event(5), name) {
			t.Errorf("EventHas(%q): got no where it is, or yes where it is not", name)
		}
	}
	for _, name := range []string{"", "q", "A", "abc", "zzz", "a aa", "5", "true", " a", "p\x00",
		strings.Repeat("a", impl.MaxBytes), strings.Repeat("a", impl.MaxBytes+1)} {
		if impl.EventHas(e, name) {
			t.Errorf("EventHas(%.40q): got yes", name)
		}
	}
}

func TestPromise4WrongTexts(t *testing.T) {
	texts := []string{"", " ", "  ", "p", "p q", " p", "p 5", "5p", "5p q", "5,p", "5\tp", "5\np", "5 p\n", "\n5", "5\n", "5\x00", "5 p\x00",
		" 5", "5 ", " 5 p", "5 p ", "5  p", "5 p  q", "5  ", "5 p q ", "  5", "5 \u00a0p", "5\u00a0p", "5\u2003p", "5 p\u3000q",
		"00", "05", "05 p", "000000", "00000000000000000000", "01000000", "-0", "-1", "+0", "+5", "-5 p", "+5 p", "5- p", "-", "+", "- p",
		"5.0", "5e1", "0x5", "5_0", "1_000", "5a", "a5", "5 5", "5 5 p", "5 p 5", "\u0665", "\uff15", "5\u0665", "\xff", "\xff5", "5\xff", "5 \xff", "5 p\xff",
		"1000001", "1000001 p", "9999999", "10000000", "9223372036854775807", "9223372036854775808", "-9223372036854775808",
		"18446744073709551615", "18446744073709551616", "18446744073709551621", "99999999999999999999999999 p",
		"5 P", "5 pQ", "5 p1", "5 p_", "5 p-q", "5 p,q", "5 abcdefghi", "5 true", "5 p since", "5 q p", "5 p p", "5 \u00e4", "5 p\u0430", "5 *", "* p", "5 (not p)"}
	for _, text := range texts {
		wantNoEvent(t, text, impl.ErrSyntax)
	}
}

func TestPromise4TextSize(t *testing.T) {
	heads := []string{"5 p", "5", "0", "", " ", "p", "5 p ", "5 " + strings.Join(eightNames(), " ")}
	fills := []string{" ", "0", "5", "a", " a", " p", "\xff", "\x00", "\u00e4"}
	for _, head := range heads {
		for _, fill := range fills {
			long := head + strings.Repeat(fill, impl.MaxBytes+1)
			wantNoEvent(t, long[:impl.MaxBytes-1], impl.ErrSyntax)
			wantNoEvent(t, long[:impl.MaxBytes], impl.ErrSyntax)
			wantNoEvent(t, long[:impl.MaxBytes+1], impl.ErrSize)
		}
	}
}

func TestPromise4TurnedTexts(t *testing.T) {
	r := rand.New(rand.NewSource(6))
	pool := "  0159apz-+_\n\x80"
	rights, wrongs := 0, 0
	for range 20000 {
		text := turnedText(r, impl.EventText(anyEvent(r)), pool)
		if e, ok := eventOfText(text); ok {
			wantEvent(t, text, e)
			rights++
		} else {
			wantNoEvent(t, text, impl.ErrSyntax)
			wrongs++
		}
	}
	if rights < 2000 || wrongs < 2000 {
		t.Errorf("%d right, %d wrong: too few", rights, wrongs)
	}
}

func TestPromise4RightTraces(t *testing.T) {
	right := [][]impl.Event{nil, {}, trace(0), trace(impl.MaxTime), trace(0, 0, 0), trace(0, 1, 1, 5, impl.MaxTime, impl.MaxTime),
		{event(3, "q"), event(3, "p"), event(4, "p", "q"), event(9)}}
	for _, l := range right {
		if !impl.TraceRight(l) {
			t.Errorf("TraceRight(%+v): got no", l)
		}
		wantClamped(t, l, l)
	}
	falling := [][]impl.Event{trace(1, 0), trace(0, 5, 4), trace(5, 4, 5), trace(impl.MaxTime, 0), trace(0, 1, 2, 1),
		{event(3, "p"), event(2, "p")}}
	for _, l := range falling {
		if impl.TraceRight(l) {
			t.Errorf("TraceRight(%+v): got yes", l)
		}
	}
}

func TestPromise4LongTraces(t *testing.T) {
	many := func(size int) []impl.Event {
		var l []impl.Event
		for i := range size {
			l = append(l, event(int64(i/2), "p"))
		}
		return l
	}
	for _, size := range []int{1, impl.MaxTrace - 1, impl.MaxTrace} {
		l := many(size)
		if !impl.TraceRight(l) {
			t.Errorf("TraceRight of %d events: got no", size)
		}
		wantClamped(t, l, l)
		l[0].Time = impl.MaxTime
		var want []impl.Event
		for range size {
			want = append(want, event(impl.MaxTime, "p"))
		}
		wantClamped(t, l, want)
		l[size-1].Names = []string{"q", "p"}
		wantNoTrace(t, "the last one is not right", l)
	}
	for _, size := range []int{impl.MaxTrace + 1, impl.MaxList, impl.MaxList + 1} {
		wantNoTrace(t, strconv.Itoa(size)+" events", many(size))
		wantNoTrace(t, strconv.Itoa(size)+" empty events", make([]impl.Event, size))
	}
}

func TestPromise4Clamped(t *testing.T) {
	clamped := [][2][]impl.Event{
		{trace(5, 3, 9), trace(5, 5, 9)},
		{trace(5, 3, 4), trace(5, 5, 5)},
		{trace(1, 9, 3, 7, 10, 2), trace(1, 9, 9, 9, 10, 10)},
		{trace(0, impl.MaxTime, 0), trace(0, impl.MaxTime, impl.MaxTime)},
		{trace(4, 4, 3, 4), trace(4, 4, 4, 4)},
		{{event(5, "p", "q"), event(3), event(9, "r")}, {event(5, "p", "q"), event(5), event(9, "r")}},
		{{event(8), event(0, eightNames()...)}, {event(8), event(8, eightNames()...)}},
	}
	for _, row := range clamped {
		wantClamped(t, row[0], row[1])
	}
}

// latestOf is the greatest Time of a trace's first events.
func latestOf(l []impl.Event) int64 {
	var times []int64
	for _, e := range l {
		times = append(times, e.Time)
	}
	return slices.Max(times)
}

func TestPromise4AnyTraceClamped(t *testing.T) {
	r := rand.New(rand.NewSource(7))
	for range 2000 {
		var l, want []impl.Event
		falls := false
		for i := range r.Intn(impl.MaxTrace + 1) {
			e := anyEvent(r)
			e.Time = r.Int63n(8) + int64(i)/2
			l = append(l, e)
			want = append(want, event(latestOf(l), e.Names...))
			falls = falls || e.Time < l[max(i-1, 0)].Time
		}
		if impl.TraceRight(l) == falls {
			t.Errorf("TraceRight(%+v): got %t", l, !falls)
		}
		wantClamped(t, l, want)
	}
}

// What is handed in stays, and no list of an answer shares memory with it, nor with another one.
func TestPromise4MemoryOfClamped(t *testing.T) {
	names := []string{"pq", "r", "st"}
	l := []impl.Event{event(5, names...), event(3, names[:2]...), event(9, names[:1]...), event(9)}
	kept := copyTrace(l)
	got := impl.Clamp(l)
	for i, e := range got {
		for k, name := range e.Names {
			if inside(name, l[i].Names[k]) {
				t.Errorf("event %d shares its Name %d", i, k)
			}
		}
		// Writing behind a list's end must reach no other list either.
		for room := range len(e.Names[:cap(e.Names)]) {
			e.Names[:cap(e.Names)][room] = "x" + strconv.Itoa(i)
		}
	}
	for i, e := range got {
		for _, name := range e.Names {
			if name != "x"+strconv.Itoa(i) {
				t.Errorf("event %d was written into through another one: %q", i, name)
			}
		}
		got[i].Time = -1
	}
	if !sameTrace(l, kept) || !slices.Equal(names, []string{"pq", "r", "st"}) {
		t.Errorf("what was handed in was turned: %+v, it was %+v", l, kept)
	}
	if again := impl.Clamp(l); !sameTrace(again, []impl.Event{event(5, "pq", "r", "st"), event(5, "pq", "r"), event(9, "pq"), event(9)}) {
		t.Errorf("clamped anew: got %+v", again)
	}
}

func TestPromise4MemoryOfEvents(t *testing.T) {
	text := "5 pq rst"
	first := impl.EventRead(text).Event
	for i, name := range first.Names {
		if inside(name, text) {
			t.Errorf("Name %d is a piece of the text", i)
		}
		first.Names[i] = "x"
	}
	wantEvent(t, "5 pq rst", event(5, "pq", "rst"))
	// Room behind the Names must not be written into by telling them.
	room := []string{"p", "q", "r"}
	e := event(5, room[:1]...)
	if impl.EventText(e) != "5 p" || impl.EventHas(e, "q") || !slices.Equal(room, []string{"p", "q", "r"}) {
		t.Errorf("the room behind the Names: %q", room)
	}
}
