package tests

import (
	"math"
	"math/rand"
	"slices"
	"testing"

	"loop.example/g00759/impl"
)

func keep(low int64, high int64, times ...int64) impl.Keep {
	return impl.Keep{Low: low, High: high, Times: times}
}

func sameKeep(a impl.Keep, b impl.Keep) bool {
	return a.Low == b.Low && a.High == b.High && slices.Equal(a.Times, b.Times)
}

// risingTimes are so many, one after the other.
func risingTimes(from int64, many int64) []int64 {
	var times []int64
	for i := range many {
		times = append(times, from+i)
	}
	return times
}

func timeByRule(n int64) bool {
	return n >= 0 && n <= 1000000
}

// keepByRule asks for what the chapter names, time by time.
func keepByRule(k impl.Keep) bool {
	if k.Low < 0 || k.Low > 1000 || k.High < -1 || k.High > 1000 || k.High != -1 && k.High < k.Low {
		return false
	}
	if k.High == -1 && len(k.Times) > 1 || k.High != -1 && int64(len(k.Times)) > k.High+1 {
		return false
	}
	return slices.IsSorted(k.Times) && len(slices.Compact(slices.Clone(k.Times))) == len(k.Times) &&
		!slices.ContainsFunc(k.Times, func(time int64) bool { return !timeByRule(time) })
}

func putByRule(k impl.Keep, time int64) impl.Keep {
	if len(k.Times) == 0 {
		return keep(k.Low, k.High, time)
	}
	if k.High == -1 || time <= slices.Max(k.Times) {
		return k
	}
	return dropByRule(keep(k.Low, k.High, slices.Concat(k.Times, []int64{time})...), time)
}

func dropByRule(k impl.Keep, now int64) impl.Keep {
	if k.High == -1 {
		return k
	}
	var left []int64
	for _, time := range k.Times {
		if time+k.High >= now {
			left = append(left, time)
		}
	}
	return keep(k.Low, k.High, left...)
}

// askByRule looks through all times, be they kept or not.
func askByRule(low int64, high int64, times []int64, now int64) bool {
	return slices.ContainsFunc(times, func(time int64) bool {
		return time+low <= now && (high == -1 || time+high >= now)
	})
}

// wantKept holds the calls of a right Keep to the rules, at that time and now.
func wantKept(t *testing.T, k impl.Keep, time int64) {
	t.Helper()
	put, drop := putByRule(k, time), dropByRule(k, time)
	if got := impl.KeepPut(k, time); !sameKeep(got, put) {
		t.Errorf("KeepPut(%+v, %d): got %+v, want %+v", k, time, got, put)
	}
	if got := impl.KeepDrop(k, time); !sameKeep(got, drop) {
		t.Errorf("KeepDrop(%+v, %d): got %+v, want %+v", k, time, got, drop)
	}
	if got := impl.KeepAsk(k, time); got != askByRule(k.Low, k.High, k.Times, time) {
		t.Errorf("KeepAsk(%+v, %d): got %t", k, time, got)
	}
	wantRightKeep(t, k)
	wantRightKeep(t, put)
	wantRightKeep(t, drop)
}

func wantRightKeep(t *testing.T, k impl.Keep) {
	t.Helper()
	most := k.High + 1
	if k.High == -1 {
		most = 1
	}
	if !impl.KeepRight(k) {
		t.Errorf("KeepRight(%+v): got no", k)
	}
	if got := impl.KeepMost(k); got != most {
		t.Errorf("KeepMost(%+v): got %d, want %d", k, got, most)
	}
	if int64(len(k.Times)) > most {
		t.Errorf("%+v: more than %d times", k, most)
	}
}

// wantRefused is of a Keep that is not right, or of a time that is none.
func wantRefused(t *testing.T, why string, k impl.Keep, time int64) {
	t.Helper()
	if got := impl.KeepPut(k, time); !sameKeep(got, impl.Keep{}) {
		t.Errorf("%s: KeepPut(%+v, %d) tells %+v", why, k, time, got)
	}
	if got := impl.KeepDrop(k, time); !sameKeep(got, impl.Keep{}) {
		t.Errorf("%s: KeepDrop(%+v, %d) tells %+v", why, k, time, got)
	}
	if impl.KeepAsk(k, time) {
		t.Errorf("%s: KeepAsk(%+v, %d): got yes", why, k, time)
	}
}

// wantWrongKeep holds all calls to their answers for a Keep that is not right, with times and with what is none.
func wantWrongKeep(t *testing.T, why string, k impl.Keep) {
	t.Helper()
	if impl.KeepRight(k) {
		t.Errorf("%s: KeepRight(%+v): got yes", why, k)
	}
	if got := impl.KeepMost(k); got != -1 {
		t.Errorf("%s: KeepMost(%+v): got %d", why, k, got)
	}
	nows := append([]int64{0, 1, 5, 6, 9, impl.MaxTime}, noTimes()...)
	for _, time := range k.Times {
		nows = append(nows, time, time+1)
	}
	for _, now := range nows {
		wantRefused(t, why, k, now)
	}
}

func noTimes() []int64 {
	return []int64{-1, -2, math.MinInt64, impl.MaxTime + 1, 1 << 32, math.MaxInt64}
}

// keepBounds are of each sort: without an end, narrow, wide, of one number, from 0 on and not, up to the greatest.
func keepBounds() [][2]int64 {
	return [][2]int64{{0, -1}, {1, -1}, {7, -1}, {impl.MaxBound, -1}, {0, 0}, {0, 1}, {0, 4}, {0, impl.MaxBound}, {1, 1}, {1, 3}, {4, 4}, {3, 20},
		{50, 60}, {impl.MaxBound - 1, impl.MaxBound}, {impl.MaxBound, impl.MaxBound}}
}

// past is a Keep beside a list of all times that were put into it; neither times nor nows fall.
type past struct {
	keep impl.Keep
	all  []int64
	now  int64
}

func (p *past) put(time int64) {
	p.keep = impl.KeepPut(p.keep, time)
	p.all = append(p.all, time)
	p.now = time
}

func (p *past) drop(now int64) {
	p.keep = impl.KeepDrop(p.keep, now)
	p.now = now
}

// nows are those at which one of the times may begin or end to be as long ago as is asked for.
func (p *past) nows() []int64 {
	nows := []int64{p.now, p.now + 1, p.now + 2, impl.MaxTime}
	for _, time := range p.all[max(0, len(p.all)-30):] {
		low, high := time+p.keep.Low, time+p.keep.High
		nows = append(nows, low-1, low, low+1, high-1, high, high+1)
	}
	return slices.DeleteFunc(nows, func(now int64) bool { return now < p.now || now > impl.MaxTime })
}

// want holds the Keep to the list.
func (p *past) want(t *testing.T) {
	t.Helper()
	wantRightKeep(t, p.keep)
	low, high := p.keep.Low, p.keep.High
	for _, now := range p.nows() {
		if got := impl.KeepAsk(p.keep, now); got != askByRule(low, high, p.all, now) {
			t.Errorf("bounds %d %d, at %d of %v put: got %t by %v", low, high, now, p.all, got, p.keep.Times)
		}
	}
}

func TestPromise6KeptTellsOfAllThatWerePut(t *testing.T) {
	r := rand.New(rand.NewSource(6))
	for _, b := range keepBounds() {
		for _, far := range []int64{1, 2, 5, 30, 700} {
			for _, begin := range []int64{0, 1, 900, impl.MaxTime - 60*far} {
				p := past{keep: keep(b[0], b[1]), now: begin}
				p.want(t)
				for range 60 {
					next := min(p.now+r.Int63n(far+1), impl.MaxTime)
					if r.Intn(3) == 0 {
						p.drop(next)
					} else {
						p.put(next)
					}
					p.want(t)
					if t.Failed() {
						t.FailNow()
					}
				}
			}
		}
	}
}

// Each time is put: the Keep fills up, and stays as it is.
func TestPromise6NeverMoreThanItMayBe(t *testing.T) {
	for _, b := range keepBounds() {
		most := max(1, b[1]+1)
		p := past{keep: keep(b[0], b[1])}
		for time := range 2*most + 5 {
			p.put(time)
			if got := int64(len(p.keep.Times)); got != min(time+1, most) {
				t.Fatalf("bounds %d %d, %d times put: %d kept", b[0], b[1], time+1, got)
			}
			first := max(0, time-b[1])
			if b[1] == -1 {
				first = 0
			}
			if p.keep.Times[0] != first {
				t.Fatalf("bounds %d %d, put up to %d: the first one is %d", b[0], b[1], time, p.keep.Times[0])
			}
		}
		p.want(t)
	}
}

func TestPromise6OfTheFirstTimeOnWithoutAnEnd(t *testing.T) {
	empty := keep(3, -1)
	if impl.KeepAsk(empty, 9) || !sameKeep(impl.KeepDrop(empty, 9), empty) {
		t.Errorf("without times: KeepAsk %t, KeepDrop %+v", impl.KeepAsk(empty, 9), impl.KeepDrop(empty, 9))
	}
	first := impl.KeepPut(empty, 5)
	if want := keep(3, -1, 5); !sameKeep(first, want) {
		t.Fatalf("one time put: got %+v, want %+v", first, want)
	}
	for _, time := range []int64{0, 4, 5, 6, 5 + impl.MaxBound + 1, impl.MaxTime} {
		if got := impl.KeepPut(first, time); !sameKeep(got, first) {
			t.Errorf("KeepPut of %d to one time: got %+v", time, got)
		}
		if got := impl.KeepDrop(first, time); !sameKeep(got, first) {
			t.Errorf("KeepDrop at %d of one time: got %+v", time, got)
		}
		if got := impl.KeepAsk(first, time); got != (time >= 8) {
			t.Errorf("KeepAsk at %d of one time: got %t", time, got)
		}
	}
	if impl.KeepAsk(first, 7) || !impl.KeepAsk(first, 8) {
		t.Errorf("KeepAsk at 7 and 8: got %t, %t", impl.KeepAsk(first, 7), impl.KeepAsk(first, 8))
	}
	wantWrongKeep(t, "two times without an end", keep(3, -1, 5, 6))
	wantWrongKeep(t, "three times without an end", keep(0, -1, 0, 1, 2))
}

// All short rows of small numbers, with all small bounds: right ones and wrong ones.
func TestPromise6EachSmallKeep(t *testing.T) {
	right := 0
	for _, times := range smallRows(4) {
		for low := int64(-1); low <= 3; low++ {
			for high := int64(-2); high <= 4; high++ {
				k := keep(low, high, times...)
				if !keepByRule(k) {
					wantWrongKeep(t, "by rule", k)
					continue
				}
				right++
				for time := range int64(10) {
					wantKept(t, k, time)
				}
			}
		}
	}
	if right < 300 {
		t.Errorf("%d right ones: too few", right)
	}
}

// smallRows have at most so many numbers, each from -1 to 5.
func smallRows(most int) [][]int64 {
	rows := [][]int64{nil}
	for at := 0; at < len(rows); at++ {
		if len(rows[at]) == most {
			continue
		}
		for n := int64(-1); n <= 5; n++ {
			rows = append(rows, slices.Concat(rows[at], []int64{n}))
		}
	}
	return rows
}

func TestPromise6Bounds(t *testing.T) {
	for _, b := range keepBounds() {
		wantKept(t, keep(b[0], b[1]), 0)
		wantKept(t, keep(b[0], b[1]), 2*impl.MaxBound)
		for _, now := range []int64{0, 6, 7, 8, 7 + b[0], 7 + b[0] + 1, 7 + max(0, b[1]), 8 + max(0, b[1]), impl.MaxTime} {
			wantKept(t, keep(b[0], b[1], 7), now)
		}
	}
	wrong := map[string][2]int64{
		"Low below 0":                  {-1, 5},
		"Low below 0, without an end":  {-1, -1},
		"the least Low":                {math.MinInt64, 5},
		"Low above MaxBound":           {impl.MaxBound + 1, -1},
		"both above MaxBound":          {impl.MaxBound + 1, impl.MaxBound + 1},
		"High above MaxBound":          {0, impl.MaxBound + 1},
		"Low at and High above it":     {impl.MaxBound, impl.MaxBound + 1},
		"the greatest High":            {0, math.MaxInt64},
		"the greatest Low":             {math.MaxInt64, -1},
		"High below Low":               {2, 1},
		"High 0 below Low":             {1, 0},
		"High below Low, the greatest": {impl.MaxBound, impl.MaxBound - 1},
		"High below -1":                {0, -2},
		"the least High":               {0, math.MinInt64},
	}
	for why, b := range wrong {
		wantWrongKeep(t, why, keep(b[0], b[1]))
		wantWrongKeep(t, why+", with a time", keep(b[0], b[1], 5))
		wantWrongKeep(t, why+", with two times", keep(b[0], b[1], 5, 6))
	}
}

func TestPromise6HowManyTimes(t *testing.T) {
	for _, high := range []int64{0, 1, 2, 5, impl.MaxList, impl.MaxBound - 1, impl.MaxBound} {
		for _, many := range []int64{0, 1, high, high + 1} {
			k := keep(0, high, risingTimes(3, many)...)
			for _, time := range []int64{0, 2, 3, many + 2, many + 3, high + many + 2, high + many + 3, impl.MaxTime} {
				wantKept(t, k, time)
			}
			k.Low = high
			wantKept(t, k, high+3)
		}
		wantWrongKeep(t, "one too many", keep(0, high, risingTimes(0, high+2)...))
		wantWrongKeep(t, "many too many", keep(high, high, risingTimes(0, high+50)...))
		// A High and 1 of them may be far from each other.
		sparse := risingTimes(0, high+1)
		for i := range sparse {
			sparse[i] *= 900
		}
		wantKept(t, keep(0, high, sparse...), high*900)
		wantKept(t, keep(0, high, sparse...), high*900+1)
		wantKept(t, keep(0, high, sparse...), impl.MaxTime)
	}
}

func TestPromise6AtTheLastTime(t *testing.T) {
	k := keep(0, 3, 4, 10, 12)
	rows := []struct {
		time      int64
		put, drop []int64
	}{
		// Not above the last one nothing is turned: what was over stays.
		{0, []int64{4, 10, 12}, []int64{4, 10, 12}},
		{7, []int64{4, 10, 12}, []int64{4, 10, 12}},
		{8, []int64{4, 10, 12}, []int64{10, 12}},
		{11, []int64{4, 10, 12}, []int64{10, 12}},
		{12, []int64{4, 10, 12}, []int64{10, 12}},
		{13, []int64{10, 12, 13}, []int64{10, 12}},
		{14, []int64{12, 14}, []int64{12}},
		{15, []int64{12, 15}, []int64{12}},
		{16, []int64{16}, nil},
		{impl.MaxTime, []int64{impl.MaxTime}, nil},
	}
	for _, x := range rows {
		if got, want := impl.KeepPut(k, x.time), keep(0, 3, x.put...); !sameKeep(got, want) {
			t.Errorf("KeepPut(%+v, %d): got %+v, want %+v", k, x.time, got, want)
		}
		if got, want := impl.KeepDrop(k, x.time), keep(0, 3, x.drop...); !sameKeep(got, want) {
			t.Errorf("KeepDrop(%+v, %d): got %+v, want %+v", k, x.time, got, want)
		}
	}
}

// Each time is just High ahead of what is put, and of now, or one more.
func TestPromise6JustHighAhead(t *testing.T) {
	for _, high := range []int64{0, 1, 3, impl.MaxBound - 1, impl.MaxBound} {
		for _, first := range []int64{0, 5, impl.MaxTime - high - 1} {
			k := keep(0, high, first)
			if got := impl.KeepDrop(k, first+high); !sameKeep(got, k) {
				t.Errorf("KeepDrop(%+v, %d): got %+v", k, first+high, got)
			}
			if got := impl.KeepDrop(k, first+high+1); !sameKeep(got, keep(0, high)) {
				t.Errorf("KeepDrop(%+v, %d): got %+v", k, first+high+1, got)
			}
			if got := impl.KeepPut(k, first+high); high > 0 && !sameKeep(got, keep(0, high, first, first+high)) {
				t.Errorf("KeepPut(%+v, %d): got %+v", k, first+high, got)
			}
			if got := impl.KeepPut(k, first+high+1); !sameKeep(got, keep(0, high, first+high+1)) {
				t.Errorf("KeepPut(%+v, %d): got %+v", k, first+high+1, got)
			}
			if !impl.KeepAsk(k, first+high) || impl.KeepAsk(k, first+high+1) {
				t.Errorf("KeepAsk(%+v) at its end: got %t, %t", k, impl.KeepAsk(k, first+high), impl.KeepAsk(k, first+high+1))
			}
		}
	}
}

func TestPromise6AskOfEachTime(t *testing.T) {
	// No time alone tells: now is too near to the last one, and too far from the first one.
	k := keep(2, 5, 0, 4, 6, 20)
	var yes []int64
	for now := range int64(40) {
		if impl.KeepAsk(k, now) {
			yes = append(yes, now)
		}
	}
	if want := slices.Concat(risingTimes(2, 10), risingTimes(22, 4)); !slices.Equal(yes, want) {
		t.Errorf("KeepAsk(%+v): yes at %v, want %v", k, yes, want)
	}
	if impl.KeepAsk(keep(0, 5), 3) || impl.KeepAsk(keep(0, -1), 3) {
		t.Errorf("KeepAsk without times: got yes")
	}
	if impl.KeepAsk(keep(0, 5, 4), 3) || impl.KeepAsk(keep(0, -1, 4), 3) {
		t.Errorf("KeepAsk ahead of all times: got yes")
	}
	if !impl.KeepAsk(keep(0, 0, 4), 4) || !impl.KeepAsk(keep(0, -1, 4), 4) {
		t.Errorf("KeepAsk of Low 0 at the time itself: got no")
	}
}

func TestPromise6TimesAtTheirEnds(t *testing.T) {
	for _, b := range keepBounds() {
		for _, times := range [][]int64{nil, {0}, {1}, {impl.MaxTime - 1}, {impl.MaxTime}} {
			k := keep(b[0], b[1], times...)
			for _, time := range []int64{0, 1, impl.MaxTime - 1, impl.MaxTime} {
				wantKept(t, k, time)
			}
			for _, time := range noTimes() {
				wantRefused(t, "no time", k, time)
			}
		}
	}
	both := keep(0, 4, 0, impl.MaxTime)
	wantKept(t, both, 0)
	wantKept(t, both, impl.MaxTime)
	if got := impl.KeepPut(keep(0, 4), impl.MaxTime); !sameKeep(got, keep(0, 4, impl.MaxTime)) {
		t.Errorf("KeepPut of the greatest time: got %+v", got)
	}
	if got := impl.KeepPut(keep(0, 4), 0); !sameKeep(got, keep(0, 4, 0)) {
		t.Errorf("KeepPut of 0: got %+v", got)
	}
}

func TestPromise6WrongTimes(t *testing.T) {
	rows := map[string][]int64{
		"falling":                  {6, 5},
		"falling at the end":       {1, 5, 9, 8},
		"two alike":                {5, 5},
		"two alike at the end":     {1, 2, 5, 5},
		"two alike at 0":           {0, 0},
		"two alike at MaxTime":     {impl.MaxTime, impl.MaxTime},
		"below 0":                  {-1},
		"below 0 ahead":            {-1, 5},
		"below 0 behind":           {5, -1},
		"the least":                {math.MinInt64, 5},
		"above MaxTime":            {impl.MaxTime + 1},
		"above MaxTime behind":     {5, impl.MaxTime + 1},
		"the greatest":             {5, math.MaxInt64},
		"above MaxTime, then less": {impl.MaxTime + 1, 5},
	}
	for why, times := range rows {
		for _, b := range [][2]int64{{0, 3}, {2, 9}, {0, impl.MaxBound}, {0, -1}} {
			wantWrongKeep(t, why, keep(b[0], b[1], times...))
		}
	}
	if !impl.KeepRight(impl.Keep{}) || impl.KeepMost(impl.Keep{}) != 1 {
		t.Errorf("the zero Keep: right %t, KeepMost %d", impl.KeepRight(impl.Keep{}), impl.KeepMost(impl.Keep{}))
	}
}

// turnedTimes writes into all memory that a list has, be it in use or not.
func turnedTimes(times []int64) {
	times = times[:cap(times)]
	for i := range times {
		times[i] = -77
	}
}

// keepCalls are those that hand back a Keep: with a time taken, one refused, the front gone, all gone, and nothing turned.
func keepCalls() map[string]func(k impl.Keep) impl.Keep {
	return map[string]func(k impl.Keep) impl.Keep{
		"put above the last one": func(k impl.Keep) impl.Keep { return impl.KeepPut(k, 7) },
		"put, one goes":          func(k impl.Keep) impl.Keep { return impl.KeepPut(k, 9) },
		"put, all go":            func(k impl.Keep) impl.Keep { return impl.KeepPut(k, 90) },
		"put the last one":       func(k impl.Keep) impl.Keep { return impl.KeepPut(k, 6) },
		"put below the last one": func(k impl.Keep) impl.Keep { return impl.KeepPut(k, 3) },
		"drop none":              func(k impl.Keep) impl.Keep { return impl.KeepDrop(k, 6) },
		"drop one":               func(k impl.Keep) impl.Keep { return impl.KeepDrop(k, 9) },
		"drop all":               func(k impl.Keep) impl.Keep { return impl.KeepDrop(k, 90) },
		"ask":                    func(k impl.Keep) impl.Keep { impl.KeepAsk(k, 8); return impl.Keep{} },
		"right":                  func(k impl.Keep) impl.Keep { impl.KeepRight(k); return impl.Keep{} },
		"most":                   func(k impl.Keep) impl.Keep { impl.KeepMost(k); return impl.Keep{} },
	}
}

// wantOwnMemory asks a call twice of times with room behind them, and writes into all that there is.
func wantOwnMemory(t *testing.T, what string, k impl.Keep, call func(k impl.Keep) impl.Keep) {
	t.Helper()
	room := append(slices.Clone(k.Times), 1001, 1002, 1003)
	k.Times = room[:len(k.Times)]
	kept := slices.Clone(room)
	first, second := call(k), call(k)
	told := slices.Clone(second.Times)
	if !slices.Equal(first.Times, second.Times) {
		t.Errorf("%s of %+v: two answers of one call: %v and %v", what, k, first.Times, second.Times)
	}
	if !slices.Equal(room, kept) {
		t.Errorf("%s of %+v: what was handed in was turned: %v, it was %v", what, k, room, kept)
	}
	turnedTimes(first.Times)
	if !slices.Equal(room, kept) {
		t.Errorf("%s: written into the answer, what was handed in was turned: %v, it was %v", what, room, kept)
	}
	if !slices.Equal(second.Times, told) {
		t.Errorf("%s: written into one answer, another one was turned: %v, it was %v", what, second.Times, told)
	}
	turnedTimes(room)
	if !slices.Equal(second.Times, told) {
		t.Errorf("%s: written into what was handed in, the answer was turned: %v, it was %v", what, second.Times, told)
	}
}

func TestPromise6MemoryOfKeeps(t *testing.T) {
	keeps := []impl.Keep{keep(1, 4, 4, 6), keep(0, 4, 2, 3, 4, 5, 6), keep(0, 4), keep(0, -1), keep(2, -1, 6), keep(1, 0, 4), keep(0, 0, 6)}
	for what, call := range keepCalls() {
		for _, k := range keeps {
			wantOwnMemory(t, what, k, call)
		}
		wantOwnMemory(t, what, keep(0, impl.MaxBound, risingTimes(0, 7)...), call)
	}
}

// Two ways that go on from one Keep do not come upon each other.
func TestPromise6TwoWaysFromOneKeep(t *testing.T) {
	begin := keep(0, 9)
	for time := range int64(6) {
		begin = impl.KeepPut(begin, time)
	}
	one, other := impl.KeepPut(begin, 6), impl.KeepPut(begin, 8)
	one, other = impl.KeepPut(one, 7), impl.KeepPut(other, 9)
	if !slices.Equal(one.Times, []int64{0, 1, 2, 3, 4, 5, 6, 7}) || !slices.Equal(other.Times, []int64{0, 1, 2, 3, 4, 5, 8, 9}) {
		t.Errorf("two ways: got %v and %v", one.Times, other.Times)
	}
	if !slices.Equal(begin.Times, risingTimes(0, 6)) {
		t.Errorf("where both began: got %v", begin.Times)
	}
}
