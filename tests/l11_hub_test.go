package tests

import (
	"hash/fnv"
	"math"
	"math/rand"
	"slices"
	"strconv"
	"strings"
	"testing"

	"loop.example/g00759/impl"
)

// shardByRule reckons by the library's FNV-1a of 32 bits, which is the chapter's number.
func shardByRule(key string, many int64) int64 {
	if !plainWord(key) || many < 1 || many > 4 {
		return -1
	}
	sum := fnv.New32a()
	sum.Write([]byte(key))
	return int64(sum.Sum32()) % many
}

func sameItem(a impl.Item, b impl.Item) bool {
	return a.Ticket == b.Ticket && a.Key == b.Key && sameEvent(a.Event, b.Event)
}

func sameShard(a impl.Shard, b impl.Shard) bool {
	return slices.EqualFunc(a.Queue, b.Queue, sameItem) && sameTable(a.Table, b.Table) && a.Latest == b.Latest && slices.Equal(a.Known, b.Known)
}

func sameHub(a impl.Hub, b impl.Hub) bool {
	return sameFormula(a.Formula, b.Formula) && slices.EqualFunc(a.Shards, b.Shards, sameShard) && a.Ticket == b.Ticket && slices.Equal(a.Outs, b.Outs) && a.Shut == b.Shut
}

func sameHubOut(a impl.HubOut, b impl.HubOut) bool {
	return sameHub(a.Hub, b.Hub) && a.Ticket == b.Ticket && a.Code == b.Code
}

func copyHub(h impl.Hub) impl.Hub {
	h.Formula, h.Outs, h.Shards = slices.Clone(h.Formula), slices.Clone(h.Outs), slices.Clone(h.Shards)
	for i, s := range h.Shards {
		s.Queue, s.Table, s.Known = slices.Clone(s.Queue), copyTable(s.Table), slices.Clone(s.Known)
		for at, item := range s.Queue {
			s.Queue[at].Event.Names = slices.Clone(item.Event.Names)
		}
		h.Shards[i] = s
	}
	return h
}

func copyHubOut(o impl.HubOut) impl.HubOut {
	o.Hub = copyHub(o.Hub)
	return o
}

// hubText is what is told in short, for a failure.
func hubText(o impl.HubOut) string {
	pieces := []string{"code " + strconv.FormatInt(o.Code, 10), "ticket " + strconv.FormatInt(o.Ticket, 10), "of " + strconv.FormatInt(o.Hub.Ticket, 10)}
	if o.Hub.Shut {
		pieces = append(pieces, "shut")
	}
	for _, s := range o.Hub.Shards {
		pieces = append(pieces, "| latest "+strconv.FormatInt(s.Latest, 10)+" known "+strings.Join(s.Known, ","))
		for _, item := range s.Queue {
			pieces = append(pieces, strconv.FormatInt(item.Ticket, 10)+":"+item.Key+"@"+strconv.FormatInt(item.Event.Time, 10))
		}
		pieces = append(pieces, "rows "+strings.Join(impl.KeysOf(s.Table), ","))
	}
	return strings.Join(append(pieces, "|", outText(o.Hub.Outs)), " ")
}

// outText has of each Out its Ticket, its Key and a sign, as "3a+".
func outText(outs []impl.Out) string {
	var pieces []string
	for _, o := range outs {
		pieces = append(pieces, strconv.FormatInt(o.Ticket, 10)+o.Key+signs([]bool{o.Yes}))
	}
	return strings.Join(pieces, " ")
}

// hubByRule asks for what the chapter names, one by one.
func hubByRule(h impl.Hub) bool {
	many := int64(len(h.Shards))
	if !impl.FormulaRight(h.Formula) || many < 1 || many > 4 || !timeByRule(h.Ticket) || len(h.Outs) > 200 {
		return false
	}
	seen := make(map[int64]bool)
	for i, o := range h.Outs {
		if o.Ticket < 1 || o.Ticket > h.Ticket || !plainWord(o.Key) || i > 0 && h.Outs[i-1].Ticket >= o.Ticket {
			return false
		}
		seen[o.Ticket] = true
	}
	for place, s := range h.Shards {
		if !queueByRule(s.Queue, int64(place), many, h.Ticket) || !shardRightByRule(h, int64(place)) {
			return false
		}
		for _, item := range s.Queue {
			if seen[item.Ticket] {
				return false
			}
			seen[item.Ticket] = true
		}
	}
	return true
}

func queueByRule(queue []impl.Item, place int64, many int64, highest int64) bool {
	for i, item := range queue {
		if item.Ticket < 1 || item.Ticket > highest || shardByRule(item.Key, many) != place || !eventByRule(item.Event) {
			return false
		}
		if i > 0 && (queue[i-1].Ticket >= item.Ticket || queue[i-1].Event.Time > item.Event.Time) {
			return false
		}
	}
	return len(queue) <= 8
}

func shardRightByRule(h impl.Hub, place int64) bool {
	s, many := h.Shards[place], int64(len(h.Shards))
	if !tableByRule(s.Table) || !sameFormula(s.Table.Formula, h.Formula) || !timeByRule(s.Latest) || int64(len(s.Known)) > s.Table.Cap {
		return false
	}
	for i, key := range s.Known {
		if shardByRule(key, many) != place || i > 0 && strings.Compare(s.Known[i-1], key) >= 0 {
			return false
		}
	}
	for _, row := range s.Table.Rows {
		if shardByRule(row.Key, many) != place || row.Monitor.Now > s.Latest || !slices.Contains(s.Known, row.Key) {
			return false
		}
	}
	for _, item := range s.Queue {
		if item.Event.Time > s.Latest || !slices.Contains(s.Known, item.Key) {
			return false
		}
	}
	return true
}

func emitByRule(h impl.Hub, key string, e impl.Event) impl.HubOut {
	if len(key) > 8000 {
		return impl.HubOut{Code: impl.ErrSize}
	}
	if !hubByRule(h) || !plainWord(key) || !eventByRule(e) || h.Ticket == 1000000 {
		return impl.HubOut{Code: impl.ErrForm}
	}
	if h.Shut {
		return impl.HubOut{Code: impl.ErrState}
	}
	h = copyHub(h)
	s := &h.Shards[shardByRule(key, int64(len(h.Shards)))]
	together := len(h.Outs)
	for _, other := range h.Shards {
		together += len(other.Queue)
	}
	if len(s.Queue) == 8 || together >= 200 {
		return impl.HubOut{Code: impl.ErrFull}
	}
	if !slices.Contains(s.Known, key) {
		if int64(len(s.Known)) == s.Table.Cap {
			return impl.HubOut{Code: impl.ErrRange}
		}
		s.Known = append(s.Known, key)
		slices.Sort(s.Known)
	}
	if e.Time < s.Latest {
		e.Time = s.Latest
	}
	h.Ticket++
	s.Latest = e.Time
	s.Queue = append(s.Queue, impl.Item{Ticket: h.Ticket, Key: key, Event: impl.Event{Time: e.Time, Names: slices.Clone(e.Names)}})
	return impl.HubOut{Hub: h, Ticket: h.Ticket}
}

// turnByRule is of a house with an Item in that shard.
func turnByRule(h impl.Hub, shard int64) impl.Hub {
	h = copyHub(h)
	s := &h.Shards[shard]
	item := s.Queue[0]
	s.Queue = s.Queue[1:]
	put := tablePutByRule(s.Table, item.Key, item.Event)
	if put.Code == impl.OK {
		s.Table = put.Table
	}
	at := 0
	for at < len(h.Outs) && h.Outs[at].Ticket < item.Ticket {
		at++
	}
	h.Outs = slices.Insert(h.Outs, at, impl.Out{Ticket: item.Ticket, Key: item.Key, Yes: put.Code == impl.OK && put.Verdict})
	return h
}

func workByRule(h impl.Hub, shard int64) impl.HubOut {
	if !hubByRule(h) {
		return impl.HubOut{Code: impl.ErrForm}
	}
	if shard < 0 || shard >= int64(len(h.Shards)) || len(h.Shards[shard].Queue) == 0 {
		return impl.HubOut{Code: impl.ErrNone}
	}
	return impl.HubOut{Hub: turnByRule(h, shard)}
}

func flushByRule(h impl.Hub) impl.HubOut {
	if !hubByRule(h) {
		return impl.HubOut{Code: impl.ErrForm}
	}
	for place := range h.Shards {
		for len(h.Shards[place].Queue) > 0 {
			h = turnByRule(h, int64(place))
		}
	}
	return impl.HubOut{Hub: h}
}

func shutByRule(h impl.Hub) impl.HubOut {
	if hubByRule(h) && h.Shut {
		return impl.HubOut{Code: impl.ErrState}
	}
	told := flushByRule(h)
	told.Hub.Shut = told.Code == impl.OK
	return told
}

func readyByRule(h impl.Hub) []impl.Out {
	var ready []impl.Out
	if !hubByRule(h) {
		return nil
	}
	for _, o := range h.Outs {
		below := true
		for _, s := range h.Shards {
			for _, item := range s.Queue {
				below = below && o.Ticket < item.Ticket
			}
		}
		if below {
			ready = append(ready, o)
		}
	}
	return ready
}

// begins tells whether all of the one list stands at the head of the other.
func begins(head []impl.Out, whole []impl.Out) bool {
	return len(head) <= len(whole) && slices.Equal(head, whole[:len(head)])
}

// wantHub holds a right house to what may be told by now, of all that it comes to.
func wantHub(t *testing.T, h impl.Hub) {
	t.Helper()
	if !impl.HubRight(h) {
		t.Fatalf("HubRight: got no: %.500s", hubText(impl.HubOut{Hub: h}))
	}
	got, want := impl.Ready(h), readyByRule(h)
	if !slices.Equal(got, want) {
		t.Fatalf("Ready: got %.300s, want %.300s", outText(got), outText(want))
	}
	if later := impl.Flush(h).Hub.Outs; !begins(got, later) {
		t.Fatalf("Ready: %.300s, and later %.300s", outText(got), outText(later))
	}
}

// wantHouse holds an answer to the rule's; what comes behind a right house is one, and what was ready is so still.
func wantHouse(t *testing.T, what string, h impl.Hub, got impl.HubOut, want impl.HubOut) impl.HubOut {
	t.Helper()
	if !sameHubOut(got, want) {
		t.Fatalf("%s of %.400s: got %.400s, want %.400s", what, hubText(impl.HubOut{Hub: h}), hubText(got), hubText(want))
	}
	if got.Code == impl.OK {
		wantHub(t, got.Hub)
		if ahead, now := impl.Ready(h), impl.Ready(got.Hub); !begins(ahead, now) {
			t.Fatalf("%s: Ready was %.300s, is %.300s", what, outText(ahead), outText(now))
		}
	}
	return got
}

func wantEmit(t *testing.T, h impl.Hub, key string, e impl.Event) impl.HubOut {
	t.Helper()
	return wantHouse(t, "Emit of "+key+" "+impl.EventText(e), h, impl.Emit(h, key, e), emitByRule(h, key, e))
}

func wantWork(t *testing.T, h impl.Hub, shard int64) impl.HubOut {
	t.Helper()
	return wantHouse(t, "Work of "+strconv.FormatInt(shard, 10), h, impl.Work(h, shard), workByRule(h, shard))
}

func wantFlush(t *testing.T, h impl.Hub) impl.HubOut {
	t.Helper()
	return wantHouse(t, "Flush", h, impl.Flush(h), flushByRule(h))
}

func wantShut(t *testing.T, h impl.Hub) impl.HubOut {
	t.Helper()
	return wantHouse(t, "Shut", h, impl.Shut(h), shutByRule(h))
}

// wantHubCode is of a call that is refused: nothing is told but the code.
func wantHubCode(t *testing.T, why string, got impl.HubOut, code int64) {
	t.Helper()
	if !sameHubOut(got, impl.HubOut{Code: code}) {
		t.Errorf("%s: got %.300s, want code %d", why, hubText(got), code)
	}
}

// wantWrongHub holds all calls to their answers for a house that is not right, whatever else is handed in.
func wantWrongHub(t *testing.T, why string, h impl.Hub) {
	t.Helper()
	if impl.HubRight(h) {
		t.Errorf("%s: HubRight: got yes: %.300s", why, hubText(impl.HubOut{Hub: h}))
	}
	if got := impl.Ready(h); len(got) != 0 {
		t.Errorf("%s: Ready: got %.300s", why, outText(got))
	}
	for _, key := range []string{"a", "b", "zz", "A", ""} {
		for _, e := range []impl.Event{event(0), event(impl.MaxTime, "p"), event(-1), event(9, "q", "p")} {
			wantHubCode(t, why+": Emit", impl.Emit(h, key, e), impl.ErrForm)
		}
	}
	wantHubCode(t, why+": Emit", impl.Emit(h, strings.Repeat("a", impl.MaxBytes+1), event(9)), impl.ErrSize)
	for _, shard := range []int64{0, 1, 3, 4, -1, math.MinInt64, math.MaxInt64} {
		wantHubCode(t, why+": Work", impl.Work(h, shard), impl.ErrForm)
	}
	wantHubCode(t, why+": Flush", impl.Flush(h), impl.ErrForm)
	wantHubCode(t, why+": Shut", impl.Shut(h), impl.ErrForm)
}

// newHub is the house without anything.
func newHub(t *testing.T, f []impl.Node, shards int64, most int64) impl.Hub {
	t.Helper()
	got := impl.HubNew(f, shards, most)
	want := impl.Hub{Formula: f}
	for range shards {
		want.Shards = append(want.Shards, impl.Shard{Table: impl.Table{Formula: f, Cap: most}})
	}
	if !sameHubOut(got, impl.HubOut{Hub: want}) {
		t.Fatalf("HubNew of %d and %d: got %.300s", shards, most, hubText(got))
	}
	wantHub(t, got.Hub)
	return got.Hub
}

// gone goes on from a house: a text as "a 5 p" is an Emit, one as "0" Work of that shard. Nothing of it is refused.
func gone(t *testing.T, h impl.Hub, turns ...string) impl.Hub {
	t.Helper()
	for _, turn := range turns {
		var got impl.HubOut
		if shard, err := strconv.ParseInt(turn, 10, 64); err == nil {
			got = wantWork(t, h, shard)
		} else {
			one := keyedOf(t, turn)[0]
			got = wantEmit(t, h, one.key, one.e)
		}
		if got.Code != impl.OK {
			t.Fatalf("%s: code %d", turn, got.Code)
		}
		h = got.Hub
	}
	return h
}

// house is one that began with HubNew.
func house(t *testing.T, text string, shards int64, most int64, turns ...string) impl.Hub {
	t.Helper()
	return gone(t, newHub(t, formula(t, text), shards, most), turns...)
}

// keysByShard are keys of all lengths, rising, by the shard they fall to: each has some.
func keysByShard(many int64) [][]string {
	keys := append(someKeys(), "aaa", "xyz", "sinces", "truee")
	for letter := 'b'; letter < 'z'; letter++ {
		keys = append(keys, string(letter))
	}
	slices.Sort(keys)
	all := make([][]string, many)
	for _, key := range slices.Compact(keys) {
		place := shardByRule(key, many)
		all[place] = append(all[place], key)
	}
	return all
}

func TestConstantsOfChapter12(t *testing.T) {
	if impl.MaxShards != 4 || impl.MaxQueue != 8 || impl.MaxOuts != 200 {
		t.Errorf("got %d, %d, %d", impl.MaxShards, impl.MaxQueue, impl.MaxOuts)
	}
}

func TestPromise14ShardsOfKeys(t *testing.T) {
	// Each number is reckoned by hand of the bytes alone, ahead of the modulo.
	sums := map[string]int64{
		"a": 3826002220, "b": 3876335077, "c": 3859557458, "m": 3893112696, "z": 4278997933, "aa": 1277494327, "ab": 1294271946,
		"ba": 1009493708, "abc": 440920331, "xyz": 3298945248, "tru": 2820516290, "truee": 3478228096, "nots": 2610568187,
		"aaaaaaaa": 2904486893, "abcdefgh": 1994041997, "hgfedcba": 764932853, "zzzzzzzz": 4276226693, "qwertyui": 1138608599,
	}
	for key, sum := range sums {
		for many := int64(1); many <= impl.MaxShards; many++ {
			if got := impl.ShardOf(key, many); got != sum%many {
				t.Errorf("ShardOf %s of %d: got %d, want %d", key, many, got, sum%many)
			}
		}
	}
	for many, all := range [][][]string{keysByShard(1), keysByShard(2), keysByShard(3), keysByShard(4)} {
		for place, keys := range all {
			for _, key := range keys {
				if got := impl.ShardOf(key, int64(many+1)); got != int64(place) {
					t.Errorf("ShardOf %s of %d: got %d, want %d", key, many+1, got, place)
				}
			}
		}
	}
	long := []string{strings.Repeat("a", impl.MaxBytes+1), strings.Repeat("z", 3*impl.MaxBytes)}
	manys := []int64{0, -1, -4, impl.MaxShards + 1, impl.MaxKeys, 1 << 32, 1<<32 + 1, math.MinInt64, math.MaxInt64}
	for _, key := range append(append(wrongKeys(), someKeys()...), long...) {
		for _, many := range manys {
			if got := impl.ShardOf(key, many); got != -1 {
				t.Errorf("ShardOf %.20q of %d: got %d", key, many, got)
			}
		}
	}
	for _, key := range append(wrongKeys(), long...) {
		for many := int64(1); many <= impl.MaxShards; many++ {
			if got := impl.ShardOf(key, many); got != -1 {
				t.Errorf("ShardOf %.20q of %d: got %d", key, many, got)
			}
		}
	}
}

// Names of all lengths, many of them, fall where the rule has them.
func TestPromise14ShardsOfAnyKeys(t *testing.T) {
	r := rand.New(rand.NewSource(141))
	for range 4000 {
		key := make([]byte, r.Intn(10))
		for i := range key {
			key[i] = byte('a' + r.Intn(26))
		}
		many := r.Int63n(6)
		if got, want := impl.ShardOf(string(key), many), shardByRule(string(key), many); got != want {
			t.Fatalf("ShardOf %q of %d: got %d, want %d", key, many, got, want)
		}
	}
}

func TestPromise14NewHouses(t *testing.T) {
	none := []int64{0, -1, -4, 1 << 32, 1<<32 + 1, math.MinInt64, math.MaxInt64}
	for _, text := range append(nestedTexts(), "p", "true") {
		f := formula(t, text)
		for shards := int64(1); shards <= impl.MaxShards; shards++ {
			for _, most := range []int64{1, 2, 5, impl.MaxKeys - 1, impl.MaxKeys} {
				h := newHub(t, f, shards, most)
				if got := impl.Ready(h); len(got) != 0 {
					t.Errorf("Ready of a house without anything: %s", outText(got))
				}
			}
			for _, most := range append(none, impl.MaxKeys+1, impl.MaxList) {
				wantHubCode(t, "HubNew of a wrong Cap", impl.HubNew(f, shards, most), impl.ErrForm)
			}
		}
		for _, shards := range append(none, impl.MaxShards+1, impl.MaxKeys) {
			for _, most := range []int64{1, impl.MaxKeys, 0, impl.MaxKeys + 1} {
				wantHubCode(t, "HubNew of wrong shards", impl.HubNew(f, shards, most), impl.ErrForm)
			}
		}
	}
	for why, f := range wrongFormulas() {
		wantHubCode(t, "HubNew: "+why, impl.HubNew(f, 2, 3), impl.ErrForm)
		wantHubCode(t, "HubNew, all wrong: "+why, impl.HubNew(f, 0, 0), impl.ErrForm)
	}
	for _, many := range []int{impl.MaxNodes - 1, impl.MaxNodes} {
		newHub(t, nots(many), 3, 2)
	}
	for _, f := range [][]impl.Node{nots(impl.MaxNodes + 1), make([]impl.Node, impl.MaxList)} {
		wantHubCode(t, "HubNew of too many nodes", impl.HubNew(f, 1, 1), impl.ErrForm)
	}
	for _, f := range [][]impl.Node{nots(impl.MaxList + 1), make([]impl.Node, 3*impl.MaxList)} {
		wantHubCode(t, "HubNew of too long a list", impl.HubNew(f, 1, 1), impl.ErrSize)
		wantHubCode(t, "HubNew of too long a list, all wrong", impl.HubNew(f, 0, 0), impl.ErrSize)
	}
}

// Of four shards a falls to 0, b to 1, c to 2 and d to 3.
func TestPromise14TurnByTurn(t *testing.T) {
	steps := []struct {
		turn  string
		house string
		ready string
	}{
		{"b 5 p", "1 | | 1:b@5 | |", ""},
		{"a 3", "2 | 2:a@3 | 1:b@5 | |", ""},
		{"f 2 q", "3 | 2:a@3 | 1:b@5 3:f@5 | |", ""},
		{"0", "3 | | 1:b@5 3:f@5 | | 2a-", ""},
		{"d 9 p", "4 | | 1:b@5 3:f@5 | | 4:d@9 2a-", ""},
		{"1", "4 | | 3:f@5 | | 4:d@9 1b+ 2a-", "1b+ 2a-"},
		{"b 4 p", "5 | | 3:f@5 5:b@5 | | 4:d@9 1b+ 2a-", "1b+ 2a-"},
		{"3", "5 | | 3:f@5 5:b@5 | | 1b+ 2a- 4d+", "1b+ 2a-"},
		{"1", "5 | | 5:b@5 | | 1b+ 2a- 3f- 4d+", "1b+ 2a- 3f- 4d+"},
		{"a 1 p", "6 | 6:a@3 | 5:b@5 | | 1b+ 2a- 3f- 4d+", "1b+ 2a- 3f- 4d+"},
		{"0", "6 | | 5:b@5 | | 1b+ 2a- 3f- 4d+ 6a+", "1b+ 2a- 3f- 4d+"},
		{"1", "6 | | | | 1b+ 2a- 3f- 4d+ 5b+ 6a+", "1b+ 2a- 3f- 4d+ 5b+ 6a+"},
	}
	h := house(t, "(once 0 3 p)", 4, 2)
	for _, s := range steps {
		h = gone(t, h, s.turn)
		pieces := []string{strconv.FormatInt(h.Ticket, 10)}
		for _, x := range h.Shards {
			pieces = append(pieces, "|")
			for _, item := range x.Queue {
				pieces = append(pieces, strconv.FormatInt(item.Ticket, 10)+":"+item.Key+"@"+strconv.FormatInt(item.Event.Time, 10))
			}
		}
		if got := strings.TrimSpace(strings.Join(append(pieces, outText(h.Outs)), " ")); got != s.house {
			t.Errorf("behind %s: got %s, want %s", s.turn, got, s.house)
		}
		if got := outText(impl.Ready(h)); got != s.ready {
			t.Errorf("behind %s: Ready tells %s, want %s", s.turn, got, s.ready)
		}
	}
	if shut := wantShut(t, h).Hub; !shut.Shut || outText(shut.Outs) != "1b+ 2a- 3f- 4d+ 5b+ 6a+" {
		t.Errorf("Shut tells %s", outText(shut.Outs))
	}
}

// The Time of an event is that of its shard's Latest, if that is greater, whatever its key; of other shards nothing.
func TestPromise14LatestOfEachShard(t *testing.T) {
	for many := int64(1); many <= impl.MaxShards; many++ {
		for _, most := range []int64{3, impl.MaxKeys} {
			h := house(t, "p", many, most)
			latest := make([]int64, many)
			times := []int64{5, 3, 5, 6, 0, 900, 899, impl.MaxTime - 1, 7, impl.MaxTime, 0, impl.MaxTime - 1}
			for i, time := range times {
				key := []string{"a", "b", "c"}[i%3]
				place := shardByRule(key, many)
				want := max(latest[place], time)
				got := wantEmit(t, h, key, event(time, "p"))
				queue := got.Hub.Shards[place].Queue
				if item := queue[len(queue)-1]; item.Event.Time != want || item.Ticket != int64(i+1) || got.Ticket != item.Ticket {
					t.Errorf("%d shards: %s at %d is taken at %d, ticket %d, want %d", many, key, time, item.Event.Time, got.Ticket, want)
				}
				latest[place] = want
				for other, s := range got.Hub.Shards {
					if s.Latest != latest[other] {
						t.Errorf("%d shards: Latest of %d is %d, want %d", many, other, s.Latest, latest[other])
					}
				}
				h = got.Hub
				// Worked on or not, what was taken stays the latest.
				if i%2 == 1 {
					h = wantWork(t, h, place).Hub
				}
			}
		}
	}
}

func TestPromise14FullQueues(t *testing.T) {
	for many := int64(1); many <= impl.MaxShards; many++ {
		h := house(t, "(prev 0 * p)", many, impl.MaxKeys)
		keys := keysByShard(many)
		place := many - 1
		for i := range impl.MaxQueue {
			if got := len(h.Shards[place].Queue); got != i {
				t.Fatalf("%d Items, want %d", got, i)
			}
			h = gone(t, h, keys[place][i%3]+" 4 p")
		}
		full := h
		for _, key := range keys[place] {
			// Its keys are full or not: the Queue is named first.
			wantHubCode(t, "Emit to a full Queue", impl.Emit(full, key, event(9)), impl.ErrFull)
		}
		for other := range place {
			h = gone(t, h, keys[other][0]+" 2")
		}
		h = gone(t, full, strconv.FormatInt(place, 10), keys[place][0]+" 9 p")
		wantHubCode(t, "Emit to a Queue that is full again", impl.Emit(h, keys[place][0], event(9)), impl.ErrFull)
		// One more is no right house.
		over := copyHub(full)
		over.Ticket++
		over.Shards[place].Queue = append(over.Shards[place].Queue, impl.Item{Ticket: over.Ticket, Key: keys[place][0], Event: event(4)})
		wantWrongHub(t, "a Queue of one more", over)
		over.Shards[place].Queue = over.Shards[place].Queue[1:]
		wantHub(t, over)
	}
}

// stocked is a house with that many Outs, by others than its keys, and that many Items in each shard.
func stocked(t *testing.T, shards int64, outs int, items ...int) impl.Hub {
	t.Helper()
	h := newHub(t, formula(t, "(once 0 3 p)"), shards, 3)
	for range outs {
		h.Ticket++
		h.Outs = append(h.Outs, impl.Out{Ticket: h.Ticket, Key: []string{"a", "other"}[h.Ticket%2], Yes: h.Ticket%3 == 0})
	}
	for place, many := range items {
		key := keysByShard(shards)[place][0]
		for range many {
			h.Ticket++
			s := &h.Shards[place]
			s.Queue = append(s.Queue, impl.Item{Ticket: h.Ticket, Key: key, Event: event(3, "p")})
			s.Known, s.Latest = []string{key}, 3
		}
	}
	if !impl.HubRight(h) {
		t.Fatalf("%d Outs and %d Items: no right house", outs, items)
	}
	return h
}

func TestPromise14OutsAndItemsTogether(t *testing.T) {
	for _, x := range []struct {
		outs  int
		items []int
		code  int64
	}{
		{198, nil, impl.OK}, {199, nil, impl.OK}, {200, nil, impl.ErrFull},
		{198, []int{1}, impl.OK}, {198, []int{2}, impl.ErrFull}, {199, []int{0, 1}, impl.ErrFull}, {198, []int{0, 0, 1}, impl.OK},
		{192, []int{7}, impl.OK}, {192, []int{3, 0, 4}, impl.OK}, {192, []int{3, 0, 5}, impl.ErrFull}, {193, []int{7}, impl.ErrFull},
		{175, []int{7, 6, 5, 6}, impl.OK}, {176, []int{7, 6, 5, 6}, impl.ErrFull}, {0, []int{7, 8, 8, 8}, impl.OK},
		{172, []int{7, 7, 7, 7}, impl.ErrFull}, {171, []int{7, 7, 7, 7}, impl.OK}, {200, []int{1}, impl.ErrFull}, {200, []int{7, 7, 7, 7}, impl.ErrFull},
	} {
		shards := int64(max(len(x.items), 3))
		h := stocked(t, shards, x.outs, x.items...)
		keys := keysByShard(shards)
		for _, key := range []string{keys[0][0], keys[0][1], keys[0][2]} {
			got := impl.Emit(h, key, event(9))
			if !sameHubOut(got, emitByRule(h, key, event(9))) || got.Code != x.code {
				t.Errorf("%d Outs, %d Items: Emit of %s: got %.300s", x.outs, x.items, key, hubText(got))
			}
		}
	}
	h := stocked(t, 1, 200)
	wantHub(t, h)
	h.Ticket++
	h.Outs = append(h.Outs, impl.Out{Ticket: h.Ticket, Key: "a"})
	wantWrongHub(t, "Outs of one more", h)
	h.Outs = h.Outs[1:]
	wantHub(t, h)
	for _, many := range []int64{impl.MaxList, impl.MaxList + 1, 3 * impl.MaxList} {
		h.Outs, h.Ticket = nil, many
		for at := range many {
			h.Outs = append(h.Outs, impl.Out{Ticket: at + 1, Key: "a"})
		}
		wantWrongHub(t, "a field of many Outs", h)
	}
}

// Two hundred events are taken, and no more, however many of them are told already.
func TestPromise14AsManyOutsAsThereMayBe(t *testing.T) {
	for many := int64(1); many <= impl.MaxShards; many++ {
		keys := keysByShard(many)
		h := house(t, "(since 0 9 p q)", many, 2)
		for i := range int64(impl.MaxOuts) {
			place := i % many
			if len(h.Shards[place].Queue) == impl.MaxQueue {
				h = wantWork(t, h, place).Hub
			}
			got := impl.Emit(h, keys[place][i%2], event(i, []string{"p", "q"}[i%2]))
			if got.Code != impl.OK || got.Ticket != i+1 {
				t.Fatalf("event %d: got %.300s", i, hubText(got))
			}
			h = got.Hub
		}
		for range 2 {
			for place := range many {
				wantHubCode(t, "Emit of one more", impl.Emit(h, keys[place][0], event(900)), impl.ErrFull)
				h = wantWork(t, h, place).Hub
			}
		}
		h = wantFlush(t, h).Hub
		if len(h.Outs) != impl.MaxOuts || len(impl.Ready(h)) != impl.MaxOuts {
			t.Errorf("%d Outs, %d ready", len(h.Outs), len(impl.Ready(h)))
		}
		wantHubCode(t, "Emit of one more", impl.Emit(h, keys[0][0], event(900)), impl.ErrFull)
		wantHubCode(t, "Emit of one more, a new key", impl.Emit(h, keys[0][2], event(900)), impl.ErrFull)
		wantShut(t, h)
	}
}

func TestPromise14KnownKeys(t *testing.T) {
	for many := int64(1); many <= impl.MaxShards; many++ {
		all := keysByShard(many)
		for _, most := range []int64{1, 2, 5, impl.MaxKeys} {
			h := house(t, "p", many, most)
			place := many - 1
			keys := slices.Clone(all[place])
			slices.Reverse(keys)
			if int64(len(keys)) <= most {
				most = int64(len(keys)) - 1
				h = house(t, "p", many, most)
			}
			for i, key := range keys[:most] {
				h = gone(t, h, key+" 3 p")
				if i%2 == 0 {
					h = wantWork(t, h, place).Hub
				}
				known := slices.Sorted(slices.Values(keys[:i+1]))
				if !slices.Equal(h.Shards[place].Known, known) {
					t.Errorf("Known are %q, want %q", h.Shards[place].Known, known)
				}
			}
			for _, key := range keys[most:] {
				wantHubCode(t, "one key more, some in the Queue", impl.Emit(h, key, event(9)), impl.ErrRange)
			}
			done := wantFlush(t, h).Hub
			for _, key := range keys[most:] {
				wantHubCode(t, "one key more", impl.Emit(done, key, event(9)), impl.ErrRange)
				wantHubCode(t, "one key more, an event that is over", impl.Emit(done, key, event(0)), impl.ErrRange)
			}
			for _, key := range keys[:most] {
				if got := wantEmit(t, done, key, event(9)); got.Code != impl.OK {
					t.Errorf("a key that is known: code %d", got.Code)
				}
			}
			for other := range place {
				if got := wantEmit(t, done, all[other][0], event(1)); got.Code != impl.OK {
					t.Errorf("a key of a shard that has room: code %d", got.Code)
				}
			}
		}
	}
}

// A key may be known that has neither a row nor an Item; it has its place all the same.
func TestPromise14KnownWithoutARow(t *testing.T) {
	h := house(t, "p", 1, 2, "b 3 p", "0")
	h.Shards[0].Known = []string{"b", "k"}
	wantHub(t, h)
	for _, key := range []string{"a", "c", "z"} {
		wantHubCode(t, "one key more", impl.Emit(h, key, event(9)), impl.ErrRange)
	}
	for _, key := range []string{"b", "k"} {
		got := wantEmit(t, h, key, event(9))
		if got.Code != impl.OK || !slices.Equal(got.Hub.Shards[0].Known, []string{"b", "k"}) {
			t.Errorf("%s: got %.300s", key, hubText(got))
		}
	}
	h.Shards[0].Table.Cap = 3
	if got := wantEmit(t, h, "c", event(9)); !slices.Equal(got.Hub.Shards[0].Known, []string{"b", "c", "k"}) {
		t.Errorf("Known are %q", got.Hub.Shards[0].Known)
	}
	h.Shards[0].Table.Cap = 1
	wantWrongHub(t, "Known more than Cap", h)
}

func TestPromise14Tickets(t *testing.T) {
	begin := house(t, "(once 0 3 p)", 2, 3, "a 3 p", "b 2", "0", "b 4 p")
	for _, ticket := range []int64{3, 4, 77, impl.MaxTime - 2, impl.MaxTime - 1} {
		h := begin
		h.Ticket = ticket
		got := wantEmit(t, h, "a", event(5))
		if got.Code != impl.OK || got.Ticket != ticket+1 || got.Hub.Ticket != ticket+1 || got.Hub.Shards[0].Queue[0].Ticket != ticket+1 {
			t.Errorf("behind ticket %d: got %.300s", ticket, hubText(got))
		}
	}
	last := begin
	last.Ticket = impl.MaxTime
	wantHub(t, last)
	wantHubCode(t, "Emit behind the last ticket", impl.Emit(last, "a", event(5)), impl.ErrForm)
	last = wantWork(t, wantWork(t, last, 1).Hub, 1).Hub
	wantHubCode(t, "Emit behind the last ticket", impl.Emit(wantFlush(t, last).Hub, "a", event(5)), impl.ErrForm)
	if got := wantShut(t, last); got.Code != impl.OK || got.Ticket != 0 {
		t.Errorf("Shut behind the last ticket: got %.300s", hubText(got))
	}
	for _, ticket := range []int64{2, 1, 0, -1, impl.MaxTime + 1, 1 << 32, math.MinInt64, math.MaxInt64} {
		h := begin
		h.Ticket = ticket
		wantWrongHub(t, "Ticket "+strconv.FormatInt(ticket, 10), h)
	}
	empty := house(t, "p", 1, 1)
	for _, ticket := range []int64{0, 1, impl.MaxTime} {
		empty.Ticket = ticket
		wantHub(t, empty)
	}
	for _, ticket := range noTimes() {
		empty.Ticket = ticket
		wantWrongHub(t, "Ticket alone "+strconv.FormatInt(ticket, 10), empty)
	}
}

func TestPromise14WhichEventsAndKeys(t *testing.T) {
	none := house(t, "(prev 0 * p)", 3, 4)
	some := house(t, "(prev 0 * p)", 3, 4, "a 7 p", "b 9 q", "1", "c 3")
	for _, h := range []impl.Hub{none, some} {
		for _, key := range append(someKeys(), "tru", "sinces", "abcdefgh") {
			if got := wantEmit(t, h, key, event(8, "p")); got.Code != impl.OK || got.Ticket != h.Ticket+1 {
				t.Errorf("Emit of %s: got %.300s", key, hubText(got))
			}
		}
		for _, key := range wrongKeys() {
			wantHubCode(t, "a wrong key", impl.Emit(h, key, event(8, "p")), impl.ErrForm)
		}
		for _, many := range []int{impl.MaxBytes + 1, 3 * impl.MaxBytes} {
			wantHubCode(t, "too long a key", impl.Emit(h, strings.Repeat("a", many), event(8)), impl.ErrSize)
		}
		for why, e := range wrongEvents() {
			wantHubCode(t, why, impl.Emit(h, "a", e), impl.ErrForm)
			wantHubCode(t, why+", a new key", impl.Emit(h, "zz", e), impl.ErrForm)
		}
		for _, time := range []int64{0, 1, 6, 7, 8, 9, 10, impl.MaxTime - 1, impl.MaxTime} {
			for _, key := range []string{"a", "b", "c", "zz"} {
				wantEmit(t, h, key, event(time, eightNames()...))
			}
		}
		for _, time := range noTimes() {
			wantHubCode(t, "no time", impl.Emit(h, "a", event(time, "p")), impl.ErrForm)
		}
	}
}

func TestPromise14WorkOfNoShard(t *testing.T) {
	for many := int64(1); many <= impl.MaxShards; many++ {
		keys := keysByShard(many)
		h := house(t, "p", many, 3)
		for place := range many {
			wantHubCode(t, "Work of an empty Queue", impl.Work(h, place), impl.ErrNone)
		}
		h = gone(t, h, keys[many-1][0]+" 4 p")
		for _, shard := range []int64{-1, -2, many, many + 1, many + impl.MaxShards, impl.MaxShards, 1<<32 + many - 1, math.MinInt64, math.MinInt64 + many - 1, math.MaxInt64} {
			if shard != many-1 {
				wantHubCode(t, "Work of shard "+strconv.FormatInt(shard, 10), impl.Work(h, shard), impl.ErrNone)
			}
		}
		for place := range many - 1 {
			wantHubCode(t, "Work of an empty Queue beside", impl.Work(h, place), impl.ErrNone)
		}
		got := wantWork(t, h, many-1)
		if got.Code != impl.OK || got.Ticket != 0 || outText(got.Hub.Outs) != "1"+keys[many-1][0]+"+" {
			t.Errorf("Work of the one Item: got %.300s", hubText(got))
		}
		wantHubCode(t, "Work of a Queue that is empty again", impl.Work(got.Hub, many-1), impl.ErrNone)
	}
}

// Of a house that did not begin with HubNew an Item may be earlier than its Monitor, or that one have seen too many.
func TestPromise14WhatTablesRefuse(t *testing.T) {
	for many := int64(1); many <= 2; many++ {
		begin := house(t, "(once 0 3 p)", many, 3, "a 7 p", "c 8 p")
		begin = gone(t, wantFlush(t, begin).Hub, "a 9 p", "c 9 p", "a 9")
		early, worn := copyHub(begin), copyHub(begin)
		early.Shards[0].Queue[0].Event.Time = 6
		worn.Shards[0].Table.Rows[0].Monitor.Count = impl.MaxTime
		for what, h := range map[string]impl.Hub{"below Now": early, "worn": worn} {
			wantHub(t, h)
			got := wantWork(t, h, 0)
			if got.Code != impl.OK || outText(got.Hub.Outs) != "1a+ 2c+ 3a-" {
				t.Errorf("%s: got %.400s", what, hubText(got))
			}
			if !sameTable(got.Hub.Shards[0].Table, h.Shards[0].Table) || len(got.Hub.Shards[0].Queue) != 2 {
				t.Errorf("%s: the Table has not stayed: %.400s", what, hubText(got))
			}
			if got.Hub.Shards[0].Latest != 9 || !slices.Equal(got.Hub.Shards[0].Known, []string{"a", "c"}) {
				t.Errorf("%s: got %.400s", what, hubText(got))
			}
			end := "1a+ 2c+ 3a- 4c+ 5a" + map[string]string{"below Now": "+", "worn": "-"}[what]
			for which, got := range map[string]impl.HubOut{"Flush": wantFlush(t, h), "Shut": wantShut(t, h), "Flush behind Work": wantFlush(t, got.Hub)} {
				if got.Code != impl.OK || outText(got.Hub.Outs) != end {
					t.Errorf("%s of %s: got %.400s, want %s", which, what, hubText(got), end)
				}
			}
		}
	}
}

// An Out finds its place by its Ticket: ahead of all, between any two, or behind all.
func TestPromise14PlacesOfOuts(t *testing.T) {
	for _, order := range orders(4) {
		h := house(t, "p", 4, 1, "a 1 p", "b 1", "c 1 p", "d 1")
		var turns []int
		for _, place := range order {
			h = wantWork(t, h, int64(place)).Hub
			turns = append(turns, place)
			slices.Sort(turns)
			var want []string
			ready := 0
			for at, place := range turns {
				want = append(want, []string{"1a+", "2b-", "3c+", "4d-"}[place])
				if at == place {
					ready++
				}
			}
			if got := outText(h.Outs); got != strings.Join(want, " ") {
				t.Fatalf("turns %v: got %s, want %s", order, got, want)
			}
			if got := outText(impl.Ready(h)); got != strings.Join(want[:ready], " ") {
				t.Fatalf("turns %v: Ready tells %s, want %s", order, got, want[:ready])
			}
		}
	}
	begin := house(t, "p", 1, 1, "a 1 p")
	begin.Ticket, begin.Shards[0].Queue[0].Ticket = 60, 30
	for outs, want := range map[string]string{
		"": "30a+", "29x 31y": "29x- 30a+ 31y-", "1x 29y": "1x- 29y- 30a+", "31x 60y": "30a+ 31x- 60y-", "1a 2a 28a 40a 50a": "1a- 2a- 28a- 30a+ 40a- 50a-",
	} {
		h := begin
		for _, one := range strings.Fields(outs) {
			ticket, _ := strconv.ParseInt(one[:len(one)-1], 10, 64)
			h.Outs = append(h.Outs, impl.Out{Ticket: ticket, Key: one[len(one)-1:]})
		}
		for _, got := range []impl.HubOut{wantWork(t, h, 0), wantFlush(t, h), wantShut(t, h)} {
			if outText(got.Hub.Outs) != want {
				t.Errorf("among %s: got %s, want %s", outs, outText(got.Hub.Outs), want)
			}
		}
	}
}

func TestPromise14FlushAndShut(t *testing.T) {
	for many := int64(1); many <= impl.MaxShards; many++ {
		empty := house(t, "p", many, 2)
		if got := wantFlush(t, empty); !sameHubOut(got, impl.HubOut{Hub: empty}) {
			t.Errorf("Flush of a house without anything: got %.300s", hubText(got))
		}
		shut := copyHub(empty)
		shut.Shut = true
		if got := wantShut(t, empty); !sameHubOut(got, impl.HubOut{Hub: shut}) {
			t.Errorf("Shut of a house without anything: got %.300s", hubText(got))
		}
		wantHubCode(t, "Shut of a shut one", impl.Shut(shut), impl.ErrState)
		wantHubCode(t, "Emit to a shut one", impl.Emit(shut, "a", event(4)), impl.ErrState)
		wantHubCode(t, "Work of a shut one", impl.Work(shut, 0), impl.ErrNone)
		if got := wantFlush(t, shut); !sameHubOut(got, impl.HubOut{Hub: shut}) {
			t.Errorf("Flush of a shut one: got %.300s", hubText(got))
		}
		h := house(t, "p", many, impl.MaxKeys, "d 4 p", "a 3", "c 2 p", "b 1", "a 5 p", "d 0")
		ended := "1d+ 2a- 3c+ 4b- 5a+ 6d-"
		flushed, closed := wantFlush(t, h), wantShut(t, h)
		if outText(flushed.Hub.Outs) != ended || flushed.Hub.Shut || flushed.Ticket != 0 {
			t.Errorf("Flush: got %.400s", hubText(flushed))
		}
		if outText(closed.Hub.Outs) != ended || !closed.Hub.Shut || closed.Ticket != 0 {
			t.Errorf("Shut: got %.400s", hubText(closed))
		}
		wantHubCode(t, "Emit of a known key to a shut one", impl.Emit(closed.Hub, "a", event(9)), impl.ErrState)
		wantHubCode(t, "Shut again", impl.Shut(closed.Hub), impl.ErrState)
		if again := wantFlush(t, flushed.Hub); !sameHubOut(again, flushed) {
			t.Errorf("Flush again: got %.400s", hubText(again))
		}
		// Shut from the start, with Items that wait: they are worked on all the same.
		h.Shut = true
		wantHub(t, h)
		wantHubCode(t, "Shut of a shut one with Items", impl.Shut(h), impl.ErrState)
		wantHubCode(t, "Emit to a shut one with Items", impl.Emit(h, "a", event(9)), impl.ErrState)
		if got := wantWork(t, h, shardByRule("d", many)); got.Code != impl.OK || !got.Hub.Shut || len(got.Hub.Outs) != 1 {
			t.Errorf("Work of a shut one with Items: got %.400s", hubText(got))
		}
		if got := wantFlush(t, h); outText(got.Hub.Outs) != ended || !got.Hub.Shut {
			t.Errorf("Flush of a shut one with Items: got %.400s", hubText(got))
		}
	}
}

func TestPromise14Ready(t *testing.T) {
	begin := stocked(t, 4, 9)
	for _, x := range []struct {
		outs  string
		items string
		want  string
	}{
		{"", "", ""}, {"1 2 9", "", "1 2 9"}, {"", "1a 2a 9a", ""},
		{"1 2 4", "3a", "1 2"}, {"2 3 4", "1a", ""}, {"1 2 4", "5a", "1 2 4"}, {"1", "2a", "1"}, {"2", "1a", ""},
		{"1 2 5 6", "4a 7a", "1 2"}, {"1 2 5 6", "4c 3c 7b", "1 2"}, {"1 2 5 6", "7a 4d", "1 2"}, {"1 3 5 7", "8a 6b 4c 2d", "1"},
		{"3 5 7", "8a 6b 4c 9d", "3"}, {"3 5 7", "4d 8b", "3"}, {"1 2 3", "4a 5b 6c 7d", "1 2 3"}, {"6 7 8", "1a 2b 3c 9d", ""},
	} {
		h := copyHub(begin)
		h.Outs = nil
		for _, one := range strings.Fields(x.outs) {
			ticket, _ := strconv.ParseInt(one, 10, 64)
			h.Outs = append(h.Outs, impl.Out{Ticket: ticket, Key: "other", Yes: ticket%2 == 0})
		}
		items := strings.Fields(x.items)
		slices.Sort(items)
		for _, one := range items {
			s := &h.Shards[shardByRule(one[1:], 4)]
			s.Queue = append(s.Queue, impl.Item{Ticket: int64(one[0] - '0'), Key: one[1:], Event: event(0)})
			s.Known = []string{one[1:]}
		}
		wantHub(t, h)
		var got []string
		for _, o := range impl.Ready(h) {
			got = append(got, strconv.FormatInt(o.Ticket, 10))
			if o.Key != "other" || o.Yes != (o.Ticket%2 == 0) {
				t.Errorf("Ready tells %+v", o)
			}
		}
		if strings.Join(got, " ") != x.want {
			t.Errorf("Outs %s, Items %s: Ready tells %s, want %s", x.outs, x.items, got, x.want)
		}
	}
}

// dweller goes on with a house by turns of all sorts, and remembers what was taken, and what was ready.
type dweller struct {
	hub   impl.Hub
	taken []keyed
	ready []impl.Out
}

// take holds what is told on the way to what was told, and to what a right house is.
func (d *dweller) take(t *testing.T, got impl.HubOut) {
	t.Helper()
	if got.Code != impl.OK {
		t.Fatalf("code %d of %.400s", got.Code, hubText(impl.HubOut{Hub: d.hub}))
	}
	d.hub = got.Hub
	if !impl.HubRight(d.hub) {
		t.Fatalf("HubRight: got no: %.400s", hubText(got))
	}
	ready := impl.Ready(d.hub)
	if !begins(d.ready, ready) {
		t.Fatalf("Ready was %.300s, is %.300s", outText(d.ready), outText(ready))
	}
	d.ready = ready
}

// emit has the shard of a full Queue take a turn first. It reckons the time of taking by itself.
func (d *dweller) emit(t *testing.T, key string, e impl.Event) {
	t.Helper()
	many := int64(len(d.hub.Shards))
	place := shardByRule(key, many)
	if len(d.hub.Shards[place].Queue) == impl.MaxQueue {
		d.work(t, place)
	}
	for _, one := range d.taken {
		if shardByRule(one.key, many) == place {
			e.Time = max(e.Time, one.e.Time)
		}
	}
	d.taken = append(d.taken, keyed{key: key, e: e})
	d.take(t, impl.Emit(d.hub, key, e))
}

func (d *dweller) work(t *testing.T, place int64) {
	t.Helper()
	d.take(t, impl.Work(d.hub, place))
}

// some lets any shards that have something take turns.
func (d *dweller) some(t *testing.T, r *rand.Rand, turns int) {
	t.Helper()
	for range turns {
		place := r.Int63n(int64(len(d.hub.Shards)))
		if len(d.hub.Shards[place].Queue) > 0 {
			d.work(t, place)
		}
	}
}

// wantTaken holds all that is told in the end to what each key's own events mean, each at the time of its taking.
func wantTaken(t *testing.T, x tree, taken []keyed, outs []impl.Out) {
	t.Helper()
	own := make(map[string][]impl.Event)
	for _, one := range taken {
		own[one.key] = append(own[one.key], one.e)
	}
	verdicts := make(map[string][]bool)
	for key, l := range own {
		verdicts[key] = x.verdicts(l)
	}
	if len(outs) != len(taken) {
		t.Fatalf("%s: %d Outs of %d events", x.text(), len(outs), len(taken))
	}
	for i, one := range taken {
		want := impl.Out{Ticket: int64(i + 1), Key: one.key, Yes: verdicts[one.key][0]}
		verdicts[one.key] = verdicts[one.key][1:]
		if outs[i] != want {
			t.Fatalf("%s: Out %d is %+v, want %+v", x.text(), i, outs[i], want)
		}
	}
}

// anyComing are events of several keys in any order, many of them at a Time that is over.
func anyComing(r *rand.Rand, keys []string, many int) []keyed {
	var came []keyed
	for _, e := range nearTrace(r, many) {
		e.Time = max(e.Time-[]int64{0, 0, 1, 4, 20}[r.Intn(5)], 0)
		came = append(came, keyed{key: keys[r.Intn(len(keys))], e: e})
	}
	return came
}

// anyKeys are of each shard at most as many as its Table may have.
func anyKeys(r *rand.Rand, shards int64, most int64) []string {
	var keys []string
	for _, own := range keysByShard(shards) {
		own = slices.Clone(own)
		r.Shuffle(len(own), func(i int, j int) { own[i], own[j] = own[j], own[i] })
		keys = append(keys, own[:min(int64(len(own)), most)]...)
	}
	r.Shuffle(len(keys), func(i int, j int) { keys[i], keys[j] = keys[j], keys[i] })
	return keys[:1+r.Intn(len(keys))]
}

// What may be told by now stays at the head of all that is told later, whatever comes, and whoever is worked on.
func TestPromise14ReadyGoesOn(t *testing.T) {
	r := rand.New(rand.NewSource(142))
	for i, x := range rightTrees(120) {
		shards, most := 1+int64(i%impl.MaxShards), []int64{1, 2, 4, impl.MaxKeys}[r.Intn(4)]
		d := &dweller{hub: newHub(t, x.near(r).formula(), shards, most)}
		keys := anyKeys(r, shards, most)
		for _, one := range anyComing(r, keys, 1+r.Intn(40)) {
			d.emit(t, one.key, one.e)
			d.some(t, r, r.Intn(3))
		}
		if shut := wantShut(t, d.hub).Hub; !begins(d.ready, impl.Ready(shut)) || len(impl.Ready(shut)) != len(d.taken) {
			t.Errorf("Ready was %.300s, is in the end %.300s", outText(d.ready), outText(impl.Ready(shut)))
		}
	}
}

// Any turns, refused ones among them, leave the house right, and as the rule has it.
func TestPromise14AnyTurns(t *testing.T) {
	r := rand.New(rand.NewSource(143))
	counts := make(map[int64]int)
	for i, x := range rightTrees(60) {
		shards := 1 + int64(i%impl.MaxShards)
		h := newHub(t, x.near(r).formula(), shards, 1+r.Int63n(3))
		eager := 1 + r.Intn(3)
		for _, e := range nearTrace(r, 50) {
			var got impl.HubOut
			switch pick := r.Intn(40); {
			case pick == 0:
				got = wantFlush(t, h)
			case pick == 1 && r.Intn(4) == 0:
				got = wantShut(t, h)
			case pick < 12/eager:
				got = wantWork(t, h, r.Int63n(shards+1))
			default:
				keys := append(someKeys(), "b", "c", "d", "A")
				e.Time = max(e.Time-r.Int63n(3), 0)
				got = wantEmit(t, h, keys[r.Intn(len(keys))], e)
			}
			counts[got.Code]++
			if got.Code == impl.OK {
				h = got.Hub
			}
		}
	}
	for _, code := range []int64{impl.OK, impl.ErrForm, impl.ErrState, impl.ErrFull, impl.ErrRange, impl.ErrNone} {
		if counts[code] < 20 {
			t.Errorf("code %d came %d times only", code, counts[code])
		}
	}
}

// wrongTurn turns one thing of a house that is right, which then is not.
func wrongTurn(t *testing.T, begin impl.Hub, why string, change func(h *impl.Hub)) {
	t.Helper()
	h := copyHub(begin)
	change(&h)
	if hubByRule(h) {
		t.Fatalf("%s: right by rule", why)
	}
	wantWrongHub(t, why, h)
}

// wrongHubBegin has Outs, Items in three Queues, rows in three Tables; of two shards a c e fall to 0, b d f to 1.
func wrongHubBegin(t *testing.T) impl.Hub {
	t.Helper()
	h := house(t, "(since 0 4 (prev 0 3 p) q)", 2, 3, "a 2 p", "b 3 q", "c 2 q", "d 4 p", "0", "1", "1", "0", "a 7 p", "d 5 q", "e 8", "f 6 p q", "a 8 q")
	wantHub(t, h)
	if got := outText(h.Outs); got != "1a- 2b+ 3c+ 4d-" {
		t.Fatalf("Outs %s", got)
	}
	return h
}

func TestPromise14WrongHouses(t *testing.T) {
	begin := wrongHubBegin(t)
	turn := func(why string, change func(h *impl.Hub)) { t.Helper(); wrongTurn(t, begin, why, change) }
	wantWrongHub(t, "the zero one", impl.Hub{})
	for why, f := range wrongFormulas() {
		turn(why, func(h *impl.Hub) { h.Formula = f })
		wantWrongHub(t, why+", all of it", impl.Hub{Formula: f, Shards: []impl.Shard{{Table: impl.Table{Formula: f, Cap: 1}}}})
	}
	turn("another right formula", func(h *impl.Hub) { h.Formula = formula(t, "(since 0 4 (prev 0 3 p) r)") })
	turn("another bound", func(h *impl.Hub) { h.Formula[len(h.Formula)-1].High++ })
	turn("no shards", func(h *impl.Hub) { h.Shards = nil })
	turn("a shard more", func(h *impl.Hub) {
		h.Shards = append(h.Shards, impl.Shard{Table: impl.Table{Formula: h.Formula, Cap: 1}})
	})
	wrongTurn(t, house(t, "p", 4, 2, "b 3 p", "d 4"), "a shard less", func(h *impl.Hub) { h.Shards = h.Shards[1:] })
	turn("shards in turned order", func(h *impl.Hub) { slices.Reverse(h.Shards) })
	bare := impl.Shard{Table: impl.Table{Formula: begin.Formula, Cap: 1}}
	for _, many := range []int{0, impl.MaxShards + 1, impl.MaxShards + 2, impl.MaxList + 1} {
		wantWrongHub(t, strconv.Itoa(many)+" bare shards", impl.Hub{Formula: begin.Formula, Shards: slices.Repeat([]impl.Shard{bare}, many)})
	}
	for many := 1; many <= impl.MaxShards; many++ {
		wantHub(t, impl.Hub{Formula: begin.Formula, Shards: slices.Repeat([]impl.Shard{bare}, many)})
	}
	for at := range begin.Outs {
		why := " of Out " + strconv.Itoa(at)
		for _, ticket := range []int64{0, -1, begin.Ticket + 1, math.MinInt64, math.MaxInt64, 5} {
			turn("a wrong Ticket"+why, func(h *impl.Hub) { h.Outs[at].Ticket = ticket })
		}
		for _, key := range append(wrongKeys(), strings.Repeat("a", impl.MaxBytes+1)) {
			turn("a wrong Key"+why, func(h *impl.Hub) { h.Outs[at].Key = key })
		}
		h := copyHub(begin)
		h.Outs[at].Yes = !h.Outs[at].Yes
		wantHub(t, h)
		h.Outs[at].Key = "stranger"
		wantHub(t, h)
		if at > 0 {
			turn("two alike"+why, func(h *impl.Hub) { h.Outs[at] = h.Outs[at-1] })
			turn("one Ticket twice"+why, func(h *impl.Hub) { h.Outs[at].Ticket-- })
			turn("out of order"+why, func(h *impl.Hub) { h.Outs[at], h.Outs[at-1] = h.Outs[at-1], h.Outs[at] })
		}
	}
	h := copyHub(begin)
	h.Outs = h.Outs[2:]
	wantHub(t, h)
}

func TestPromise14WrongQueues(t *testing.T) {
	begin := wrongHubBegin(t)
	for place, s := range begin.Shards {
		for at := range s.Queue {
			wantItemWrong(t, begin, place, at)
		}
		other := begin.Shards[1-place].Queue[0]
		wrongTurn(t, begin, "an Item of another shard", func(h *impl.Hub) {
			h.Shards[place].Queue = append(h.Shards[place].Queue, impl.Item{Ticket: h.Ticket, Key: other.Key, Event: event(8)})
			h.Shards[place].Latest = 8
		})
		wrongTurn(t, begin, "a Ticket of another shard's Item", func(h *impl.Hub) { h.Shards[place].Queue[0].Ticket = other.Ticket })
		for _, o := range begin.Outs {
			wrongTurn(t, begin, "a Ticket of an Out", func(h *impl.Hub) { h.Shards[place].Queue[0].Ticket = o.Ticket })
		}
	}
	// Tickets that nobody has any more may be taken by an Out or an Item.
	h := copyHub(begin)
	h.Outs = h.Outs[1:]
	h.Shards[0].Queue[0].Ticket = 1
	wantHub(t, h)
}

func wantItemWrong(t *testing.T, begin impl.Hub, place int, at int) {
	t.Helper()
	why := " of Item " + strconv.Itoa(at) + " in " + strconv.Itoa(place)
	item := func(what string, change func(x *impl.Item)) {
		t.Helper()
		wrongTurn(t, begin, what+why, func(h *impl.Hub) { change(&h.Shards[place].Queue[at]) })
	}
	for _, ticket := range []int64{0, -1, begin.Ticket + 1, math.MinInt64, math.MaxInt64} {
		item("a wrong Ticket", func(x *impl.Item) { x.Ticket = ticket })
	}
	for _, key := range append(wrongKeys(), strings.Repeat("a", impl.MaxBytes+1)) {
		item("a wrong Key", func(x *impl.Item) { x.Key = key })
	}
	for _, key := range []string{"a", "b", "c", "d", "e", "f"} {
		if shardByRule(key, 2) != int64(place) {
			item("a Key of another shard", func(x *impl.Item) { x.Key = key })
		}
	}
	item("a Key that is not known", func(x *impl.Item) { x.Key = keysByShard(2)[place][9] })
	for what, e := range wrongEvents() {
		item(what, func(x *impl.Item) { x.Event = e })
	}
	item("a Time above Latest", func(x *impl.Item) { x.Event.Time = 9 })
	item("the last Time", func(x *impl.Item) { x.Event.Time = impl.MaxTime })
	for _, time := range noTimes() {
		item("no Time", func(x *impl.Item) { x.Event.Time = time })
	}
	if at == 0 {
		return
	}
	queue := func(what string, change func(queue []impl.Item)) {
		t.Helper()
		wrongTurn(t, begin, what+why, func(h *impl.Hub) { change(h.Shards[place].Queue) })
	}
	queue("two alike", func(queue []impl.Item) { queue[at] = queue[at-1] })
	queue("one Ticket twice", func(queue []impl.Item) { queue[at].Ticket = queue[at-1].Ticket })
	queue("Tickets out of order", func(queue []impl.Item) { queue[at].Ticket, queue[at-1].Ticket = queue[at-1].Ticket, queue[at].Ticket })
	item("a Time that falls", func(x *impl.Item) { x.Event.Time = begin.Shards[place].Queue[at-1].Event.Time - 1 })
}

func TestPromise14WrongTables(t *testing.T) {
	begin := wrongHubBegin(t)
	for place := range begin.Shards {
		why := " in " + strconv.Itoa(place)
		table := func(what string, change func(x *impl.Table)) {
			t.Helper()
			wrongTurn(t, begin, what+why, func(h *impl.Hub) { change(&h.Shards[place].Table) })
		}
		table("no Table", func(x *impl.Table) { *x = impl.Table{} })
		table("no Formula", func(x *impl.Table) { x.Formula = nil })
		table("a wrong Formula", func(x *impl.Table) { x.Formula[0].A = 7 })
		table("another Formula", func(x *impl.Table) { *x = impl.TableNew(formula(t, "p"), 3).Table })
		table("another name", func(x *impl.Table) { x.Formula[0].Name = "r" })
		table("another one of all", func(x *impl.Table) {
			*x = filled(t, "(since 0 4 (prev 0 3 p) r)", 3, x.Rows[0].Key+" 2 p", x.Rows[1].Key+" 2 q")
		})
		for _, most := range []int64{0, -1, 1, 2, impl.MaxKeys + 1} {
			// Below 3 it is less than Known.
			table("a wrong Cap", func(x *impl.Table) { x.Cap = most })
		}
		table("rows out of order", func(x *impl.Table) { slices.Reverse(x.Rows) })
		table("rows alike", func(x *impl.Table) { x.Rows[1] = x.Rows[0] })
		table("a row of no event", func(x *impl.Table) { x.Rows[0].Monitor = begun(t, x.Formula) })
		table("a wrong Monitor", func(x *impl.Table) { x.Rows[1].Monitor.Cells[0].Was = true })
		table("a row's key of another shard", func(x *impl.Table) { x.Rows[0].Key = begin.Shards[1-place].Table.Rows[0].Key })
		table("a row of another shard", func(x *impl.Table) {
			other := begin.Shards[1-place].Table.Rows[1]
			x.Rows = append(x.Rows[:1], other)
			slices.SortFunc(x.Rows, func(a impl.Row, b impl.Row) int { return strings.Compare(a.Key, b.Key) })
		})
		table("a row that is not known", func(x *impl.Table) { x.Rows[1].Key = keysByShard(2)[place][12] })
		for _, time := range []int64{9, 77, impl.MaxTime} {
			table("a Now above Latest", func(x *impl.Table) { x.Rows[1].Monitor.Now = time })
		}
		h := copyHub(begin)
		h.Shards[place].Table.Cap = impl.MaxKeys
		wantHub(t, h)
	}
}

func TestPromise14WrongLatest(t *testing.T) {
	begin := wrongHubBegin(t)
	for place, s := range begin.Shards {
		last := s.Queue[len(s.Queue)-1].Event.Time
		for _, time := range append(noTimes(), last-1, 0) {
			wrongTurn(t, begin, "Latest "+strconv.FormatInt(time, 10), func(h *impl.Hub) { h.Shards[place].Latest = time })
		}
		flushed := wantFlush(t, begin).Hub
		for _, time := range append(noTimes(), last-1, 0) {
			wrongTurn(t, flushed, "Latest below a Now", func(h *impl.Hub) { h.Shards[place].Latest = time })
		}
		for _, time := range []int64{last, last + 1, impl.MaxTime - 1, impl.MaxTime} {
			for _, h := range []impl.Hub{copyHub(begin), copyHub(flushed)} {
				h.Shards[place].Latest = time
				wantHub(t, h)
				key := s.Known[0]
				if got := wantEmit(t, h, key, event(0)); got.Hub.Shards[place].Latest != time {
					t.Errorf("behind Latest %d: got %.300s", time, hubText(got))
				}
			}
		}
	}
	empty := house(t, "p", 3, 1)
	for place := range empty.Shards {
		for _, time := range []int64{0, 1, impl.MaxTime} {
			empty.Shards[place].Latest = time
			wantHub(t, empty)
		}
		for _, time := range noTimes() {
			wrongTurn(t, empty, "Latest without anything", func(h *impl.Hub) { h.Shards[place].Latest = time })
		}
	}
}

func TestPromise14WrongKnown(t *testing.T) {
	begin := wrongHubBegin(t)
	for place, s := range begin.Shards {
		why := " in " + strconv.Itoa(place)
		own := keysByShard(2)[place]
		known := func(what string, keys ...string) {
			t.Helper()
			wrongTurn(t, begin, what+why, func(h *impl.Hub) { h.Shards[place].Known = keys })
		}
		roomy := func(what string, keys ...string) {
			t.Helper()
			wrongTurn(t, begin, what+why, func(h *impl.Hub) { h.Shards[place].Known, h.Shards[place].Table.Cap = keys, impl.MaxKeys })
		}
		a, b, c := s.Known[0], s.Known[1], s.Known[2]
		known("none")
		known("without a key of the Table and of the Queue", b, c)
		known("without a key of the Table", a, c)
		known("without a Key of the Queue", a, b)
		known("out of order", b, a, c)
		known("the other way round", c, b, a)
		known("more than Cap", append([]string{a, b, c}, own[15])...)
		roomy("two alike", a, a, b, c)
		roomy("two alike at the end", a, b, c, c)
		roomy("a key of another shard", append([]string{a, b, c}, keysByShard(2)[1-place][12])...)
		for _, key := range append(wrongKeys(), strings.Repeat("z", impl.MaxBytes+1)) {
			roomy("a wrong key behind", a, b, c, key)
			roomy("a wrong key ahead", key, a, b, c)
		}
		if len(own) < impl.MaxKeys+1 {
			t.Fatalf("too few keys: %q", own)
		}
		roomy("more than MaxKeys", own[:impl.MaxKeys+1]...)
		h := copyHub(begin)
		h.Shards[place].Known, h.Shards[place].Table.Cap = own[:impl.MaxKeys], impl.MaxKeys
		wantHub(t, h)
	}
}

// Of several faults the first one is named: what is too long, what is not right, shut, full, then no room for a key.
func TestPromise14WhichFaultIsNamed(t *testing.T) {
	long := strings.Repeat("a", impl.MaxBytes+1)
	some := house(t, "p", 1, 2, "a 5 p", "b 6")
	known := house(t, "p", 1, 1, "a 5 p")
	full := gone(t, known, slices.Repeat([]string{"a 6"}, impl.MaxQueue-1)...)
	many := stocked(t, 1, impl.MaxOuts)
	many.Shards[0].Known = []string{"a", "b", "c"}
	shut := func(h impl.Hub) impl.Hub { h.Shut = true; return h }
	last := func(h impl.Hub) impl.Hub { h.Ticket = impl.MaxTime; return h }
	wrong := func(h impl.Hub) impl.Hub { h = copyHub(h); h.Shards[0].Latest = -1; return h }
	rows := []struct {
		why  string
		h    impl.Hub
		key  string
		e    impl.Event
		code int64
	}{
		{"all wrong, too long a key", wrong(shut(last(full))), long, event(-1), impl.ErrSize},
		{"too long a key, no event", some, long, event(-1), impl.ErrSize},
		{"too long a key, shut", shut(some), long, event(9), impl.ErrSize},
		{"too long a key, full", full, long, event(9), impl.ErrSize},
		{"too long a key, the last ticket", last(some), long, event(9), impl.ErrSize},
		{"too long a key alone", some, long, event(9), impl.ErrSize},
		{"a wrong house and key", wrong(some), "A", event(9), impl.ErrForm},
		{"a wrong house and event", wrong(some), "a", event(-1), impl.ErrForm},
		{"a wrong house, shut", wrong(shut(some)), "a", event(9), impl.ErrForm},
		{"a wrong house, full", wrong(full), "a", event(9), impl.ErrForm},
		{"a wrong house, a new key", wrong(known), "b", event(9), impl.ErrForm},
		{"a wrong house alone", wrong(some), "a", event(9), impl.ErrForm},
		{"a wrong key, shut", shut(some), "A", event(9), impl.ErrForm},
		{"a wrong key, full", full, "A", event(9), impl.ErrForm},
		{"a wrong key, many Outs", many, "A", event(9), impl.ErrForm},
		{"a wrong key, no room", known, "A", event(9), impl.ErrForm},
		{"a wrong event, shut", shut(some), "a", event(-1), impl.ErrForm},
		{"a wrong event, full", full, "a", event(9, "q", "p"), impl.ErrForm},
		{"a wrong event, a new key", known, "b", event(impl.MaxTime + 1), impl.ErrForm},
		{"the last ticket, shut", last(shut(some)), "a", event(9), impl.ErrForm},
		{"the last ticket, full", last(full), "a", event(9), impl.ErrForm},
		{"the last ticket, many Outs", last(many), "a", event(9), impl.ErrForm},
		{"the last ticket, a new key", last(known), "b", event(9), impl.ErrForm},
		{"the last ticket alone", last(some), "a", event(9), impl.ErrForm},
		{"shut, full", shut(full), "a", event(9), impl.ErrState},
		{"shut, full, a new key", shut(full), "b", event(9), impl.ErrState},
		{"shut, many Outs", shut(many), "a", event(9), impl.ErrState},
		{"shut, a new key", shut(known), "b", event(9), impl.ErrState},
		{"shut alone", shut(some), "a", event(9), impl.ErrState},
		{"full, a new key", full, "b", event(9), impl.ErrFull},
		{"full alone", full, "a", event(9), impl.ErrFull},
		{"many Outs, a new key", many, "d", event(9), impl.ErrFull},
		{"many Outs", many, "a", event(9), impl.ErrFull},
		{"a new key", known, "b", event(9), impl.ErrRange},
		{"a known key", known, "a", event(0), impl.OK},
	}
	for _, x := range rows {
		got := impl.Emit(x.h, x.key, x.e)
		if got.Code != x.code || !sameHubOut(got, emitByRule(x.h, x.key, x.e)) {
			t.Errorf("%s: got %.300s, want code %d", x.why, hubText(got), x.code)
		}
	}
	wantHubCode(t, "a wrong house, no shard", impl.Work(wrong(some), 7), impl.ErrForm)
	wantHubCode(t, "a wrong house, an empty Queue", impl.Work(wrong(house(t, "p", 1, 1)), 0), impl.ErrForm)
	wantHubCode(t, "a wrong house, shut already", impl.Shut(wrong(shut(some))), impl.ErrForm)
	manyNodes := make([]impl.Node, impl.MaxList+1)
	wantHubCode(t, "too long a formula, no shards", impl.HubNew(manyNodes, 0, 1), impl.ErrSize)
	wantHubCode(t, "too long a formula, no Cap", impl.HubNew(manyNodes, 1, 0), impl.ErrSize)
	wantHubCode(t, "a wrong formula, no shards", impl.HubNew(manyNodes[1:], 5, 1), impl.ErrForm)
	wantHubCode(t, "no shards, no Cap", impl.HubNew(some.Formula, 0, 13), impl.ErrForm)
}

// anyHub is right, and need not have begun anywhere.
func anyHub(r *rand.Rand, f []impl.Node) impl.Hub {
	h := impl.Hub{Formula: f, Ticket: r.Int63n(60), Shut: r.Intn(6) == 0, Shards: make([]impl.Shard, 1+r.Intn(impl.MaxShards))}
	keys := keysByShard(int64(len(h.Shards)))
	for place := range h.Shards {
		h.Shards[place] = anyShard(r, f, keys[place])
	}
	for ticket := int64(1); ticket <= h.Ticket; ticket++ {
		s := &h.Shards[r.Intn(len(h.Shards))]
		switch r.Intn(4) {
		case 0, 1:
			h.Outs = append(h.Outs, impl.Out{Ticket: ticket, Key: someKeys()[r.Intn(impl.MaxKeys)], Yes: r.Intn(2) == 0})
		case 2:
			if len(s.Queue) == impl.MaxQueue || len(s.Known) == 0 {
				continue
			}
			e := nearTrace(r, 1)[0]
			for _, item := range s.Queue {
				e.Time = max(e.Time, item.Event.Time)
			}
			s.Queue = append(s.Queue, impl.Item{Ticket: ticket, Key: s.Known[r.Intn(len(s.Known))], Event: e})
			s.Latest = max(s.Latest, e.Time)
		}
	}
	return h
}

func anyShard(r *rand.Rand, f []impl.Node, keys []string) impl.Shard {
	s := impl.Shard{Table: impl.Table{Formula: slices.Clone(f), Cap: 1 + r.Int63n(impl.MaxKeys)}, Latest: []int64{0, 0, 9, 41}[r.Intn(4)]}
	for _, key := range keys {
		if r.Intn(3) == 0 || int64(len(s.Known)) == s.Table.Cap {
			continue
		}
		s.Known = append(s.Known, key)
		if r.Intn(2) == 0 {
			continue
		}
		m := anyMonitor(r, slices.Clone(f))
		m.Count = max(m.Count, 1)
		if r.Intn(9) == 0 {
			m.Count = impl.MaxTime
		}
		s.Table.Rows = append(s.Table.Rows, impl.Row{Key: key, Monitor: m})
		s.Latest = max(s.Latest, m.Now)
	}
	return s
}

// turnedHub has one thing a little otherwise.
func turnedHub(r *rand.Rand, h impl.Hub) impl.Hub {
	h = copyHub(h)
	step := int64(r.Intn(3) - 1)
	place := r.Intn(len(h.Shards))
	s := &h.Shards[place]
	keys := append(append(wrongKeys(), someKeys()...), "b", "c", "d", "e", "f")
	key := keys[r.Intn(len(keys))]
	switch r.Intn(12) {
	case 0:
		h.Ticket += []int64{-50, -3, -1, 0, 1, impl.MaxTime, math.MinInt64}[r.Intn(7)]
	case 1:
		h.Shards = h.Shards[:max(len(h.Shards)+int(step), 0)%(len(h.Shards)+1)]
	case 2:
		s.Latest += []int64{-9, -1, 0, 1, 3}[r.Intn(5)]
	case 3:
		s.Known = append(s.Known, key)
	case 4:
		s.Known = s.Known[:max(len(s.Known)-1, 0)]
	case 5:
		s.Table = turnedTable(r, s.Table)
	case 6:
		s.Table.Cap += step
	case 7:
		h.Formula = turnedRow(r, h.Formula)
	case 8:
		h.Shut = !h.Shut
	case 9, 10:
		turnedItems(r, s, step, key)
	default:
		turnedOuts(r, h.Outs, step, key)
	}
	return h
}

func turnedItems(r *rand.Rand, s *impl.Shard, step int64, key string) {
	if len(s.Queue) == 0 {
		return
	}
	item := &s.Queue[r.Intn(len(s.Queue))]
	switch r.Intn(5) {
	case 0:
		item.Ticket += step
	case 1:
		item.Key = key
	case 2:
		item.Event.Time += step
	case 3:
		item.Event.Names = append(item.Event.Names, key)
	default:
		s.Queue = append(s.Queue, *item)
	}
}

func turnedOuts(r *rand.Rand, outs []impl.Out, step int64, key string) {
	if len(outs) == 0 {
		return
	}
	o := &outs[r.Intn(len(outs))]
	switch r.Intn(3) {
	case 0:
		o.Ticket += step
	case 1:
		o.Key = key
	default:
		o.Yes = !o.Yes
	}
}

func TestPromise14AnyRightHouseStaysRight(t *testing.T) {
	r := rand.New(rand.NewSource(144))
	for _, x := range rightTrees(150) {
		h := anyHub(r, x.near(r).formula())
		wantHub(t, h)
		wantFlush(t, h)
		wantShut(t, h)
		for range 8 {
			var got impl.HubOut
			shards := int64(len(h.Shards))
			if r.Intn(2) == 0 {
				got = wantWork(t, h, r.Int63n(shards))
			} else {
				keys := append(slices.Concat(keysByShard(shards)...), "A")
				e := nearTrace(r, 1)[0]
				e.Time = []int64{e.Time, 0, 6, 40, 2500, impl.MaxTime}[r.Intn(6)]
				got = wantEmit(t, h, keys[r.Intn(len(keys))], e)
			}
			if got.Code == impl.OK {
				h = got.Hub
			}
		}
	}
}

func TestPromise14RightByRule(t *testing.T) {
	r := rand.New(rand.NewSource(145))
	rights, wrongs := 0, 0
	for _, x := range rightTrees(120) {
		begin := anyHub(r, x.near(r).formula())
		for range 20 {
			h := turnedHub(r, begin)
			if r.Intn(3) == 0 && len(h.Shards) > 0 && len(h.Formula) > 0 && !slices.ContainsFunc(h.Shards, func(s impl.Shard) bool { return !monitorsWhole(s.Table) }) {
				h = turnedHub(r, h)
			}
			if !hubByRule(h) {
				wantWrongHub(t, "by rule", h)
				wrongs++
				continue
			}
			wantHub(t, h)
			wantEmit(t, h, someKeys()[r.Intn(impl.MaxKeys)], event(impl.MaxTime, "p"))
			wantWork(t, h, r.Int63n(impl.MaxShards))
			rights++
		}
	}
	if rights < 500 || wrongs < 500 {
		t.Errorf("%d right, %d wrong: too few", rights, wrongs)
	}
}

// roomyHub has room behind each of its lists, the empty ones too, with something written into it.
func roomyHub(h impl.Hub) impl.Hub {
	h = copyHub(h)
	many := len(h.Shards)
	for i, s := range h.Shards {
		items, known := len(s.Queue), len(s.Known)
		for at, item := range s.Queue {
			names := append(copyTexts(item.Event.Names), "room", "room")[:len(item.Event.Names)]
			s.Queue[at] = impl.Item{Ticket: item.Ticket, Key: strings.Clone(item.Key), Event: impl.Event{Time: item.Event.Time, Names: names}}
		}
		s.Queue = append(s.Queue, impl.Item{Key: "room"}, impl.Item{Key: "room"})[:items]
		s.Known = append(copyTexts(s.Known), "room", "room")[:known]
		s.Table = roomyTable(s.Table)
		h.Shards[i] = s
	}
	for i, o := range h.Outs {
		h.Outs[i].Key = strings.Clone(o.Key)
	}
	h.Outs = append(h.Outs, impl.Out{Key: "room"}, impl.Out{Key: "room"})[:len(h.Outs)]
	h.Shards = append(h.Shards, impl.Shard{Latest: 77}, impl.Shard{Latest: 78})[:many]
	h.Formula = append(h.Formula, impl.Node{Kind: 77})[:len(h.Formula)]
	return h
}

func copyTexts(texts []string) []string {
	var own []string
	for _, text := range texts {
		own = append(own, strings.Clone(text))
	}
	return own
}

// wholeHub is h with all room behind its lists shown.
func wholeHub(h impl.Hub) impl.Hub {
	many := len(h.Shards)
	h.Formula, h.Outs, h.Shards = h.Formula[:cap(h.Formula)], h.Outs[:cap(h.Outs)], slices.Clone(h.Shards[:cap(h.Shards)])
	for i, s := range h.Shards[:many] {
		items := len(s.Queue)
		s.Queue, s.Known, s.Table = slices.Clone(s.Queue[:cap(s.Queue)]), s.Known[:cap(s.Known)], wholeTable(s.Table)
		for at, item := range s.Queue[:items] {
			s.Queue[at].Event.Names = item.Event.Names[:cap(item.Event.Names)]
		}
		h.Shards[i] = s
	}
	return h
}

func turnedTexts(texts []string) {
	texts = texts[:cap(texts)]
	for i := range texts {
		texts[i] = "turned"
	}
}

// hubWriters write into one list each, of all that a house has, the inner ones first.
func hubWriters(h impl.Hub) []func(h impl.Hub) {
	var all []func(h impl.Hub)
	for i, s := range h.Shards {
		for at := range s.Queue {
			all = append(all, func(h impl.Hub) { turnedTexts(h.Shards[i].Queue[at].Event.Names) })
		}
		for _, write := range tableWriters(s.Table) {
			all = append(all, func(h impl.Hub) { write(h.Shards[i].Table) })
		}
		all = append(all, func(h impl.Hub) { turnedTexts(h.Shards[i].Known) }, func(h impl.Hub) {
			queue := h.Shards[i].Queue[:cap(h.Shards[i].Queue)]
			for at := range queue {
				queue[at] = impl.Item{Key: "turned"}
			}
		})
	}
	all = append(all, func(h impl.Hub) { turnedNodes(h.Formula) }, func(h impl.Hub) { turnedOutList(h.Outs) })
	return append(all, func(h impl.Hub) {
		shards := h.Shards[:cap(h.Shards)]
		for i := range shards {
			shards[i] = impl.Shard{Latest: -77}
		}
	})
}

func turnedOutList(outs []impl.Out) {
	outs = outs[:cap(outs)]
	for i := range outs {
		outs[i] = impl.Out{Ticket: -77, Key: "turned"}
	}
}

// textsOfHub are all texts that a house has, list by list.
func textsOfHub(h impl.Hub) [][]string {
	var outs, nodes []string
	for _, o := range h.Outs {
		outs = append(outs, o.Key)
	}
	for _, node := range h.Formula {
		nodes = append(nodes, node.Name)
	}
	all := [][]string{outs, nodes}
	for _, s := range h.Shards {
		var keys []string
		for _, item := range s.Queue {
			keys = append(keys, item.Key)
			all = append(all, item.Event.Names)
		}
		all = append(all, keys, s.Known, textsOf(s.Table))
	}
	return all
}

// wantOwnHub asks twice, and writes into each list of one answer, then into what was handed in.
func wantOwnHub(t *testing.T, what string, h impl.Hub, call func(h impl.Hub) impl.HubOut) {
	t.Helper()
	h = roomyHub(h)
	kept := copyHub(wholeHub(h))
	first, second := call(h), call(h)
	told := copyHubOut(second)
	if !sameHubOut(first, second) {
		t.Errorf("%s: two answers of one call: %.300s and %.300s", what, hubText(first), hubText(second))
	}
	if !sameHub(wholeHub(h), kept) {
		t.Errorf("%s: what was handed in was turned", what)
	}
	lists := textsOfHub(first.Hub)
	wantTextsApart(t, what, slices.Concat(lists...), slices.Concat(append(textsOfHub(h), textsOfHub(second.Hub)...)...))
	for i, one := range lists {
		wantTextsApart(t, what+", within", one, slices.Concat(lists[i+1:]...))
	}
	for i, write := range hubWriters(first.Hub) {
		// In the copy no two lists share any: where they do, the answer comes out otherwise.
		apart := copyHubOut(first)
		write(first.Hub)
		write(apart.Hub)
		if !sameHubOut(first, apart) {
			t.Errorf("%s: written into list %d, another list of the answer was turned", what, i)
		}
		if !sameHub(wholeHub(h), kept) {
			t.Errorf("%s: written into list %d of the answer, what was handed in was turned", what, i)
		}
		if !sameHubOut(second, told) {
			t.Errorf("%s: written into list %d of one answer, another one was turned", what, i)
		}
	}
	for i, write := range hubWriters(h) {
		write(h)
		if !sameHubOut(second, told) {
			t.Errorf("%s: written into list %d of what was handed in, the answer was turned", what, i)
		}
	}
}

func TestPromise14MemoryOfHouses(t *testing.T) {
	text := "(and (since 0 9 (prev 0 * pq) (once 0 9 pq)) (hist 0 * (or (once 1 9 pq) (not (hist 0 9 rst)))))"
	turns := []string{"aa 1 pq rst", "bb 1 pq", "cc 2 rst", "dd 3", "0", "1", "0", "aa 4 pq rst", "cc 5 pq", "bb 6 rst", "ff 7 pq rst", "aa 7"}
	begins := map[string]impl.Hub{"without anything": house(t, text, 3, 2), "two shards": wrongHubBegin(t)}
	h := newHub(t, formula(t, text), 2, 5)
	for _, turn := range turns {
		if shard, err := strconv.ParseInt(turn, 10, 64); err == nil && len(h.Shards[shard].Queue) == 0 {
			continue
		}
		h = gone(t, h, turn)
	}
	begins["some"] = h
	begins["done"] = wantFlush(t, h).Hub
	begins["shut"] = wantShut(t, h).Hub
	wrong := copyHub(h)
	wrong.Shards[1].Latest = -1
	begins["wrong"] = wrong
	for what, begin := range begins {
		for _, key := range []string{"aa", "bb", "zz", "gg", "A"} {
			for when, e := range map[string]impl.Event{"at once": event(9, "pq", "rst"), "over": event(0, "pq"), "no names": event(8), "no event": event(-1)} {
				wantOwnHub(t, "Emit, "+what+" of "+key+" "+when, begin, func(h impl.Hub) impl.HubOut { return impl.Emit(h, key, e) })
			}
		}
		for shard := range int64(3) {
			wantOwnHub(t, "Work, "+what, begin, func(h impl.Hub) impl.HubOut { return impl.Work(h, shard) })
		}
		wantOwnHub(t, "Flush, "+what, begin, impl.Flush)
		wantOwnHub(t, "Shut, "+what, begin, impl.Shut)
		wantOwnHub(t, "HubNew, "+what, begin, func(h impl.Hub) impl.HubOut { return impl.HubNew(h.Formula, 3, 4) })
		wantOwnHub(t, "HubRight, "+what, begin, func(h impl.Hub) impl.HubOut { impl.HubRight(h); return impl.HubOut{} })
		wantOwnHub(t, "Ready, "+what, begin, func(h impl.Hub) impl.HubOut { return impl.HubOut{Hub: impl.Hub{Outs: impl.Ready(h)}} })
	}
}

func TestPromise14MemoryOfKeysAndEvents(t *testing.T) {
	h := house(t, "(once 0 3 pq)", 2, 3, "bb 2 pq")
	key, room := strings.Clone("cc"), copyTexts([]string{"pq", "rst", "zz"})
	e := event(4, room[:2]...)
	got := impl.Emit(h, key, e)
	told := copyHubOut(got)
	wantTextsApart(t, "Emit", slices.Concat(textsOfHub(got.Hub)...), append(room, key))
	if !slices.Equal(room, []string{"pq", "rst", "zz"}) {
		t.Errorf("the event was turned: %q", room)
	}
	turnedTexts(room)
	if !sameHubOut(got, told) {
		t.Errorf("written into the event, the answer was turned")
	}
	place := shardByRule("cc", 2)
	queue := got.Hub.Shards[place].Queue
	turnedTexts(queue[len(queue)-1].Event.Names)
	if !slices.Equal(room, []string{"turned", "turned", "turned"}) || key != "cc" {
		t.Errorf("written into the answer, the event was turned")
	}
}

// Two ways that go on from one house do not come upon each other.
func TestPromise14TwoWaysFromOneHouse(t *testing.T) {
	r := rand.New(rand.NewSource(146))
	for _, text := range nestedTexts() {
		begin := house(t, text, 3, 4, "a 1 p", "c 2 q", "a 3 p q", "1", "b 0 p r")
		kept := copyHub(begin)
		one, other := begin, begin
		oneByRule, otherByRule := copyHub(begin), copyHub(begin)
		for i := range int64(7) {
			key := []string{"a", "b", "c", "d"}[r.Intn(4)]
			e := nearTrace(r, 1)[0]
			e.Time = 2 + i
			one, oneByRule = impl.Emit(one, key, e).Hub, emitByRule(oneByRule, key, e).Hub
			e.Names = nil
			other, otherByRule = impl.Emit(other, key, e).Hub, emitByRule(otherByRule, key, e).Hub
			place := shardByRule(key, 3)
			if i%2 == 0 {
				one, oneByRule = impl.Work(one, place).Hub, workByRule(oneByRule, place).Hub
			} else {
				other, otherByRule = impl.Work(other, place).Hub, workByRule(otherByRule, place).Hub
			}
		}
		if !sameHub(one, oneByRule) || !sameHub(other, otherByRule) || !sameHub(begin, kept) {
			t.Errorf("%s: two ways from one house came upon each other", text)
		}
	}
}

// Calls of other houses in between, many at once, turn nothing: the same call tells the same.
func TestPromise14NothingIsKept(t *testing.T) {
	h := house(t, "(since 0 9 p q)", 4, impl.MaxKeys, "c 1 q", "a 2 p q", "b 0", "d 3 q", "c 2 p", "1")
	emitted, flushed := impl.Emit(h, "e", event(5, "q")), impl.Flush(h)
	done := make(chan string)
	for worker := range 8 {
		go func() {
			for i := range 40 {
				impl.Emit(h, someKeys()[i%impl.MaxKeys], event(int64(5+i+worker), "p"))
				impl.Work(emitted.Hub, int64(i%4))
				if got := impl.Emit(h, "e", event(5, "q")); !sameHubOut(got, emitted) {
					done <- "Emit: " + hubText(got)
					return
				}
				if got := impl.Flush(h); !sameHubOut(got, flushed) {
					done <- "Flush: " + hubText(got)
					return
				}
			}
			done <- ""
		}()
	}
	for range 8 {
		if why := <-done; why != "" {
			t.Errorf("the same call tells otherwise: %.400s", why)
		}
	}
}

// rowsOfTurns are all orders in which shards can take that many turns each.
func rowsOfTurns(left []int) [][]int64 {
	var all [][]int64
	for place, many := range left {
		if many == 0 {
			continue
		}
		less := slices.Clone(left)
		less[place]--
		for _, row := range rowsOfTurns(less) {
			all = append(all, append([]int64{int64(place)}, row...))
		}
	}
	if all == nil {
		return [][]int64{nil}
	}
	return all
}

func TestPromise15EachOrderOfTurns(t *testing.T) {
	for _, text := range []string{"(once 0 3 p)", "(prev 0 * q)", "(since 0 4 (not p) (prev 1 3 q))", "(hist 0 2 (or p q))"} {
		x := treeOfText(t, text)
		for many, came := range map[int64][]keyed{
			2: keyedOf(t, "a 3 p", "b 5 q", "c 2 q", "a 4", "d 1 p", "b 7 p q", "a 6 q", "b 6"),
			3: keyedOf(t, "a 3 p", "g 5 q", "c 2 q", "b 4", "g 1 p", "c 7 p q", "a 2 q"),
			4: keyedOf(t, "a 3 p", "b 5 q", "c 2 q", "d 4", "d 1 p", "b 7 p q", "a 2 q"),
		} {
			d := &dweller{hub: newHub(t, x.formula(), many, 2)}
			for _, one := range came {
				d.emit(t, one.key, one.e)
			}
			var left []int
			for _, s := range d.hub.Shards {
				left = append(left, len(s.Queue))
			}
			end := wantFlush(t, d.hub).Hub
			wantTaken(t, x, d.taken, end.Outs)
			rows := rowsOfTurns(left)
			if len(rows) < 20 {
				t.Fatalf("%d orders of turns only", len(rows))
			}
			for _, row := range rows {
				h := d.hub
				for _, place := range row {
					h = impl.Work(h, place).Hub
				}
				if !sameHub(h, end) {
					t.Fatalf("%s, turns %v: got %.300s, want %.300s", text, row, outText(h.Outs), outText(end.Outs))
				}
			}
		}
	}
}

// Turns may stand between what comes: the house is the same in the end, and each key is told what its own events mean.
func TestPromise15WheneverTurnsAreTaken(t *testing.T) {
	r := rand.New(rand.NewSource(151))
	for i, x := range rightTrees(160) {
		if i%3 > 0 {
			x = x.near(r)
		}
		shards, most := 1+int64(i%impl.MaxShards), []int64{1, 2, 4, impl.MaxKeys}[r.Intn(4)]
		begin := newHub(t, x.formula(), shards, most)
		came := anyComing(r, anyKeys(r, shards, most), 1+r.Intn(30))
		var end impl.Hub
		for way := range 4 {
			d := &dweller{hub: begin}
			for _, one := range came {
				d.emit(t, one.key, one.e)
				d.some(t, r, []int{0, 9, r.Intn(2), r.Intn(6)}[way])
			}
			d.some(t, r, r.Intn(9))
			done := wantFlush(t, d.hub).Hub
			wantTaken(t, x, d.taken, done.Outs)
			if way > 0 && !sameHub(done, end) {
				t.Fatalf("%s: in other turns %.300s, not %.300s", x.text(), outText(done.Outs), outText(end.Outs))
			}
			end = done
		}
	}
}

func TestPromise15EachKind(t *testing.T) {
	came := keyedOf(t, "a 0 q", "b 5 p", "a 2 p", "b 4 q", "a 9", "b 6 p q")
	// Of two shards each key has one for itself: of b the second is taken at 5.
	kinds := map[string]string{
		"true": "++++++", "p": "-++--+", "(not p)": "+--++-", "(and p q)": "-----+", "(or p q)": "++++-+",
		"(prev 0 * p)": "---++-", "(prev 0 3 p)": "---+--", "(prev 0 0 p)": "---+--", "(once 0 3 q)": "+-++-+", "(once 1 * p)": "----++",
		"(hist 0 * p)": "-+----", "(hist 7 * p)": "++++-+", "(since 0 * p q)": "+-++-+", "(since 1 * p q)": "--+--+",
	}
	for text, want := range kinds {
		x := treeOfText(t, text)
		d := &dweller{hub: newHub(t, x.formula(), 2, 1)}
		for _, one := range came {
			d.emit(t, one.key, one.e)
		}
		end := wantShut(t, d.hub).Hub
		wantTaken(t, x, d.taken, end.Outs)
		var got []bool
		for _, o := range end.Outs {
			got = append(got, o.Yes)
		}
		if signs(got) != want {
			t.Errorf("%s: got %s, want %s", text, signs(got), want)
		}
	}
}

// An event that is over for its shard means what it means at the time at which it was taken, by whatever key that was latest.
func TestPromise15TimesOfTaking(t *testing.T) {
	for _, x := range []struct {
		text string
		came []string
		want map[int64]string
	}{
		// Of one shard b moves on the time for a; of two a and b are apart.
		{"(once 0 3 p)", []string{"a 0 p", "b 9", "a 1"}, map[int64]string{1: "1a+ 2b- 3a-", 2: "1a+ 2b- 3a+"}},
		{"(once 1 * p)", []string{"a 5 p", "a 3 p"}, map[int64]string{1: "1a- 2a-", 2: "1a- 2a-"}},
		{"(prev 1 * p)", []string{"a 5 p", "b 6", "a 5"}, map[int64]string{1: "1a- 2b- 3a+", 2: "1a- 2b- 3a-"}},
		{"(prev 0 0 p)", []string{"a 5 p", "a 0"}, map[int64]string{1: "1a- 2a+", 4: "1a- 2a+"}},
		{"(hist 4 * p)", []string{"a 2", "b 7", "a 3"}, map[int64]string{1: "1a+ 2b+ 3a-", 2: "1a+ 2b+ 3a+"}},
		{"(since 0 2 true p)", []string{"d 1000000", "b 0 p", "d 999999"}, map[int64]string{1: "1d- 2b+ 3d-", 3: "1d- 2b+ 3d-", 4: "1d- 2b+ 3d-"}},
	} {
		for many, want := range x.want {
			d := &dweller{hub: newHub(t, formula(t, x.text), many, 3)}
			for _, one := range keyedOf(t, x.came...) {
				d.emit(t, one.key, one.e)
			}
			end := wantFlush(t, d.hub).Hub
			wantTaken(t, treeOfText(t, x.text), d.taken, end.Outs)
			if got := outText(end.Outs); got != want {
				t.Errorf("%s of %d shards: got %s, want %s", x.text, many, got, want)
			}
		}
	}
}

// As many events as there may be, of tables of one key, of a few and of MaxKeys.
func TestPromise15LongRuns(t *testing.T) {
	r := rand.New(rand.NewSource(152))
	for i, text := range nestedTexts() {
		x := treeOfText(t, text)
		shards, most := 1+int64(i%impl.MaxShards), []int64{1, 3, impl.MaxKeys}[i%3]
		keys := anyKeys(r, shards, most)
		came := append(anyComing(r, keys, impl.MaxOuts/2), anyComing(r, keys, impl.MaxOuts/2)...)
		var end impl.Hub
		for way := range 2 {
			d := &dweller{hub: newHub(t, x.formula(), shards, most)}
			for _, one := range came {
				d.emit(t, one.key, one.e)
				d.some(t, r, way*r.Intn(4))
			}
			done := wantShut(t, d.hub).Hub
			wantTaken(t, x, d.taken, done.Outs)
			if way > 0 && !sameHub(done, end) {
				t.Errorf("%s: in other turns another house", text)
			}
			end = done
		}
	}
}

func TestPromise15ManyNodes(t *testing.T) {
	r := rand.New(rand.NewSource(153))
	for _, many := range []int{1, 2, impl.MaxNodes - 1, impl.MaxNodes} {
		x, ok := treeOf(nots(many), many-1)
		if !ok {
			t.Fatalf("no tree of %d nodes", many)
		}
		d := &dweller{hub: newHub(t, x.formula(), 4, impl.MaxKeys)}
		for _, one := range anyComing(r, someKeys(), 20) {
			d.emit(t, one.key, one.e)
			d.some(t, r, 2)
		}
		wantTaken(t, x, d.taken, wantFlush(t, d.hub).Hub.Outs)
	}
	for _, kind := range []int64{impl.FmPrev, impl.FmOnce, impl.FmHist, impl.FmSince} {
		h := newHub(t, piled(kind, 0, impl.MaxBound), 2, 3)
		for time := range int64(4) {
			for _, key := range []string{"a", "b", "c"} {
				h = wantEmit(t, h, key, event(time*time, "p")).Hub
			}
		}
		turned := wantWork(t, wantWork(t, h, 1).Hub, 0).Hub
		if a, b := wantFlush(t, h).Hub, wantFlush(t, turned).Hub; !sameHub(a, b) {
			t.Errorf("kind %d: in other turns another house", kind)
		}
	}
}
