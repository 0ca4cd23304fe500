package tests

import (
	"math"
	"math/rand"
	"slices"
	"testing"

	"loop.example/g00759/impl"
)

// lane is a ring by its places: which ones are claimed, and what was filled there; it knows nothing of cups.
type lane struct {
	size  int64
	head  int64
	tail  int64
	items map[int64]int64
}

func ringSizes() []int64 {
	return []int64{1, 2, 4, 8, 16}
}

// ring writes each cup from the place that stands in it now.
func (l lane) ring() impl.Ring {
	cups := make([]impl.Cup, l.size)
	for pos := l.head; pos < l.head+l.size; pos++ {
		cup := impl.Cup{Seq: pos}
		if item, filled := l.items[pos]; filled {
			cup = impl.Cup{Seq: pos + 1, Item: item}
		}
		cups[pos%l.size] = cup
	}
	return impl.Ring{Cap: l.size, Head: l.head, Tail: l.tail, Cups: cups}
}

func (l lane) ready() []int64 {
	var items []int64
	for pos := l.head; l.items[pos] > 0; pos++ {
		items = append(items, l.items[pos])
	}
	return items
}

func (l lane) open() []int64 {
	var open []int64
	for pos := l.head; pos < l.tail; pos++ {
		if l.items[pos] == 0 {
			open = append(open, pos)
		}
	}
	return open
}

// laneOf goes by the chapter's words, cup by cup; of a ring that is not right there is no lane.
func laneOf(r impl.Ring) (lane, bool) {
	l := lane{size: r.Cap, head: r.Head, tail: r.Tail, items: make(map[int64]int64)}
	if !slices.Contains(ringSizes(), r.Cap) || int64(len(r.Cups)) != r.Cap {
		return lane{}, false
	}
	if r.Head < 0 || r.Head > 1000000 || r.Tail < 0 || r.Tail > 1000000 || r.Tail < r.Head || r.Tail-r.Head > r.Cap {
		return lane{}, false
	}
	for i, cup := range r.Cups {
		pos := r.Head
		for pos%r.Cap != int64(i) {
			pos++
		}
		switch {
		case cup.Seq == pos && cup.Item == 0:
		case cup.Seq == pos+1 && cup.Item >= 1 && cup.Item <= 1000000 && pos < r.Tail:
			l.items[pos] = cup.Item
		default:
			return lane{}, false
		}
	}
	return l, true
}

func claimByRule(r impl.Ring) impl.RingOut {
	l, right := laneOf(r)
	if !right {
		return impl.RingOut{Code: impl.ErrForm}
	}
	if l.tail == l.head+l.size || l.tail == 1000000 {
		return impl.RingOut{Code: impl.ErrFull}
	}
	l.tail++
	return impl.RingOut{Ring: l.ring(), Pos: l.tail - 1}
}

func fillByRule(r impl.Ring, pos int64, item int64) impl.RingOut {
	l, right := laneOf(r)
	if !right || item < 1 || item > 1000000 {
		return impl.RingOut{Code: impl.ErrForm}
	}
	if pos < l.head || pos >= l.tail {
		return impl.RingOut{Code: impl.ErrNone}
	}
	if l.items[pos] > 0 {
		return impl.RingOut{Code: impl.ErrThere}
	}
	l.items[pos] = item
	return impl.RingOut{Ring: l.ring()}
}

func popByRule(r impl.Ring) impl.RingOut {
	l, right := laneOf(r)
	if !right {
		return impl.RingOut{Code: impl.ErrForm}
	}
	if l.head == l.tail {
		return impl.RingOut{Code: impl.ErrNone}
	}
	item := l.items[l.head]
	if item == 0 {
		return impl.RingOut{Code: impl.ErrState}
	}
	l.head++
	return impl.RingOut{Ring: l.ring(), Pos: l.head - 1, Item: item}
}

func sameRing(a impl.Ring, b impl.Ring) bool {
	return a.Cap == b.Cap && a.Head == b.Head && a.Tail == b.Tail && slices.Equal(a.Cups, b.Cups)
}

func sameRingOut(a impl.RingOut, b impl.RingOut) bool {
	return sameRing(a.Ring, b.Ring) && a.Pos == b.Pos && a.Item == b.Item && a.Code == b.Code
}

func copyRing(r impl.Ring) impl.Ring {
	r.Cups = slices.Clone(r.Cups)
	return r
}

func copyRingOut(o impl.RingOut) impl.RingOut {
	o.Ring = copyRing(o.Ring)
	return o
}

// wantRing holds a right ring to what may be taken out of it, and what is open.
func wantRing(t *testing.T, r impl.Ring) {
	t.Helper()
	if !impl.RingRight(r) {
		t.Fatalf("RingRight %+v: got no", r)
	}
	l, _ := laneOf(r)
	if got := impl.RingOpen(r); !slices.Equal(got, l.open()) {
		t.Fatalf("RingOpen %+v: got %v, want %v", r, got, l.open())
	}
	got := impl.RingReady(r)
	if !slices.Equal(got, l.ready()) {
		t.Fatalf("RingReady %+v: got %v, want %v", r, got, l.ready())
	}
	for i, item := range got {
		o := impl.RingPop(r)
		if o.Code != impl.OK || o.Item != item || o.Pos != l.head+int64(i) {
			t.Fatalf("RingPop %+v: got %+v, want item %d of %d", r, o, item, l.head+int64(i))
		}
		r = o.Ring
	}
	if code := impl.RingPop(r).Code; code != impl.ErrNone && code != impl.ErrState {
		t.Fatalf("RingPop behind all that was ready: code %d", code)
	}
}

// wantTurn holds an answer to the rule's, and the ring that is told to what a right one tells.
func wantTurn(t *testing.T, what string, r impl.Ring, got impl.RingOut, want impl.RingOut) impl.RingOut {
	t.Helper()
	if !sameRingOut(got, want) {
		t.Fatalf("%s of %+v: got %+v, want %+v", what, r, got, want)
	}
	if got.Code == impl.OK {
		wantRing(t, got.Ring)
	}
	return got
}

func wantClaim(t *testing.T, r impl.Ring) impl.RingOut {
	t.Helper()
	return wantTurn(t, "RingClaim", r, impl.RingClaim(r), claimByRule(r))
}

func wantFill(t *testing.T, r impl.Ring, pos int64, item int64) impl.RingOut {
	t.Helper()
	return wantTurn(t, "RingFill", r, impl.RingFill(r, pos, item), fillByRule(r, pos, item))
}

func wantPop(t *testing.T, r impl.Ring) impl.RingOut {
	t.Helper()
	return wantTurn(t, "RingPop", r, impl.RingPop(r), popByRule(r))
}

// wantRingCode is of a call that is refused: nothing is told but the code.
func wantRingCode(t *testing.T, why string, got impl.RingOut, code int64) {
	t.Helper()
	if !sameRingOut(got, impl.RingOut{Code: code}) {
		t.Errorf("%s: got %+v, want code %d", why, got, code)
	}
}

// wantWrongRing holds all calls to their answers for a ring that is not right, whatever the place and the item.
func wantWrongRing(t *testing.T, why string, r impl.Ring) {
	t.Helper()
	if impl.RingRight(r) {
		t.Errorf("%s: RingRight %+v: got yes", why, r)
	}
	if got := impl.RingReady(r); len(got) != 0 {
		t.Errorf("%s: RingReady: got %v", why, got)
	}
	if got := impl.RingOpen(r); len(got) != 0 {
		t.Errorf("%s: RingOpen: got %v", why, got)
	}
	wantRingCode(t, why+": RingClaim", impl.RingClaim(r), impl.ErrForm)
	wantRingCode(t, why+": RingPop", impl.RingPop(r), impl.ErrForm)
	for _, pos := range []int64{r.Head, r.Tail - 1, r.Tail, 0, -1, math.MinInt64, math.MaxInt64} {
		for _, item := range []int64{1, impl.MaxTime, 0, -1, impl.MaxTime + 1} {
			wantRingCode(t, why+": RingFill", impl.RingFill(r, pos, item), impl.ErrForm)
		}
	}
}

// laneAt has claimed and filled places as a text tells from head on: '.' is claimed, any other letter filled.
func laneAt(size int64, head int64, places string) lane {
	l := lane{size: size, head: head, tail: head + int64(len(places)), items: make(map[int64]int64)}
	for i, sign := range places {
		if sign != '.' {
			l.items[head+int64(i)] = int64(sign)
		}
	}
	return l
}

func ringAt(size int64, head int64, places string) impl.Ring {
	return laneAt(size, head, places).ring()
}

// claimed claims many places, and holds each one to the rule.
func claimed(t *testing.T, r impl.Ring, many int) (impl.Ring, []int64) {
	t.Helper()
	var places []int64
	for range many {
		got := wantClaim(t, r)
		if got.Code != impl.OK {
			t.Fatalf("RingClaim of %+v: code %d", r, got.Code)
		}
		r, places = got.Ring, append(places, got.Pos)
	}
	return r, places
}

// newRing is the empty one at 0.
func newRing(t *testing.T, size int64) impl.Ring {
	t.Helper()
	got := impl.RingNew(size)
	if !sameRingOut(got, impl.RingOut{Ring: ringAt(size, 0, "")}) {
		t.Fatalf("RingNew of %d: got %+v", size, got)
	}
	wantRing(t, got.Ring)
	return got.Ring
}

// orders are all orders of the numbers below many.
func orders(many int) [][]int {
	if many == 0 {
		return [][]int{nil}
	}
	var all [][]int
	for _, order := range orders(many - 1) {
		for at := range many {
			all = append(all, slices.Insert(slices.Clone(order), at, many-1))
		}
	}
	return all
}

// wantRound claims places, one for each of order, fills them in that order, and takes out what it can after each.
func wantRound(t *testing.T, r impl.Ring, order []int, atOnce bool) impl.Ring {
	t.Helper()
	r, places := claimed(t, r, len(order))
	var out []int64
	take := func() {
		for range impl.RingReady(r) {
			got := wantPop(t, r)
			if got.Pos != places[len(out)] {
				t.Fatalf("%v: taken of place %d, want %d", order, got.Pos, places[len(out)])
			}
			r, out = got.Ring, append(out, got.Item)
		}
	}
	var want []int64
	for _, pos := range places {
		want = append(want, 700+pos)
	}
	for _, at := range order {
		r = wantFill(t, r, places[at], want[at]).Ring
		if atOnce {
			take()
		}
	}
	take()
	if !slices.Equal(out, want) {
		t.Fatalf("filled in the order %v: taken %v, want %v", order, out, want)
	}
	return r
}

func TestPromise13EmptyRings(t *testing.T) {
	for _, size := range ringSizes() {
		r := newRing(t, size)
		if len(impl.RingReady(r)) != 0 || len(impl.RingOpen(r)) != 0 {
			t.Errorf("an empty ring of %d tells %v and %v", size, impl.RingReady(r), impl.RingOpen(r))
		}
		for i, cup := range r.Cups {
			if cup != (impl.Cup{Seq: int64(i)}) {
				t.Errorf("an empty ring of %d has %+v in cup %d", size, cup, i)
			}
		}
		wantRingCode(t, "RingPop of an empty ring", impl.RingPop(r), impl.ErrNone)
		wantRingCode(t, "RingFill of an empty ring", impl.RingFill(r, 0, 5), impl.ErrNone)
	}
}

func TestPromise13Sizes(t *testing.T) {
	sizes := []int64{math.MinInt64, math.MinInt64 + 1, -1 << 32, -16, -8, -4, -2, 18, 31, 32, 64, 128, 256, impl.MaxTime, 1<<32 + 4, 1 << 62, math.MaxInt64 - 1, math.MaxInt64}
	for size := int64(-1); size <= 17; size++ {
		sizes = append(sizes, size)
	}
	for _, size := range sizes {
		if slices.Contains(ringSizes(), size) {
			newRing(t, size)
			continue
		}
		wantRingCode(t, "RingNew", impl.RingNew(size), impl.ErrForm)
		wantWrongRing(t, "no Cups", impl.Ring{Cap: size})
		wantWrongRing(t, "Cups of another size", impl.Ring{Cap: size, Cups: newRing(t, 4).Cups})
		if size > 0 && size <= 256 {
			wantWrongRing(t, "as many Cups", impl.Ring{Cap: size, Cups: laneAt(size, 0, "").ring().Cups})
		}
	}
}

// One place after the other, by hand: what stands in each cup at each turn.
func TestPromise13TurnByTurn(t *testing.T) {
	a := wantClaim(t, newRing(t, 2))
	b := wantClaim(t, a.Ring)
	c := wantFill(t, b.Ring, 1, 7)
	d := wantFill(t, c.Ring, 0, 5)
	e := wantPop(t, d.Ring)
	f := wantClaim(t, e.Ring)
	g := wantFill(t, f.Ring, 2, 9)
	h := wantPop(t, g.Ring)
	i := wantPop(t, h.Ring)
	rows := []struct {
		got  impl.RingOut
		want impl.RingOut
	}{
		{a, impl.RingOut{Ring: impl.Ring{Cap: 2, Tail: 1, Cups: []impl.Cup{{}, {Seq: 1}}}}},
		{b, impl.RingOut{Pos: 1, Ring: impl.Ring{Cap: 2, Tail: 2, Cups: []impl.Cup{{}, {Seq: 1}}}}},
		{c, impl.RingOut{Ring: impl.Ring{Cap: 2, Tail: 2, Cups: []impl.Cup{{}, {Seq: 2, Item: 7}}}}},
		{d, impl.RingOut{Ring: impl.Ring{Cap: 2, Tail: 2, Cups: []impl.Cup{{Seq: 1, Item: 5}, {Seq: 2, Item: 7}}}}},
		{e, impl.RingOut{Item: 5, Ring: impl.Ring{Cap: 2, Head: 1, Tail: 2, Cups: []impl.Cup{{Seq: 2}, {Seq: 2, Item: 7}}}}},
		{f, impl.RingOut{Pos: 2, Ring: impl.Ring{Cap: 2, Head: 1, Tail: 3, Cups: []impl.Cup{{Seq: 2}, {Seq: 2, Item: 7}}}}},
		{g, impl.RingOut{Ring: impl.Ring{Cap: 2, Head: 1, Tail: 3, Cups: []impl.Cup{{Seq: 3, Item: 9}, {Seq: 2, Item: 7}}}}},
		{h, impl.RingOut{Pos: 1, Item: 7, Ring: impl.Ring{Cap: 2, Head: 2, Tail: 3, Cups: []impl.Cup{{Seq: 3, Item: 9}, {Seq: 3}}}}},
		{i, impl.RingOut{Pos: 2, Item: 9, Ring: impl.Ring{Cap: 2, Head: 3, Tail: 3, Cups: []impl.Cup{{Seq: 4}, {Seq: 3}}}}},
	}
	for at, row := range rows {
		if !sameRingOut(row.got, row.want) {
			t.Errorf("turn %d: got %+v, want %+v", at, row.got, row.want)
		}
	}
}

// Over several rounds each cup comes again, for places that are greater by Cap.
func TestPromise13RoundsOfOneAfterTheOther(t *testing.T) {
	for _, size := range ringSizes() {
		r := newRing(t, size)
		for pos := range 5*size + 3 {
			claim := wantClaim(t, r)
			fill := wantFill(t, claim.Ring, pos, 900+pos)
			pop := wantPop(t, fill.Ring)
			if claim.Pos != pos || pop.Pos != pos || pop.Item != 900+pos || pop.Ring.Cups[pos%size] != (impl.Cup{Seq: pos + size}) {
				t.Fatalf("size %d, place %d: claimed %d, taken %d of %d", size, pos, claim.Pos, pop.Item, pop.Pos)
			}
			r = pop.Ring
		}
	}
}

// In whatever order a few places are filled, over several rounds, beginning at each cup.
func TestPromise13EachOrderOfAFew(t *testing.T) {
	for _, size := range ringSizes() {
		for many := int64(1); many <= min(size, 4); many++ {
			for _, order := range orders(int(many)) {
				for _, atOnce := range []bool{false, true} {
					r := newRing(t, size)
					for range 2*size/many + 2 {
						r = wantRound(t, r, order, atOnce)
					}
				}
			}
		}
	}
}

func TestPromise13ManyOrdersOfMore(t *testing.T) {
	r := rand.New(rand.NewSource(131))
	for range 150 {
		for _, size := range []int64{8, 16} {
			ring := newRing(t, size)
			for range 4 {
				order := r.Perm(1 + r.Intn(int(size)))
				ring = wantRound(t, ring, order, r.Intn(2) == 0)
			}
			wantRound(t, ring, r.Perm(int(size)), true)
		}
	}
}

// putter holds what was claimed, filled and taken out over many turns of one ring.
type putter struct {
	ring    impl.Ring
	places  []int64
	items   map[int64]int64
	out     []int64
	refused map[int64]int
}

func (p *putter) take(got impl.RingOut) bool {
	if got.Code != impl.OK {
		p.refused[got.Code]++
		return false
	}
	p.ring = got.Ring
	return true
}

// turn claims, fills some place, be it open or not, or takes out.
func (p *putter) turn(t *testing.T, r *rand.Rand, next int64) {
	t.Helper()
	switch r.Intn(5) {
	case 0, 1:
		if got := wantClaim(t, p.ring); p.take(got) {
			p.places = append(p.places, got.Pos)
		}
	case 2, 3:
		places := append(impl.RingOpen(p.ring), p.ring.Head-1+r.Int63n(p.ring.Cap+2))
		pos := places[r.Intn(len(places))]
		if p.take(wantFill(t, p.ring, pos, next)) {
			p.items[pos] = next
		}
	default:
		if got := wantPop(t, p.ring); p.take(got) {
			p.out = append(p.out, got.Item)
		}
	}
}

// Whoever comes when: each item comes out once, of the place in which it was put, in the order of the places.
func TestPromise13AnyTurns(t *testing.T) {
	r := rand.New(rand.NewSource(132))
	refused := make(map[int64]int)
	for _, size := range ringSizes() {
		for range 12 {
			p := &putter{ring: newRing(t, size), items: make(map[int64]int64), refused: refused}
			for next := int64(1); next <= 300; next++ {
				p.turn(t, r, next)
			}
			for _, pos := range impl.RingOpen(p.ring) {
				p.items[pos] = 1000 + pos
				p.take(wantFill(t, p.ring, pos, p.items[pos]))
			}
			for p.ring.Head < p.ring.Tail {
				got := wantPop(t, p.ring)
				p.take(got)
				p.out = append(p.out, got.Item)
			}
			var want []int64
			for _, pos := range p.places {
				want = append(want, p.items[pos])
			}
			if !slices.Equal(p.out, want) || len(want) != len(p.items) || int64(len(want)) != p.ring.Head {
				t.Fatalf("size %d: taken %v, put in %v", size, p.out, want)
			}
		}
	}
	for _, code := range []int64{impl.ErrFull, impl.ErrNone, impl.ErrThere, impl.ErrState} {
		if refused[code] < 100 {
			t.Errorf("code %d came %d times only", code, refused[code])
		}
	}
}

// ringRows are all texts of many signs, each place claimed or filled.
func ringRows(many int64) []string {
	all := []string{""}
	for i := range many {
		var longer []string
		for _, row := range all {
			longer = append(longer, row+".", row+string(rune('A'+i)))
		}
		all = longer
	}
	return all
}

// wantAllTurns asks all that can be asked of a right ring, of each place in it and around it.
func wantAllTurns(t *testing.T, r impl.Ring) {
	t.Helper()
	wantRing(t, r)
	wantClaim(t, r)
	wantPop(t, r)
	for pos := r.Head - 2; pos <= r.Head+r.Cap+1; pos++ {
		wantFill(t, r, pos, 55)
	}
}

func TestPromise13EachSmallRing(t *testing.T) {
	for _, size := range ringSizes()[:3] {
		for head := range 2*size + 1 {
			for many := range size + 1 {
				for _, row := range ringRows(many) {
					wantAllTurns(t, ringAt(size, head, row))
					wantAllTurns(t, ringAt(size, impl.MaxTime-many-head, row))
				}
			}
		}
	}
}

func TestPromise13FullRings(t *testing.T) {
	for _, size := range ringSizes() {
		full, _ := claimed(t, newRing(t, size), int(size))
		wantRingCode(t, "RingClaim of a full ring", impl.RingClaim(full), impl.ErrFull)
		for pos := range size {
			full = wantFill(t, full, pos, pos+1).Ring
			wantRingCode(t, "RingClaim of a full ring, filled", impl.RingClaim(full), impl.ErrFull)
		}
		popped := wantPop(t, full).Ring
		again := wantClaim(t, popped)
		if again.Code != impl.OK || again.Pos != size {
			t.Errorf("size %d: popped once, claimed %d, code %d", size, again.Pos, again.Code)
		}
		wantRingCode(t, "RingClaim of a ring that is full again", impl.RingClaim(again.Ring), impl.ErrFull)
	}
}

func TestPromise13Fills(t *testing.T) {
	r := ringAt(4, 5, "A.C")
	codes := map[int64]int64{3: impl.ErrNone, 4: impl.ErrNone, 5: impl.ErrThere, 6: impl.OK, 7: impl.ErrThere, 8: impl.ErrNone, 9: impl.ErrNone, 10: impl.ErrNone, 1: impl.ErrNone, 2: impl.ErrNone, 0: impl.ErrNone, -1: impl.ErrNone, -6: impl.ErrNone}
	for pos, code := range codes {
		if got := wantFill(t, r, pos, 9); got.Code != code {
			t.Errorf("RingFill of place %d: code %d, want %d", pos, got.Code, code)
		}
	}
	// Filled again with what stands there already, it is refused as well.
	wantRingCode(t, "RingFill of a place that is filled", impl.RingFill(r, 5, 'A'), impl.ErrThere)
	popped := wantPop(t, r).Ring
	wantRingCode(t, "RingFill of a place that has been taken out", impl.RingFill(popped, 5, 9), impl.ErrNone)
	wantRingCode(t, "RingFill of a place that is not claimed yet", impl.RingFill(popped, 8, 9), impl.ErrNone)
	wantRingCode(t, "RingFill of a place that is a round off", impl.RingFill(popped, 10, 9), impl.ErrNone)
	later := wantClaim(t, popped).Ring
	if got := wantFill(t, later, 8, 9); got.Code != impl.OK || got.Ring.Cups[0] != (impl.Cup{Seq: 9, Item: 9}) {
		t.Errorf("RingFill of a place that was claimed: got %+v", got)
	}
}

func TestPromise13Pops(t *testing.T) {
	for _, size := range ringSizes() {
		for _, head := range []int64{0, 3, 16, 999, impl.MaxTime - size} {
			wantRingCode(t, "RingPop without a claimed place", impl.RingPop(ringAt(size, head, "")), impl.ErrNone)
			row := "..X..Y..........Z"[:size]
			wantRingCode(t, "RingPop of what is claimed alone", impl.RingPop(ringAt(size, head, row[:1])), impl.ErrState)
			wantRingCode(t, "RingPop where a later one is filled", impl.RingPop(ringAt(size, head, row)), impl.ErrState)
			row = "AB.D.FGHIJKLMNOP"[:size]
			if got := wantPop(t, ringAt(size, head, row)); got.Code != impl.OK || got.Item != 'A' || got.Pos != head || got.Ring.Head != head+1 {
				t.Errorf("RingPop of the first one: got %+v", got)
			}
		}
	}
}

func TestPromise13ReadyAndOpen(t *testing.T) {
	rows := []struct {
		row   string
		ready []int64
		open  []int64
	}{
		{"", nil, nil},
		{".", nil, []int64{6}},
		{"A", []int64{'A'}, nil},
		{"A.", []int64{'A'}, []int64{7}},
		{".B", nil, []int64{6}},
		{"..CD", nil, []int64{6, 7}},
		{"AB.D", []int64{'A', 'B'}, []int64{8}},
		{"BA.D.F..", []int64{'B', 'A'}, []int64{8, 10, 12, 13}},
		{"ABCDEFGH", []int64{'A', 'B', 'C', 'D', 'E', 'F', 'G', 'H'}, nil},
		{"........", nil, []int64{6, 7, 8, 9, 10, 11, 12, 13}},
		{"AAAAAAA.", []int64{'A', 'A', 'A', 'A', 'A', 'A', 'A'}, []int64{13}},
	}
	for _, x := range rows {
		r := ringAt(8, 6, x.row)
		if got := impl.RingReady(r); !slices.Equal(got, x.ready) {
			t.Errorf("RingReady of %q: got %v, want %v", x.row, got, x.ready)
		}
		if got := impl.RingOpen(r); !slices.Equal(got, x.open) {
			t.Errorf("RingOpen of %q: got %v, want %v", x.row, got, x.open)
		}
		wantAllTurns(t, r)
	}
}

func TestPromise13Items(t *testing.T) {
	for _, size := range ringSizes() {
		r, _ := claimed(t, newRing(t, size), 1)
		for _, item := range []int64{1, 2, 999999, impl.MaxTime} {
			got := wantPop(t, wantFill(t, r, 0, item).Ring)
			if got.Code != impl.OK || got.Item != item {
				t.Errorf("item %d: taken %d, code %d", item, got.Item, got.Code)
			}
		}
		for _, item := range []int64{0, -1, -impl.MaxTime, impl.MaxTime + 1, 1<<32 + 1, math.MinInt64, math.MaxInt64} {
			for _, pos := range []int64{0, 1, -1, math.MaxInt64} {
				wantRingCode(t, "RingFill with no item", impl.RingFill(r, pos, item), impl.ErrForm)
			}
		}
	}
}

func TestPromise13Places(t *testing.T) {
	for _, size := range ringSizes() {
		for _, head := range []int64{0, 1, 7, 500, impl.MaxTime - size, impl.MaxTime - 1, impl.MaxTime} {
			for many := range min(size, impl.MaxTime-head) + 1 {
				r := ringAt(size, head, "................"[:many])
				for _, pos := range []int64{r.Head, r.Head - 1, r.Tail, r.Tail - 1, r.Tail + 1, r.Head + size, r.Head - size, r.Tail - 1 - size, -1, -size, math.MinInt64, math.MinInt64 + size, math.MaxInt64, math.MaxInt64 - size, 1 << 32, -1 << 32} {
					got := wantFill(t, r, pos, 8)
					if claimed := pos >= head && pos < head+many; claimed != (got.Code == impl.OK) {
						t.Errorf("size %d, from %d to below %d: RingFill of %d: code %d", size, r.Head, r.Tail, pos, got.Code)
					}
				}
			}
		}
	}
}

// Up to MaxTime places are claimed; what was claimed is filled and taken out there as ever.
func TestPromise13LastPlaces(t *testing.T) {
	for _, size := range ringSizes() {
		for _, left := range []int64{0, 1, 2, size, size + 1} {
			r := ringAt(size, impl.MaxTime-left, "")
			for pos := impl.MaxTime - left; pos < impl.MaxTime; pos++ {
				r = wantClaim(t, r).Ring
				r = wantFill(t, r, pos, 3).Ring
				r = wantPop(t, r).Ring
			}
			if r.Head != impl.MaxTime || r.Tail != impl.MaxTime || r.Cups[impl.MaxTime%size].Seq != impl.MaxTime {
				t.Errorf("size %d: got %+v at the end", size, r)
			}
			wantRingCode(t, "RingClaim at MaxTime of an empty ring", impl.RingClaim(r), impl.ErrFull)
			wantRingCode(t, "RingPop at MaxTime", impl.RingPop(r), impl.ErrNone)
			wantRingCode(t, "RingFill at MaxTime", impl.RingFill(r, impl.MaxTime, 3), impl.ErrNone)
		}
		for many := range size {
			r := ringAt(size, impl.MaxTime-many, "ABCDEFGHIJKLMNOP"[:many])
			wantRingCode(t, "RingClaim at MaxTime of a ring with room", impl.RingClaim(r), impl.ErrFull)
			wantAllTurns(t, r)
		}
	}
}

func TestPromise13HeadsAndTails(t *testing.T) {
	numbers := []int64{math.MinInt64, -1 << 32, -17, -16, -8, -2, -1, 0, 1, 2, 3, 15, 16, 17, 500000, impl.MaxTime - 16, impl.MaxTime - 1, impl.MaxTime, impl.MaxTime + 1, impl.MaxTime + 16, 1 << 32, math.MaxInt64 - 16, math.MaxInt64}
	rights := 0
	for _, size := range ringSizes() {
		for _, head := range numbers {
			tails := append(slices.Clone(numbers), head+size, head+size-1, head+size+1, head-1, head+1)
			for _, tail := range tails {
				r := impl.Ring{Cap: size, Head: head, Tail: tail}
				for i := range size {
					r.Cups = append(r.Cups, impl.Cup{Seq: head + ((i-head)%size+size)%size})
				}
				if _, right := laneOf(r); right {
					wantAllTurns(t, r)
					rights++
				} else {
					wantWrongRing(t, "Head or Tail", r)
				}
			}
		}
	}
	if rights < 200 {
		t.Errorf("%d right: too few", rights)
	}
}

func TestPromise13WrongRings(t *testing.T) {
	wantWrongRing(t, "nothing", impl.Ring{})
	for _, size := range ringSizes() {
		for _, head := range []int64{0, 1, 5, 16, 77, impl.MaxTime - 2*size} {
			row := ".B..EF.H.JKLM..."[:size]
			if size == 1 && head%2 == 1 {
				row = "A"
			}
			wantEachThingWrong(t, ringAt(size, head, row[:size-size/3]))
		}
	}
}

// wantEachThingWrong has each thing of a right ring wrong by itself.
func wantEachThingWrong(t *testing.T, right impl.Ring) {
	t.Helper()
	wantAllTurns(t, right)
	turn := func(why string, do func(r *impl.Ring)) {
		t.Helper()
		r := copyRing(right)
		do(&r)
		wantWrongRing(t, why, r)
	}
	size := right.Cap
	turn("no Cap", func(r *impl.Ring) { r.Cap = 0 })
	turn("twice the Cap", func(r *impl.Ring) { r.Cap *= 2 })
	turn("half the Cap", func(r *impl.Ring) { r.Cap /= 2 })
	turn("a Cap below 0", func(r *impl.Ring) { r.Cap = -r.Cap })
	turn("no Cups", func(r *impl.Ring) { r.Cups = nil })
	turn("a cup too few", func(r *impl.Ring) { r.Cups = r.Cups[:size-1] })
	turn("a cup too many", func(r *impl.Ring) { r.Cups = append(r.Cups, r.Cups[0]) })
	turn("twice the Cups", func(r *impl.Ring) { r.Cups = append(r.Cups, r.Cups...) })
	turn("more Cups than MaxList", func(r *impl.Ring) { r.Cups = append(r.Cups, make([]impl.Cup, impl.MaxList)...) })
	turn("Head below 0", func(r *impl.Ring) { r.Head = -1 })
	turn("Head above Tail", func(r *impl.Ring) { r.Head = r.Tail + 1 })
	turn("Head a round off", func(r *impl.Ring) { r.Head += size; r.Tail += size })
	turn("Head less by a Cap", func(r *impl.Ring) { r.Head -= size })
	turn("Tail above Head and Cap", func(r *impl.Ring) { r.Tail = r.Head + size + 1 })
	turn("Tail below Head", func(r *impl.Ring) { r.Tail = r.Head - 1 })
	turn("Tail below 0", func(r *impl.Ring) { r.Tail = -1 })
	for pos := right.Head; pos < right.Head+size; pos++ {
		wantCupWrong(t, right, pos)
	}
	if size > 1 {
		turn("two cups changed about", func(r *impl.Ring) { r.Cups[0], r.Cups[size-1] = r.Cups[size-1], r.Cups[0] })
		turn("all cups a step on", func(r *impl.Ring) { r.Cups = append(r.Cups[1:], r.Cups[0]) })
	}
}

// wantCupWrong has one cup as no place of its sort has it.
func wantCupWrong(t *testing.T, right impl.Ring, pos int64) {
	t.Helper()
	seqs := []int64{pos, pos + 1, pos - 1, pos + 2, pos - right.Cap, pos + right.Cap, pos + 1 + right.Cap, pos + 1 - right.Cap, 0, -1, -pos, math.MinInt64, math.MaxInt64}
	items := []int64{0, 1, 9, impl.MaxTime, -1, impl.MaxTime + 1, math.MinInt64, math.MaxInt64}
	for _, seq := range seqs {
		for _, item := range items {
			r := copyRing(right)
			r.Cups[pos%r.Cap] = impl.Cup{Seq: seq, Item: item}
			bare := seq == pos && item == 0
			filled := seq == pos+1 && item >= 1 && item <= impl.MaxTime && pos < right.Tail
			if bare || filled {
				wantRing(t, r)
			} else {
				wantWrongRing(t, "a cup", r)
			}
		}
	}
}

// Of several faults the first one is named: a ring or an item that is not right, a place that is none, one that is filled.
func TestPromise13WhichFaultIsNamed(t *testing.T) {
	right := ringAt(4, 5, "A.CD")
	wrong := copyRing(right)
	wrong.Cups[0].Seq++
	rows := []struct {
		why  string
		r    impl.Ring
		pos  int64
		item int64
		code int64
	}{
		{"ring, item and place", wrong, 9, 0, impl.ErrForm},
		{"ring and item", wrong, 6, 0, impl.ErrForm},
		{"ring and place", wrong, 9, 3, impl.ErrForm},
		{"ring and a filled place", wrong, 5, 3, impl.ErrForm},
		{"ring alone", wrong, 6, 3, impl.ErrForm},
		{"item and place", right, 9, 0, impl.ErrForm},
		{"item and a place below", right, 4, impl.MaxTime + 1, impl.ErrForm},
		{"item and a filled place", right, 5, 0, impl.ErrForm},
		{"item alone", right, 6, 0, impl.ErrForm},
		{"place that was filled a round ahead", right, 1, 3, impl.ErrNone},
		{"place that will be in a filled cup", right, 9, 3, impl.ErrNone},
		{"filled place", right, 5, 3, impl.ErrThere},
		{"none", right, 6, 3, impl.OK},
	}
	for _, x := range rows {
		if got := wantFill(t, x.r, x.pos, x.item); got.Code != x.code {
			t.Errorf("%s: code %d, want %d", x.why, got.Code, x.code)
		}
	}
	// A full ring that is wrong, an empty one, and one whose first place is open.
	full, none, open := ringAt(2, 4, "AB"), ringAt(2, 4, ""), ringAt(2, 4, ".B")
	for _, r := range []impl.Ring{full, none, open} {
		r.Cups[1].Seq += 2
		wantRingCode(t, "RingClaim of a wrong ring", impl.RingClaim(r), impl.ErrForm)
		wantRingCode(t, "RingPop of a wrong ring", impl.RingPop(r), impl.ErrForm)
	}
}

// anyLane is right, and need not have begun anywhere.
func anyLane(r *rand.Rand) lane {
	size := ringSizes()[r.Intn(5)]
	heads := []int64{0, r.Int63n(40), r.Int63n(impl.MaxTime), impl.MaxTime - r.Int63n(20)}
	l := lane{size: size, head: heads[r.Intn(4)], items: make(map[int64]int64)}
	l.tail = min(l.head+r.Int63n(size+1), impl.MaxTime)
	often := 1 + r.Intn(4)
	for pos := l.head; pos < l.tail; pos++ {
		if r.Intn(often) == 0 {
			l.items[pos] = []int64{1, 1 + r.Int63n(impl.MaxTime), impl.MaxTime}[r.Intn(3)]
		}
	}
	return l
}

// turnedRing has one thing a little otherwise.
func turnedRing(r *rand.Rand, x impl.Ring) impl.Ring {
	x = copyRing(x)
	step := int64(r.Intn(3) - 1)
	i, j := r.Intn(len(x.Cups)), r.Intn(len(x.Cups))
	switch r.Intn(9) {
	case 0:
		x.Cap = ringSizes()[r.Intn(5)]
	case 1:
		x.Head += step
	case 2:
		x.Tail += step
	case 3:
		x.Head, x.Tail = x.Head+step, x.Tail+step
	case 4:
		x.Cups[i].Seq += step
	case 5:
		x.Cups[i].Item = []int64{0, 1, impl.MaxTime, impl.MaxTime + 1, -1}[r.Intn(5)]
	case 6:
		x.Cups[i], x.Cups[j] = x.Cups[j], x.Cups[i]
	case 7:
		x.Cups[i].Seq, x.Cups[i].Item = x.Cups[i].Seq+step, max(step, 0)
	default:
		x.Cups = append(x.Cups, x.Cups[i])[:int64(len(x.Cups))+step]
	}
	return x
}

func TestPromise13AnyRightRingStaysRight(t *testing.T) {
	r := rand.New(rand.NewSource(133))
	for range 1500 {
		ring := anyLane(r).ring()
		wantRing(t, ring)
		for range 4 {
			outs := []impl.RingOut{wantClaim(t, ring), wantPop(t, ring), wantFill(t, ring, ring.Head-1+r.Int63n(ring.Cap+2), 1+r.Int63n(impl.MaxTime))}
			if got := outs[r.Intn(3)]; got.Code == impl.OK {
				ring = got.Ring
			}
		}
	}
}

func TestPromise13RightByRule(t *testing.T) {
	r := rand.New(rand.NewSource(134))
	rights, wrongs := 0, 0
	for range 6000 {
		ring := turnedRing(r, anyLane(r).ring())
		if r.Intn(3) == 0 && len(ring.Cups) > 0 {
			ring = turnedRing(r, ring)
		}
		if _, right := laneOf(ring); !right {
			wantWrongRing(t, "by rule", ring)
			wrongs++
			continue
		}
		wantAllTurns(t, ring)
		rights++
	}
	if rights < 1500 || wrongs < 1500 {
		t.Errorf("%d right, %d wrong: too few", rights, wrongs)
	}
}

// wholeRing is r with all room behind its list shown.
func wholeRing(r impl.Ring) impl.Ring {
	r.Cups = r.Cups[:cap(r.Cups)]
	return r
}

func turnedCups(r impl.Ring) {
	cups := r.Cups[:cap(r.Cups)]
	for i := range cups {
		cups[i] = impl.Cup{Seq: -77, Item: -77}
	}
}

// wantOwnRing asks twice, and writes into one answer, then into what was handed in.
func wantOwnRing(t *testing.T, what string, r impl.Ring, call func(r impl.Ring) impl.RingOut) {
	t.Helper()
	// With room behind the Cups, in which an answer might be put as well.
	r.Cups = append(slices.Clone(r.Cups), make([]impl.Cup, 20)...)[:len(r.Cups)]
	kept := copyRing(wholeRing(r))
	first, second := call(r), call(r)
	told := copyRingOut(second)
	if !sameRingOut(first, second) {
		t.Errorf("%s: two answers of one call: %+v and %+v", what, first, second)
	}
	if !sameRing(wholeRing(r), kept) {
		t.Errorf("%s: what was handed in was turned", what)
	}
	turnedCups(first.Ring)
	if !sameRing(wholeRing(r), kept) {
		t.Errorf("%s: written into the answer, what was handed in was turned", what)
	}
	if !sameRingOut(second, told) {
		t.Errorf("%s: written into one answer, another one was turned", what)
	}
	turnedCups(r)
	if !sameRingOut(second, told) {
		t.Errorf("%s: written into what was handed in, the answer was turned", what)
	}
}

func TestPromise13MemoryOfRings(t *testing.T) {
	for _, size := range ringSizes() {
		wrong := ringAt(size, 3, "")
		wrong.Cups[0].Item = -1
		rings := []impl.Ring{wrong, ringAt(size, 3, ""), ringAt(size, 3, "."), ringAt(size, 3, "A"), ringAt(size, 3, "A.CD.FGH.JK.MNO."[:size])}
		for _, r := range rings {
			wantOwnRing(t, "RingNew", r, func(r impl.Ring) impl.RingOut { return impl.RingNew(r.Cap) })
			wantOwnRing(t, "RingClaim", r, impl.RingClaim)
			wantOwnRing(t, "RingPop", r, impl.RingPop)
			for pos := r.Head - 1; pos <= r.Tail; pos++ {
				wantOwnRing(t, "RingFill", r, func(r impl.Ring) impl.RingOut { return impl.RingFill(r, pos, 9) })
				wantOwnRing(t, "RingFill of no item", r, func(r impl.Ring) impl.RingOut { return impl.RingFill(r, pos, 0) })
			}
			wantOwnRing(t, "RingRight", r, func(r impl.Ring) impl.RingOut { impl.RingRight(r); return impl.RingOut{} })
			wantOwnRing(t, "RingReady", r, func(r impl.Ring) impl.RingOut { return impl.RingOut{Code: int64(len(impl.RingReady(r)))} })
			wantOwnRing(t, "RingOpen", r, func(r impl.Ring) impl.RingOut { return impl.RingOut{Code: int64(len(impl.RingOpen(r)))} })
		}
	}
}

func TestPromise13MemoryOfLists(t *testing.T) {
	r := ringAt(8, 3, "ABC.E..")
	for what, call := range map[string]func(r impl.Ring) []int64{"RingReady": impl.RingReady, "RingOpen": impl.RingOpen} {
		kept := copyRing(r)
		first, second := call(r), call(r)
		told := slices.Clone(second)
		for i := range first[:cap(first)] {
			first[:cap(first)][i] = -77
		}
		if len(told) != 3 || !slices.Equal(second, told) || !slices.Equal(call(r), told) || !sameRing(r, kept) {
			t.Errorf("%s: written into one answer, others were turned: %v, %v", what, second, call(r))
		}
	}
}

// Two ways that go on from one ring do not come upon each other.
func TestPromise13TwoWaysFromOneRing(t *testing.T) {
	for _, size := range ringSizes()[1:] {
		begin, _ := claimed(t, newRing(t, size), int(size))
		kept := copyRing(begin)
		one, other := begin, begin
		for pos := range size {
			one, other = wantFill(t, one, pos, 10+pos).Ring, wantFill(t, other, size-1-pos, 90+pos).Ring
		}
		for pos := range size {
			a, b := wantPop(t, one), wantPop(t, other)
			if a.Item != 10+pos || b.Item != 90+size-1-pos {
				t.Errorf("size %d: two ways from one ring came upon each other: %d and %d", size, a.Item, b.Item)
			}
			one, other = a.Ring, b.Ring
		}
		if !sameRing(begin, kept) {
			t.Errorf("size %d: the ring that both ways began with was turned", size)
		}
	}
}

// Calls of other rings in between, refused ones too, turn nothing: the same call tells the same.
func TestPromise13NothingIsKept(t *testing.T) {
	r := ringAt(4, 6, "AB.D")
	pop, fill := impl.RingPop(r), impl.RingFill(r, 8, 12)
	for _, size := range ringSizes() {
		other := newRing(t, size)
		for range 3 * size {
			other = impl.RingClaim(other).Ring
			impl.RingFill(other, other.Head, 5)
			impl.RingPop(other)
			impl.RingPop(impl.Ring{})
			if got := impl.RingPop(r); !sameRingOut(got, pop) {
				t.Fatalf("the same call tells %+v, it told %+v", got, pop)
			}
			if got := impl.RingFill(r, 8, 12); !sameRingOut(got, fill) {
				t.Fatalf("the same call tells %+v, it told %+v", got, fill)
			}
		}
	}
}
