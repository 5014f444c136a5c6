package quote

import (
	"errors"
	"fmt"
	"math"
	"slices"
	"sort"
	"strings"
	"testing"

	"straddle/api"
	"straddle/grid"
	"straddle/order"
)

const (
	most  = math.MaxInt64
	least = math.MinInt64
)

// all is the grid of every price; fives is that of 1, 6, .. 101, 111, ..
var (
	all   = grid.Table{{From: 1, By: 1}}
	fives = grid.Table{{From: 1, By: 5}, {From: 101, By: 10}}
)

// good is a quote that may be, in both grids.
var good = Quote{Bid: 11, BidQty: 9, Ask: 16, AskQty: 8}

// prices and quantities are numbers about both ends of what may be, and far beyond.
func prices() []int64 {
	return []int64{1, 2, 6, 99, 101, 102, 106, 111, 999991, 999999, 1000000, 0, -1, -5, 1000001, 1000011, 1 << 32, 1<<32 + 1, least, most}
}

func quantities() []int64 {
	return []int64{0, 1, 2, 999999, 1000000, -1, -2, -1000000, 1000001, 1 << 32, 1<<32 + 1, least, most}
}

// with tells a quote that is like good but for what f changes.
func with(f func(q *Quote)) Quote {
	q := good
	f(&q)
	return q
}

// plainOn tells whether a price of 1 to MaxPrice is one of fives.
func plainOn(p int64) bool { return p < 101 && p%5 == 1 || p >= 101 && p%10 == 1 }

// plainCheck tells the first of what the promise finds wrong with q, and its place.
func plainCheck(q Quote, on func(p int64) bool) (int, api.Errno) {
	var w [4]api.Errno
	for at, side := range map[int][2]int64{0: {q.Bid, q.BidQty}, 2: {q.Ask, q.AskQty}} {
		price, qty := side[0], side[1]
		switch {
		case qty > 0 && (price < 1 || price > 1000000):
			w[at] = api.ErrArg
		case qty > 0 && !on(price):
			w[at] = api.ErrGrid
		}
		if qty < 0 || qty > 1000000 {
			w[at+1] = api.ErrArg
		}
	}
	for at, e := range w {
		if e != api.OK {
			return at, e
		}
	}
	if q.BidQty > 0 && q.AskQty > 0 && q.Bid >= q.Ask {
		return 2, api.ErrCross
	}
	return 0, api.OK
}

// checkCheck asks whether Check tells this of q: nothing of OK, else a Fault at that place that wraps want itself.
func checkCheck(t *testing.T, q Quote, g grid.Table, at int, want api.Errno) {
	t.Helper()
	err := Check(q, g)
	if want == api.OK {
		if err != nil {
			t.Errorf("Check of %+v: %v", q, err)
		}
		return
	}
	f, ok := err.(*api.Fault)
	if !ok || f.Part != "quote" || f.At != at || f.Err != want || !errors.Is(err, want) {
		t.Errorf("Check of %+v: %v; want a fault of %v at %d", q, err, want, at)
	}
}

func TestP1501CheckAtItsBounds(t *testing.T) {
	for _, c := range []struct {
		q    Quote
		at   int
		want api.Errno
	}{
		{good, 0, api.OK},
		{Quote{}, 0, api.OK},
		{Quote{Bid: 1, BidQty: 1, Ask: 6, AskQty: 1}, 0, api.OK},
		{Quote{Bid: 999981, BidQty: 1000000, Ask: 999991, AskQty: 1000000}, 0, api.OK},
		{Quote{Bid: 11, BidQty: 5}, 0, api.OK},
		{Quote{Ask: 11, AskQty: 5}, 0, api.OK},
		{Quote{Bid: least, Ask: most}, 0, api.OK},
		{Quote{Bid: most, Ask: least}, 0, api.OK},
		{Quote{Bid: -7, Ask: 11, AskQty: 5}, 0, api.OK},
		{Quote{Bid: 12, Ask: 11, AskQty: 5}, 0, api.OK}, // what has no quantity trades with nobody
		{Quote{Bid: 11, BidQty: 5, Ask: 11}, 0, api.OK},
		{Quote{Bid: 11, BidQty: 5, Ask: 3}, 0, api.OK},
		{with(func(q *Quote) { q.Bid = 0 }), 0, api.ErrArg},
		{with(func(q *Quote) { q.Bid = -11 }), 0, api.ErrArg},
		{with(func(q *Quote) { q.Bid = 1000001 }), 0, api.ErrArg},
		{with(func(q *Quote) { q.Bid = least }), 0, api.ErrArg},
		{with(func(q *Quote) { q.Bid = most }), 0, api.ErrArg},
		{with(func(q *Quote) { q.Bid = 12 }), 0, api.ErrGrid},
		{with(func(q *Quote) { q.Bid = 1000000 }), 0, api.ErrGrid},
		{with(func(q *Quote) { q.BidQty = 0 }), 0, api.OK},
		{with(func(q *Quote) { q.BidQty = 1 }), 0, api.OK},
		{with(func(q *Quote) { q.BidQty = 1000000 }), 0, api.OK},
		{with(func(q *Quote) { q.BidQty = -1 }), 1, api.ErrArg},
		{with(func(q *Quote) { q.BidQty = 1000001 }), 1, api.ErrArg},
		{with(func(q *Quote) { q.BidQty = least }), 1, api.ErrArg},
		{with(func(q *Quote) { q.BidQty = most }), 1, api.ErrArg},
		{with(func(q *Quote) { q.Ask = 0 }), 2, api.ErrArg},
		{with(func(q *Quote) { q.Ask = -16 }), 2, api.ErrArg},
		{with(func(q *Quote) { q.Ask = 1000001 }), 2, api.ErrArg},
		{with(func(q *Quote) { q.Ask = least }), 2, api.ErrArg},
		{with(func(q *Quote) { q.Ask = most }), 2, api.ErrArg},
		{with(func(q *Quote) { q.Ask = 17 }), 2, api.ErrGrid},
		{with(func(q *Quote) { q.Ask = 106 }), 2, api.ErrGrid},
		{with(func(q *Quote) { q.AskQty = 0 }), 0, api.OK},
		{with(func(q *Quote) { q.AskQty = 1 }), 0, api.OK},
		{with(func(q *Quote) { q.AskQty = 1000000 }), 0, api.OK},
		{with(func(q *Quote) { q.AskQty = -1 }), 3, api.ErrArg},
		{with(func(q *Quote) { q.AskQty = 1000001 }), 3, api.ErrArg},
		{with(func(q *Quote) { q.AskQty = least }), 3, api.ErrArg},
		{with(func(q *Quote) { q.AskQty = most }), 3, api.ErrArg},
		{with(func(q *Quote) { q.Ask = 11 }), 2, api.ErrCross},
		{with(func(q *Quote) { q.Ask = 6 }), 2, api.ErrCross},
		{with(func(q *Quote) { q.Bid = 21 }), 2, api.ErrCross},
		{Quote{Bid: 999991, BidQty: 1000000, Ask: 1, AskQty: 1000000}, 2, api.ErrCross},
		{Quote{Bid: 1, BidQty: 1, Ask: 1, AskQty: 1}, 2, api.ErrCross},
	} {
		checkCheck(t, c.q, fives, c.at, c.want)
	}
}

// TestP1501CheckTellsTheFirstPlace spoils quotes at every two places, and at all behind one.
func TestP1501CheckTellsTheFirstPlace(t *testing.T) {
	type spoil struct {
		at   int
		want api.Errno
		f    func(q *Quote)
	}
	spoils := []spoil{
		{0, api.ErrArg, func(q *Quote) { q.Bid = 1000001 }},
		{0, api.ErrGrid, func(q *Quote) { q.Bid = 17 }}, // not below the Ask, too
		{1, api.ErrArg, func(q *Quote) { q.BidQty = 1000001 }},
		{2, api.ErrArg, func(q *Quote) { q.Ask = 0 }},
		{2, api.ErrGrid, func(q *Quote) { q.Ask = 7 }}, // not above the Bid, too
		{3, api.ErrArg, func(q *Quote) { q.AskQty = 1000001 }},
		{3, api.ErrArg, func(q *Quote) { q.AskQty, q.Ask = 1000001, 6 }}, // what is wrong itself goes ahead of ErrCross
	}
	for i, a := range spoils {
		checkCheck(t, with(a.f), fives, a.at, a.want)
		for _, b := range spoils[i:] {
			if b.at > a.at {
				checkCheck(t, with(func(q *Quote) { b.f(q); a.f(q) }), fives, a.at, a.want)
			}
		}
		checkCheck(t, with(func(q *Quote) {
			for _, b := range slices.Backward(spoils[i:]) {
				b.f(q)
			}
		}), fives, a.at, a.want)
	}
}

// TestP1501NoPriceIsAskedOfWhatHasNoQuantity is so of a quantity of 0, which may be, and of those below, which may not.
func TestP1501NoPriceIsAskedOfWhatHasNoQuantity(t *testing.T) {
	for _, p := range prices() {
		for _, other := range prices() {
			checkCheck(t, Quote{Bid: p, Ask: other}, fives, 0, api.OK)
			checkCheck(t, Quote{Bid: p, Ask: other, BidQty: -1}, fives, 1, api.ErrArg)
			checkCheck(t, Quote{Bid: p, Ask: other, AskQty: least}, fives, 3, api.ErrArg)
			checkCheck(t, Quote{Bid: p, Ask: other, BidQty: least, AskQty: -1}, fives, 1, api.ErrArg)
		}
		checkCheck(t, Quote{Bid: p, Ask: 11, AskQty: 1}, fives, 0, api.OK)
		checkCheck(t, Quote{Bid: 11, BidQty: 1, Ask: p}, fives, 0, api.OK)
	}
}

func TestP1501CheckIsThePlainReading(t *testing.T) {
	found := map[string]int{}
	for _, bid := range prices() {
		for _, bidQty := range quantities() {
			for _, ask := range prices() {
				for _, askQty := range quantities() {
					q := Quote{bid, bidQty, ask, askQty}
					at, want := plainCheck(q, plainOn)
					found[fmt.Sprint(at, " ", want)]++
					checkCheck(t, q, fives, at, want)
					at, want = plainCheck(q, func(int64) bool { return true })
					checkCheck(t, q, all, at, want)
					if t.Failed() { // enough is told
						return
					}
				}
			}
		}
	}
	for _, what := range []string{"0 ok", "0 arg", "0 grid", "1 arg", "2 arg", "2 grid", "2 cross", "3 arg"} {
		if found[what] < 100 {
			t.Errorf("only %d of %s", found[what], what)
		}
	}
}

func TestP1501CheckOfEveryTwoPrices(t *testing.T) {
	for bid := int64(-2); bid <= 140; bid++ {
		for ask := int64(-2); ask <= 140; ask++ {
			q := Quote{bid, 1, ask, 1000000}
			at, want := plainCheck(q, plainOn)
			checkCheck(t, q, fives, at, want)
			at, want = plainCheck(q, func(int64) bool { return true })
			checkCheck(t, q, all, at, want)
		}
	}
}

// TestP1501APriceIsAsAnOrders is so of tables that may not be, too.
func TestP1501APriceIsAsAnOrders(t *testing.T) {
	for _, g := range []grid.Table{all, fives, nil, {{From: 1, By: 10000}}, {{From: 1, By: 3}, {From: 1000000, By: 1}}, {{From: 2, By: 1}}, {{From: 1, By: 0}}} {
		for _, p := range append(prices(), 10001, 999998) {
			want := api.OK
			if f, ok := order.Check(order.Order{ID: 1, Side: api.Sell, Price: p, Qty: 1, Life: order.Day}, g).(*api.Fault); ok {
				want = f.Err.(api.Errno)
			}
			checkCheck(t, Quote{Bid: p, BidQty: 7}, g, 0, want)
			checkCheck(t, Quote{Ask: p, AskQty: 7}, g, 2, want)
		}
	}
}

// plain is a desk as the promise tells it: who has which number, on which side.
type plain []held

type held struct {
	s   Slot
	ask bool
	id  int64
}

// drop tells m without what f tells of.
func (m plain) drop(f func(h held) bool) plain { return slices.DeleteFunc(slices.Clone(m), f) }

// pair tells the numbers that a Slot has.
func (m plain) pair(s Slot) (bid, ask int64) {
	for _, h := range m {
		switch {
		case h.s == s && h.ask:
			ask = h.id
		case h.s == s:
			bid = h.id
		}
	}
	return bid, ask
}

// set tells m behind Set, number by number; the ask's first, so that the bid takes what is both.
func (m plain) set(s Slot, bid, ask int64) plain {
	m = m.drop(func(h held) bool { return h.s == s })
	for _, h := range []held{{s, true, ask}, {s, false, bid}} {
		if h.id > 0 {
			m = append(m.drop(func(o held) bool { return o.id == h.id }), h)
		}
	}
	return m
}

// whose tells the Slot that has a number.
func (m plain) whose(id int64) (Slot, bool) {
	for _, h := range m {
		if h.id == id {
			return h.s, true
		}
	}
	return Slot{}, false
}

// slots tells all that have a number, by Maker, then by Series.
func (m plain) slots() []Slot {
	var l []Slot
	for _, h := range m {
		if !slices.Contains(l, h.s) {
			l = append(l, h.s)
		}
	}
	sort.Slice(l, func(i, k int) bool {
		return l[i].Maker < l[k].Maker || l[i].Maker == l[k].Maker && l[i].Series < l[k].Series
	})
	return l
}

// numbers are those of orders that may be asked for: small ones, none, and far ones.
func numbers() []int64 {
	return []int64{least, -1 << 32, -7, -1, 0, 1, 2, 3, 4, 5, 6, 7, 8, 9, 10, 1 << 32, 1<<32 + 1, most}
}

// makers are numbers of makers, of series: all may be.
func makers() []int { return []int{0, 1, 2, 3, 64, -1, 1 << 32, 1<<32 + 1, least, most} }

// checkDesk asks whether d is as m tells it, by all that can be asked.
func checkDesk(t *testing.T, d *Desk, m plain) {
	t.Helper()
	ids := numbers()
	for _, h := range m {
		ids = append(ids, h.id)
	}
	for _, id := range ids {
		want, is := m.whose(id)
		if got, ok := d.Whose(id); got != want || ok != is {
			t.Errorf("Whose(%d): %v, %v; want %v, %v", id, got, ok, want, is)
		}
	}
	slots := m.slots()
	of := map[int][]Slot{}
	for _, s := range slots {
		of[s.Maker] = append(of[s.Maker], s)
		checkGet(t, d, m, s)
	}
	for maker, want := range of {
		checkOf(t, d, maker, want)
	}
	for _, maker := range makers() {
		checkOf(t, d, maker, of[maker])
		for _, series := range makers() {
			checkGet(t, d, m, Slot{maker, series})
		}
	}
	if d.Len() != len(slots) {
		t.Errorf("Len: %d; want %d", d.Len(), len(slots))
	}
}

func checkGet(t *testing.T, d *Desk, m plain, s Slot) {
	t.Helper()
	wantBid, wantAsk := m.pair(s)
	is := wantBid != 0 || wantAsk != 0
	if bid, ask, ok := d.Get(s); bid != wantBid || ask != wantAsk || ok != is {
		t.Errorf("Get(%v): %d, %d, %v; want %d, %d, %v", s, bid, ask, ok, wantBid, wantAsk, is)
	}
}

func checkOf(t *testing.T, d *Desk, maker int, want []Slot) {
	t.Helper()
	if got := d.Of(maker); !slices.Equal(got, want) {
		t.Errorf("Of(%d): %v; want %v", maker, got, want)
	}
}

// The calls that change a desk, each held against m, which is told as it is then.

func checkSet(t *testing.T, d *Desk, m plain, s Slot, bid, ask int64) plain {
	t.Helper()
	wantBid, wantAsk := m.pair(s)
	if oldBid, oldAsk := d.Set(s, bid, ask); oldBid != wantBid || oldAsk != wantAsk {
		t.Errorf("Set(%v, %d, %d) of %v: %d, %d; want %d, %d", s, bid, ask, m, oldBid, oldAsk, wantBid, wantAsk)
	}
	return m.set(s, bid, ask)
}

func checkForget(t *testing.T, d *Desk, m plain, id int64) plain {
	t.Helper()
	want, is := m.whose(id)
	if got, ok := d.Forget(id); got != want || ok != is {
		t.Errorf("Forget(%d) of %v: %v, %v; want %v, %v", id, m, got, ok, want, is)
	}
	return m.drop(func(h held) bool { return h.id == id })
}

func checkClear(t *testing.T, d *Desk, m plain, s Slot) plain {
	t.Helper()
	rest := m.drop(func(h held) bool { return h.s == s })
	if got := d.Clear(s); got != (len(rest) < len(m)) {
		t.Errorf("Clear(%v) of %v: %v", s, m, got)
	}
	return rest
}

// quoted tells a desk on which these are held, asked for all.
func quoted(t *testing.T, m plain) *Desk {
	t.Helper()
	d := New()
	if d == nil {
		t.Fatal("New: nil")
	}
	for _, s := range m.slots() {
		bid, ask := m.pair(s)
		d.Set(s, bid, ask)
	}
	checkDesk(t, d, m)
	return d
}

// few is quotes of two makers: with both sides, with one of them.
var few = plain{
	{Slot{3, 7}, false, 5}, {Slot{3, 7}, true, 6},
	{Slot{3, 2}, true, 2},
	{Slot{4, 7}, false, 9}, {Slot{4, 7}, true, 4},
	{Slot{3, 9}, false, 1},
}

func TestP1501ANewOneIsEmpty(t *testing.T) {
	d := quoted(t, nil)
	for _, id := range numbers() {
		checkForget(t, d, nil, id)
	}
	for _, maker := range makers() {
		checkClear(t, d, nil, Slot{maker, 1})
		checkSet(t, d, nil, Slot{maker, 1}, 0, 0)
	}
	checkDesk(t, d, nil)
}

func TestP1501SetTellsThoseThatWere(t *testing.T) {
	for _, c := range []struct {
		s              Slot
		bid, ask       int64
		wasBid, wasAsk int64
		nowBid, nowAsk int64
	}{
		{Slot{3, 7}, 10, 11, 5, 6, 10, 11},
		{Slot{3, 7}, 5, 6, 5, 6, 5, 6},   // the same ones
		{Slot{3, 7}, 6, 5, 5, 6, 6, 5},   // turned round
		{Slot{3, 7}, 5, 10, 5, 6, 5, 10}, // one stays
		{Slot{3, 7}, 10, 6, 5, 6, 10, 6},
		{Slot{3, 7}, 10, 5, 5, 6, 10, 5}, // one changes its side
		{Slot{3, 7}, 6, 10, 5, 6, 6, 10},
		{Slot{3, 7}, 0, 5, 5, 6, 0, 5},
		{Slot{3, 7}, 10, 0, 5, 6, 10, 0},
		{Slot{3, 7}, 0, 10, 5, 6, 0, 10},
		{Slot{3, 7}, 0, 0, 5, 6, 0, 0},
		{Slot{3, 7}, -5, -6, 5, 6, 0, 0}, // what is below 0 is none, not the one that is told so
		{Slot{3, 7}, least, most, 5, 6, 0, most},
		{Slot{3, 7}, most, least, 5, 6, most, 0},
		{Slot{3, 7}, 6, 6, 5, 6, 6, 0},
		{Slot{3, 7}, 10, 10, 5, 6, 10, 0},
		{Slot{3, 2}, 10, 11, 0, 2, 10, 11},
		{Slot{3, 9}, 0, 11, 1, 0, 0, 11},
		{Slot{4, 2}, 10, 11, 0, 0, 10, 11}, // had none
		{Slot{7, 3}, 10, 11, 0, 0, 10, 11}, // who is who: a maker's number is no series'
		{Slot{4, 2}, -1, 0, 0, 0, 0, 0},
		{Slot{4, 2}, 9, 4, 0, 0, 9, 4}, // another Slot's
		{Slot{4, 2}, 4, 9, 0, 0, 4, 9},
		{Slot{4, 2}, 9, 9, 0, 0, 9, 0},
		{Slot{4, 2}, 6, 2, 0, 0, 6, 2}, // two others'
		{Slot{3, 7}, 4, 1, 5, 6, 4, 1},
	} {
		d := quoted(t, few)
		if bid, ask := d.Set(c.s, c.bid, c.ask); bid != c.wasBid || ask != c.wasAsk {
			t.Errorf("Set(%v, %d, %d): %d, %d; want %d, %d", c.s, c.bid, c.ask, bid, ask, c.wasBid, c.wasAsk)
		}
		if bid, ask, ok := d.Get(c.s); bid != c.nowBid || ask != c.nowAsk || ok != (bid+ask != 0) {
			t.Errorf("Get(%v) behind %d, %d: %d, %d, %v; want %d, %d", c.s, c.bid, c.ask, bid, ask, ok, c.nowBid, c.nowAsk)
		}
		checkDesk(t, d, few.set(c.s, c.bid, c.ask))
	}
}

func TestP1501ANumberIsTakenFromWhoHasIt(t *testing.T) {
	d := quoted(t, few)
	d.Set(Slot{5, 5}, 6, 2) // the ask of one, and all that another had
	checkDesk(t, d, plain{{Slot{3, 7}, false, 5}, {Slot{4, 7}, false, 9}, {Slot{4, 7}, true, 4}, {Slot{3, 9}, false, 1}, {Slot{5, 5}, false, 6}, {Slot{5, 5}, true, 2}})
	d.Set(Slot{3, 7}, 0, 6) // which is its own no more: so 5 was all that it had
	checkDesk(t, d, plain{{Slot{4, 7}, false, 9}, {Slot{4, 7}, true, 4}, {Slot{3, 9}, false, 1}, {Slot{3, 7}, true, 6}, {Slot{5, 5}, true, 2}})
	d.Set(Slot{3, 9}, 9, 4) // all that another had
	checkDesk(t, d, plain{{Slot{3, 9}, false, 9}, {Slot{3, 9}, true, 4}, {Slot{3, 7}, true, 6}, {Slot{5, 5}, true, 2}})
}

func TestP1501ForgetTakesOneNumber(t *testing.T) {
	for _, id := range numbers() {
		d := quoted(t, few)
		m := checkForget(t, d, few, id)
		checkDesk(t, d, m)
		checkForget(t, d, m, id) // no one's any more
		checkDesk(t, d, m)
	}
}

func TestP1501ASlotWithoutNumbersIsGone(t *testing.T) {
	for _, ids := range [][]int64{{5, 6}, {6, 5}, {9, 4}, {4, 9}, {2}, {1}, {2, 1, 6, 5}, {5, 2, 6, 1}, {5, 6, 2, 9, 4, 1}} {
		d, m := quoted(t, few), few
		for _, id := range ids {
			m = checkForget(t, d, m, id)
			checkDesk(t, d, m)
		}
		m = checkClear(t, d, m, Slot{3, 7})
		m = checkSet(t, d, m, Slot{3, 7}, ids[0], 0) // a number that was forgotten is as good as any
		checkDesk(t, d, m)
	}
}

func TestP1501ClearTakesAllOfASlot(t *testing.T) {
	for _, s := range append(few.slots(), Slot{7, 3}, Slot{3, 3}, Slot{4, 2}, Slot{}, Slot{1<<32 + 3, 7}, Slot{3, 1<<32 + 7}) {
		d := quoted(t, few)
		m := checkClear(t, d, few, s)
		checkDesk(t, d, m)
		checkClear(t, d, m, s) // now there is nothing
		checkDesk(t, d, m)
	}
}

func TestP1501SetOfNoneIsAsClear(t *testing.T) {
	for _, s := range append(few.slots(), Slot{4, 2}) {
		for _, bid := range []int64{0, -1, -5, least} {
			for _, ask := range []int64{0, -1, -6, least} {
				d := quoted(t, few)
				m := checkSet(t, d, few, s, bid, ask)
				cleared := few.drop(func(h held) bool { return h.s == s })
				if !slices.Equal(m, cleared) {
					t.Fatalf("the plain reading is none: %v; want %v", m, cleared)
				}
				checkDesk(t, d, cleared)
			}
		}
	}
}

func TestP1501OfGoesBySeries(t *testing.T) {
	series := []int{64, 1, 0, -1, most, 10, 9, 2, least, 1 << 32, 3, 63}
	rising := slices.Clone(series)
	slices.Sort(rising)
	for turn := range series {
		d := New()
		var m plain
		for i := range series {
			n := series[(i*5+turn)%len(series)]
			m = checkSet(t, d, m, Slot{3, n}, int64(100+i), int64(200-i))
			m = checkSet(t, d, m, Slot{n, 3}, int64(300+i), 0)
		}
		var want []Slot
		for _, n := range rising {
			if n != 3 { // both have Slot{3, 3}
				checkOf(t, d, n, []Slot{{n, 3}})
			}
			want = append(want, Slot{3, n})
		}
		checkOf(t, d, 3, want)
		checkDesk(t, d, m)
	}
}

func TestP1501AllQuotesThatMayBe(t *testing.T) {
	d := New()
	for maker := 64; maker >= 1; maker-- {
		for series := 64; series >= 1; series-- {
			n := int64(maker*1000 + series*10)
			d.Set(Slot{maker, series}, n, n+1)
		}
	}
	if d.Len() != 4096 {
		t.Errorf("Len: %d", d.Len())
	}
	for maker := 1; maker <= 64; maker++ {
		var want []Slot
		for series := 1; series <= 64; series++ {
			s, n := Slot{maker, series}, int64(maker*1000+series*10)
			want = append(want, s)
			for _, id := range []int64{n, n + 1} {
				if got, ok := d.Whose(id); got != s || !ok {
					t.Fatalf("Whose(%d): %v, %v; want %v", id, got, ok, s)
				}
			}
		}
		checkOf(t, d, maker, want)
	}
	for maker := 1; maker <= 64; maker++ {
		for _, s := range d.Of(maker) {
			if !d.Clear(s) {
				t.Fatalf("Clear(%v): false", s)
			}
		}
	}
	checkDesk(t, d, nil)
}

// TestP1501EveryThreeSets goes through all rows of three Sets of few numbers in two Slots, and what can be said behind them.
func TestP1501EveryThreeSets(t *testing.T) {
	type say struct {
		s        Slot
		bid, ask int64
	}
	var says []say
	for _, s := range []Slot{{1, 2}, {2, 1}} {
		for bid := int64(0); bid <= 3; bid++ {
			for ask := int64(0); ask <= 3; ask++ {
				says = append(says, say{s, bid, ask})
			}
		}
	}
	for i := range len(says) * len(says) * len(says) {
		d, m := New(), plain(nil)
		for _, a := range []say{says[i%32], says[i/32%32], says[i/1024]} {
			m = checkSet(t, d, m, a.s, a.bid, a.ask)
		}
		for id := int64(-1); id <= 4; id++ {
			want, is := m.whose(id)
			if got, ok := d.Whose(id); got != want || ok != is {
				t.Errorf("Whose(%d) of %v: %v, %v", id, m, got, ok)
			}
		}
		checkGet(t, d, m, Slot{1, 2})
		checkGet(t, d, m, Slot{2, 1})
		m = checkForget(t, d, m, int64(i%5))
		m = checkClear(t, d, m, Slot{1 + i%2, 2 - i%2})
		if d.Len() != len(m.slots()) || len(d.Of(1))+len(d.Of(2)) != d.Len() {
			t.Errorf("Len of %v: %d", m, d.Len())
		}
		if t.Failed() { // enough is told
			return
		}
	}
}

func TestP1501IsThePlainReading(t *testing.T) {
	state := uint32(1)
	next := func(n int) int {
		state = state*1664525 + 1013904223
		return int(state>>8) % n
	}
	found := map[string]int{}
	for range 100 {
		d, m := New(), plain(nil)
		for range 60 {
			s, a, b := Slot{next(3), next(3)}, numbers()[next(18)], numbers()[next(18)]
			was := len(m)
			what := "set"
			switch next(6) {
			case 0:
				what = "forget"
				m = checkForget(t, d, m, a)
			case 1:
				what = "clear"
				m = checkClear(t, d, m, s)
			default:
				m = checkSet(t, d, m, s, a, b)
			}
			found[fmt.Sprintf("%s %v", what, len(m) < was)]++ // are there fewer numbers now?
			checkDesk(t, d, m)
			if t.Failed() { // enough is told
				return
			}
		}
	}
	for _, what := range []string{"set true", "set false", "forget true", "forget false", "clear true", "clear false"} {
		if found[what] < 100 {
			t.Errorf("only %d of %s", found[what], what)
		}
	}
}

func TestP1AnyTableIsAnswered(t *testing.T) {
	steps := []grid.Step{{}, {From: 1, By: 0}, {From: 1, By: -1}, {From: least, By: least}, {From: most, By: most}, {From: 1, By: least}, {From: 1, By: 5}}
	for _, a := range steps {
		for _, b := range steps {
			for _, p := range prices() {
				Check(Quote{p, 1, p, 1}, grid.Table{a, b})
			}
		}
	}
	Check(good, nil)
	Check(good, make(grid.Table, 100000))
}

func TestP1AnyNumbersAreAnswered(t *testing.T) {
	for _, d := range []*Desk{New(), {}} { // one that New did not make is empty, too
		var m plain
		for _, x := range makers() {
			for _, y := range numbers() {
				s := Slot{x, int(y)}
				m = checkSet(t, d, m, s, y, int64(x))
				m = checkForget(t, d, m, int64(x))
				m = checkSet(t, d, m, Slot{int(y), x}, int64(x), y)
				m = checkClear(t, d, m, s)
			}
		}
		checkDesk(t, d, m)
	}
	d := &Desk{}
	checkForget(t, d, nil, 1)
	checkClear(t, d, nil, Slot{})
	checkSet(t, d, nil, Slot{1, 1}, 0, 0)
	checkDesk(t, d, nil)
}

func TestP2ATableIsNotChanged(t *testing.T) {
	room := make(grid.Table, 2, 5)
	copy(room, fives)
	whole := room[:cap(room)]
	for i := 2; i < len(whole); i++ {
		whole[i] = grid.Step{From: -9, By: -9}
	}
	was := slices.Clone(whole)
	for _, p := range prices() {
		Check(Quote{p, 1, p, 1}, room)
	}
	if !slices.Equal(whole, was) {
		t.Errorf("%v; was %v", whole, was)
	}
	g := slices.Clone(fives)
	checkCheck(t, with(func(q *Quote) { q.Bid = 12 }), g, 0, api.ErrGrid)
	g[0].By = 1 // the table is not kept: what it is now counts
	checkCheck(t, with(func(q *Quote) { q.Bid = 12 }), g, 0, api.OK)
}

func TestP2FaultsAreTheCallersOwn(t *testing.T) {
	for _, bad := range []Quote{with(func(q *Quote) { q.Bid = 12 }), with(func(q *Quote) { q.AskQty = -1 }), with(func(q *Quote) { q.Ask = 6 })} {
		at, want := plainCheck(bad, plainOn)
		f := Check(bad, fives).(*api.Fault)
		*f = api.Fault{Part: "x", At: -9}
		checkCheck(t, bad, fives, at, want)
	}
}

func TestP2AnswersAreNewMemory(t *testing.T) {
	d := quoted(t, few)
	want := []Slot{{3, 2}, {3, 7}, {3, 9}}
	one, again, other := d.Of(3), d.Of(3), d.Of(4)
	for _, l := range [][]Slot{one, other} { // spoilt, their spare room too
		whole := l[:cap(l)]
		for i := range whole {
			whole[i] = Slot{-9, -9}
		}
	}
	if !slices.Equal(again, want) {
		t.Errorf("two lists share memory: %v", again)
	}
	checkDesk(t, d, few)
	d.Clear(Slot{3, 2})
	d.Set(Slot{3, 1}, 10, 0)
	if !slices.Equal(again, want) {
		t.Errorf("what was answered changes with what is kept: %v", again)
	}
}

// look tells all that can be asked of a desk, of a few numbers alone.
func look(d *Desk) string {
	var b strings.Builder
	fmt.Fprintln(&b, "len", d.Len())
	for _, id := range numbers() {
		s, ok := d.Whose(id)
		fmt.Fprintln(&b, "whose", id, s, ok)
	}
	for _, maker := range makers() {
		fmt.Fprintln(&b, "of", maker, d.Of(maker))
		for _, series := range makers() {
			bid, ask, ok := d.Get(Slot{maker, series})
			fmt.Fprintln(&b, "get", maker, series, bid, ask, ok)
		}
	}
	return b.String()
}

// run tells what a desk answers to some calls, with something else ahead of each.
func run(ahead func(d *Desk)) string {
	var b strings.Builder
	d := New()
	for n := range 40 {
		ahead(d)
		bid, ask := d.Set(Slot{n % 3, n % 4}, int64(n%7), int64(n%5))
		fmt.Fprintln(&b, bid, ask, look(d))
		ahead(d)
		s, ok := d.Forget(int64(n % 6))
		fmt.Fprintln(&b, s, ok, look(d))
		if n%4 == 0 {
			ahead(d)
			fmt.Fprintln(&b, d.Clear(Slot{n % 5, n % 2}), look(d))
		}
	}
	return b.String()
}

func TestP3TheSameCallsAnswerTheSame(t *testing.T) {
	first := run(func(*Desk) {})
	for range 5 {
		if told := run(func(*Desk) {}); told != first {
			t.Fatalf("%s; the first time %s", told, first)
		}
	}
}

func TestP5WhatIsAskedOrFindsNothingChangesNothing(t *testing.T) {
	want := run(func(*Desk) {})
	for what, ahead := range map[string]func(d *Desk){
		"asking": func(d *Desk) { look(d) },
		"a Forget and a Clear of nothing": func(d *Desk) {
			for _, id := range []int64{least, -1, 0, 50, most} {
				d.Forget(id)
			}
			for _, s := range []Slot{{9, 9}, {-1, 0}, {0, most}} {
				d.Clear(s)
				d.Set(s, 0, -1)
			}
		},
		"a Set of the same": func(d *Desk) {
			for maker := range 3 {
				for _, s := range d.Of(maker) {
					bid, ask, _ := d.Get(s)
					d.Set(s, bid, ask)
				}
			}
		},
		"a Check": func(*Desk) { Check(Quote{}, nil); Check(Quote{BidQty: -1}, fives) },
		"a New": func(*Desk) {
			d := New()
			d.Set(Slot{1, 1}, 1, 2)
			d.Forget(1)
		},
	} {
		if got := run(ahead); got != want {
			t.Errorf("%s changed something", what)
		}
	}
}

func TestP7DesksAreTheCallersOwn(t *testing.T) {
	d, other := New(), New()
	if d == other {
		t.Error("one desk for two")
	}
	m := checkSet(t, d, nil, Slot{1, 1}, 1, 2)
	checkDesk(t, other, nil)
	n := checkSet(t, other, nil, Slot{2, 2}, 1, 2) // the same numbers: they are another desk's
	n = checkForget(t, other, n, 1)
	checkDesk(t, d, m)
	checkDesk(t, other, n)
}
