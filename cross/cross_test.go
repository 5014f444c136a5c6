package cross

import (
	"fmt"
	"math"
	"slices"
	"strings"
	"testing"

	"straddle/alloc"
	"straddle/api"
	"straddle/book"
	"straddle/cbook"
	"straddle/grid"
	"straddle/legin"
	"straddle/legs"
	"straddle/match"
	"straddle/order"
	"straddle/tops"
)

const (
	most    = math.MaxInt64
	least   = math.MinInt64
	mostNet = 16000000
)

// made tells legs of series, sign and ratio, one leg behind the other.
func made(x ...int64) []legs.Leg {
	var l []legs.Leg
	for ; len(x) > 0; x = x[3:] {
		l = append(l, legs.Leg{Series: int(x[0]), Sign: int(x[1]), Ratio: x[2]})
	}
	return l
}

// walk tells numbers below n, each time the same row of them.
func walk(seed uint32) func(n int) int64 {
	return func(n int) int64 {
		seed = seed*1664525 + 1013904223
		return int64(seed>>8) % int64(n)
	}
}

// member and customer tell orders of the two kinds.
func member(id int64, side int, price, qty int64) order.Order {
	return order.Order{ID: id, Side: side, Price: price, Qty: qty, Life: order.Day}
}

func customer(id int64, side int, price, qty int64) order.Order {
	return order.Order{ID: id, Side: side, Price: price, Qty: qty, Life: order.Day, Cust: true}
}

// filled tells a book in which these wait.
func filled(t *testing.T, orders ...order.Order) *book.Book {
	t.Helper()
	b := book.New()
	for _, o := range orders {
		if wrong := b.Insert(o); wrong != api.OK {
			t.Fatalf("Insert of %+v: %v", o, wrong)
		}
	}
	return b
}

// waits tells a book of strategies in which these wait.
func waits(t *testing.T, orders ...cbook.Order) *cbook.Book {
	t.Helper()
	c := cbook.New()
	for _, o := range orders {
		if wrong := c.Insert(o); wrong != api.OK {
			t.Fatalf("Insert of %+v: %v", o, wrong)
		}
	}
	return c
}

// buy and sell tell orders for a strategy.
func buy(id, net, units int64) cbook.Order {
	return cbook.Order{ID: id, Owner: 3, Side: api.Buy, Net: net, Units: units}
}

func sell(id, net, units int64) cbook.Order {
	return cbook.Order{ID: id, Owner: 4, Side: api.Sell, Net: net, Units: units}
}

// scene is all that a call is asked of, beside the order.
type scene struct {
	l []legs.Leg
	b []*book.Book
	g []grid.Table
	c *cbook.Book
}

// by tells a grid of one Step.
func by(n int64) grid.Table { return grid.Table{{From: 1, By: n}} }

// spread is one unit of series 1 bought and of series 2 sold, 10 to 13 and 4 to 6: it is had for 9, twice, and
// sold for 4, three times; behind that 14 and 3 wait, and 9 and 8.
func spread(t *testing.T, rest ...cbook.Order) scene {
	t.Helper()
	return scene{
		l: made(1, 1, 1, 2, -1, 1),
		b: []*book.Book{
			filled(t, member(1, api.Buy, 10, 3), member(2, api.Sell, 13, 2), member(5, api.Sell, 14, 4), member(7, api.Buy, 9, 20)),
			filled(t, member(3, api.Buy, 4, 5), member(4, api.Sell, 6, 9), member(6, api.Buy, 3, 10), member(8, api.Sell, 8, 20)),
		},
		g: []grid.Table{by(1), by(1)},
		c: waits(t, rest...),
	}
}

// few is four of series 1 bought and of series 2 sold, 10 to 11 and 5 to 6, of which only three are there: it is not
// had in the books, and there are prices for 16, 20 and 24 alone.
func few(t *testing.T, rest ...cbook.Order) scene {
	t.Helper()
	return scene{
		l: made(1, 1, 4, 2, -1, 4),
		b: []*book.Book{
			filled(t, member(1, api.Buy, 10, 3), member(2, api.Sell, 11, 3)),
			filled(t, member(3, api.Buy, 5, 3), member(4, api.Sell, 6, 3)),
		},
		g: []grid.Table{by(1), by(1)},
		c: waits(t, rest...),
	}
}

// twin tells a scene in which all is as in s, and that goes its own way.
func (s scene) twin() scene {
	c := cbook.New()
	for _, o := range slices.Concat(s.c.Row(api.Buy), s.c.Row(api.Sell)) {
		c.Insert(o)
	}
	w := scene{l: s.l, g: s.g, c: c}
	for _, x := range s.b {
		w.b = append(w.b, x.Twin())
	}
	return w
}

// look tells all that waits.
func (s scene) look() string { return s.lookBooks() + fmt.Sprint(s.c.Row(api.Buy), s.c.Row(api.Sell)) }

// lookBooks tells all that waits in the books of the legs.
func (s scene) lookBooks() string {
	var w strings.Builder
	for _, x := range s.b {
		fmt.Fprintln(&w, x.Len(), x.Row(api.Buy), x.Row(api.Sell), x.Levels(api.Buy), x.Levels(api.Sell))
	}
	return w.String()
}

// same tells whether two trades are.
func same(a, b Trade) bool {
	return a.Rest == b.Rest && a.Units == b.Units && a.Net == b.Net && slices.Equal(a.Prices, b.Prices) && slices.EqualFunc(a.Legs, b.Legs, slices.Equal)
}

// zero tells whether a trade is none.
func zero(a Trade) bool {
	return a.Rest == 0 && a.Units == 0 && a.Net == 0 && a.Prices == nil && a.Legs == nil
}

// met tells a trade with one who waits for the strategy.
func met(rest, units, net int64, prices ...int64) Trade {
	return Trade{Rest: rest, Units: units, Net: net, Prices: prices}
}

// fill tells one trade in a leg's book.
func fill(maker, taker, price, qty int64) match.Fill {
	return match.Fill{Maker: maker, Taker: taker, Price: price, Qty: qty}
}

// into tells a trade in the books of the legs, each leg's at one price.
func into(units, net int64, fills ...[]match.Fill) Trade {
	w := Trade{Units: units, Net: net, Legs: fills}
	for _, x := range fills {
		w.Prices = append(w.Prices, x[0].Price)
	}
	return w
}

// checkFind asks whether Find tells this trade (or a zero one: none), again so, and leaves all.
func checkFind(t *testing.T, s scene, o cbook.Order, want Trade) {
	t.Helper()
	was := s.look()
	for range 2 {
		got, ok := Find(s.l, s.b, s.g, s.c, o)
		if ok == zero(want) || !same(got, want) || got.Legs != nil || !ok && !zero(got) {
			t.Errorf("Find(%v, .., %+v): %+v, %v; want %+v; of %s", s.l, o, got, ok, want, was)
		}
	}
	if s.look() != was {
		t.Errorf("Find(%v, .., %+v) changed %s; was %s", s.l, o, s.look(), was)
	}
}

// checkStep asks whether Step tells this trade (or a zero one: none), and changes just what it should.
func checkStep(t *testing.T, s scene, o cbook.Order, want Trade) {
	t.Helper()
	was, books, rest := s.look(), s.lookBooks(), s.twin().c
	got, ok := Step(s.l, s.b, s.g, s.c, o)
	if ok == zero(want) || !same(got, want) || !ok && !zero(got) {
		t.Errorf("Step(%v, .., %+v): %+v, %v; want %+v; of %s", s.l, o, got, ok, want, was)
	}
	if !ok && s.look() != was {
		t.Errorf("Step(%v, .., %+v), which is none, changed %s; was %s", s.l, o, s.look(), was)
	}
	if want.Rest != 0 {
		rest.Reduce(want.Rest, want.Units)
		if s.lookBooks() != books || got.Legs != nil {
			t.Errorf("Step(%v, .., %+v) of %+v changed the legs' books: %s; was %s", s.l, o, got, s.look(), was)
		}
	}
	if (scene{c: rest}).look() != (scene{c: s.c}).look() {
		t.Errorf("Step(%v, .., %+v) of %+v leaves %s; was %s", s.l, o, got, s.look(), was)
	}
}

// checkRun asks whether Run tells these trades, and so many units left.
func checkRun(t *testing.T, s scene, o cbook.Order, left int64, want ...Trade) {
	t.Helper()
	was := s.look()
	got, units := Run(s.l, s.b, s.g, s.c, o)
	if units != left || !slices.EqualFunc(got, want, same) {
		t.Errorf("Run(%v, .., %+v): %+v, %d; want %+v, %d; of %s", s.l, o, got, units, want, left, was)
	}
	if len(want) == 0 && s.look() != was {
		t.Errorf("Run(%v, .., %+v) without a trade changed %s; was %s", s.l, o, s.look(), was)
	}
}

// checkIdle asks whether Idle tells this, again so, and leaves all.
func checkIdle(t *testing.T, s scene, want bool) {
	t.Helper()
	was := s.look()
	for range 2 {
		if got := Idle(s.l, s.b, s.g, s.c); got != want {
			t.Errorf("Idle(%v, ..): %v; of %s", s.l, got, was)
		}
	}
	if s.look() != was {
		t.Errorf("Idle(%v, ..) changed %s; was %s", s.l, s.look(), was)
	}
}

func TestP2301FindWordForWord(t *testing.T) {
	for _, c := range []struct {
		name string
		rest []cbook.Order
		o    cbook.Order
		want Trade
	}{
		{"nobody waits", nil, buy(99, 9, 1), Trade{}},
		{"one who would have no more than it pays", []cbook.Order{sell(50, 6, 4)}, buy(99, 6, 7), met(50, 4, 6, 12, 6)},
		{"one who would have less", []cbook.Order{sell(50, 6, 4)}, buy(99, mostNet, 7), met(50, 4, 6, 12, 6)},
		{"one who would have one more", []cbook.Order{sell(50, 6, 4)}, buy(99, 5, 7), Trade{}},
		{"one who pays no less than it would have", []cbook.Order{buy(50, 6, 4)}, sell(99, 6, 7), met(50, 4, 6, 12, 6)},
		{"one who pays more", []cbook.Order{buy(50, 6, 4)}, sell(99, -mostNet, 7), met(50, 4, 6, 12, 6)},
		{"one who pays one less", []cbook.Order{buy(50, 6, 4)}, sell(99, 7, 7), Trade{}},
		{"only who buys too", []cbook.Order{buy(50, 6, 4)}, buy(99, 6, 7), Trade{}},
		{"only who sells too", []cbook.Order{sell(50, 6, 4)}, sell(99, 6, 7), Trade{}},
		{"fewer units than the one who waits", []cbook.Order{sell(50, 6, 4)}, buy(99, 6, 3), met(50, 3, 6, 12, 6)},
		{"as many units", []cbook.Order{sell(50, 6, 4)}, buy(99, 6, 4), met(50, 4, 6, 12, 6)},
		{"one unit of a million", []cbook.Order{buy(50, 6, 1000000)}, sell(99, 6, 1), met(50, 1, 6, 12, 6)},
		{"a million units of a million", []cbook.Order{buy(50, 6, 1000000)}, sell(99, 6, 1000000), met(50, 1000000, 6, 12, 6)},
		{"the least net first", []cbook.Order{sell(50, 8, 4), sell(51, 7, 4), sell(52, 6, 9)}, buy(99, 9, 7), met(52, 7, 6, 12, 6)},
		{"the greatest net first", []cbook.Order{buy(50, 5, 4), buy(51, 7, 9), buy(52, 6, 4)}, sell(99, 4, 7), met(51, 7, 7, 13, 6)},
		{"of the same net the least ID", []cbook.Order{sell(52, 6, 1), sell(50, 6, 2), sell(51, 6, 3)}, buy(99, 9, 7), met(50, 2, 6, 12, 6)},
		{"no prices for the first one", []cbook.Order{sell(50, 3, 4), sell(51, 7, 5)}, buy(99, 8, 7), met(51, 5, 7, 13, 6)},
		{"no prices for the first ones", []cbook.Order{buy(50, 10, 4), buy(51, 11, 5), buy(52, 8, 5)}, sell(99, 8, 7), met(52, 5, 8, 13, 5)},
		{"prices for one alone, whose net it does not take", []cbook.Order{sell(50, 3, 4), sell(51, 7, 5)}, buy(99, 6, 7), Trade{}},
		{"prices for none", []cbook.Order{buy(50, 10, 4), buy(51, 11, 5), buy(52, -1, 5)}, sell(99, -8, 7), Trade{}},
		{"at what the legs are had for", []cbook.Order{sell(50, 9, 4)}, buy(99, 9, 7), met(50, 4, 9, 13, 4)},
		{"at what the legs are sold for", []cbook.Order{sell(50, 4, 4)}, buy(99, 9, 7), met(50, 4, 4, 10, 6)},
		{"both sides wait", []cbook.Order{sell(50, 8, 4), buy(51, 5, 4), sell(52, 7, 4), buy(53, 6, 4)}, sell(99, 5, 7), met(53, 4, 6, 12, 6)},
	} {
		t.Run(c.name, func(t *testing.T) { checkFind(t, spread(t, c.rest...), c.o, c.want) })
	}
}

func TestP2301FindGoesByTheOrdersSideNetAndUnitsAlone(t *testing.T) {
	s := spread(t, sell(50, 6, 4), buy(51, 5, 3), cbook.Order{ID: 52, Owner: 8, Side: api.Sell, Net: 6, Units: 9})
	for _, n := range []int64{0, 1, 50, 51, 52, 99, -1, least, most} { // also those who wait themselves, and one's own
		checkFind(t, s, cbook.Order{ID: n, Owner: int(n), Side: api.Buy, Net: 6, Units: 7}, met(50, 4, 6, 12, 6))
		checkFind(t, s, cbook.Order{ID: n, Owner: 4, Side: api.Buy, Net: 6, Units: 7}, met(50, 4, 6, 12, 6))
		checkFind(t, s, cbook.Order{ID: n, Owner: int(n), Side: api.Sell, Net: 5, Units: 7}, met(51, 3, 5, 11, 6))
	}
}

// TestP2301FindAmongTheFirst64 lets so many wait ahead of the one that can trade, whose prices are none.
func TestP2301FindAmongTheFirst64(t *testing.T) {
	for ahead := range 70 {
		sells, buys := spread(t), spread(t)
		for i := range ahead {
			sells.c.Insert(sell(int64(200+i), int64(3-i%3), 1))
			buys.c.Insert(buy(int64(200+i), int64(10+i%3), 1))
		}
		sells.c.Insert(sell(100, 7, 5)) // however small its ID is
		buys.c.Insert(buy(100, 7, 5))
		var want Trade
		if ahead < 64 {
			want = met(100, 2, 7, 13, 6)
		}
		checkFind(t, sells, buy(99, 9, 2), want)
		checkFind(t, buys, sell(99, 5, 2), want)
		checkStep(t, sells.twin(), buy(99, 8, 2), want)
		checkStep(t, buys.twin(), sell(99, 5, 2), want)
	}
}

// TestP2301IdleAmongTheFirst64 lets as many wait ahead of the only one that can be had, by one whose own net has no prices.
func TestP2301IdleAmongTheFirst64(t *testing.T) {
	for ahead := range 70 {
		sells, buys := few(t, buy(300, 21, 1), sell(100, 20, 1)), few(t, sell(300, 19, 1), buy(100, 20, 1))
		for i := range ahead {
			sells.c.Insert(sell(int64(200+i), int64(19-i%3), 1))
			buys.c.Insert(buy(int64(200+i), int64(21+i%3), 1))
		}
		checkIdle(t, sells, ahead >= 64)
		checkIdle(t, buys, ahead >= 64)
	}
}

// TestP2301TheFirst64AreOfTheOtherSide lets many wait on the order's own side, and behind.
func TestP2301TheFirst64AreOfTheOtherSide(t *testing.T) {
	s := spread(t)
	for i := range 100 {
		s.c.Insert(buy(int64(100+i), 3, 1))
		s.c.Insert(sell(int64(300+i), 12, 1))
	}
	s.c.Insert(sell(50, 8, 5))
	checkFind(t, s, buy(99, 8, 9), met(50, 5, 8, 13, 5))
	s.c.Insert(buy(51, 5, 5))
	checkFind(t, s, sell(99, 5, 9), met(51, 5, 5, 11, 6))
}

func TestP2301FindOfASideThatIsNone(t *testing.T) {
	s := spread(t, buy(50, 6, 4), sell(51, 7, 4), buy(52, 4, 4), sell(53, 9, 4))
	for _, side := range []int{0, -1, -2, 3, 4, 5, 1 << 32, 1<<32 + 1, 1<<32 + 2, most, most - 1, least, least + 1, least + 2, least + 3} {
		for _, net := range []int64{-mostNet, 4, 6, 7, 9, mostNet} {
			o := cbook.Order{ID: 99, Side: side, Net: net, Units: 3}
			checkFind(t, s, o, Trade{})
			checkStep(t, s, o, Trade{})
			checkRun(t, s, o, 3)
		}
	}
}

// TestP2301FindPassesNoCustomerBy lets customers rest at the tops, at whose own prices no leg trades.
func TestP2301FindPassesNoCustomerBy(t *testing.T) {
	tight := func(c *cbook.Book, orders ...order.Order) scene {
		s := spread(t)
		s.c = c
		for _, o := range orders {
			if b := s.b[(o.ID-20)/10]; b.Insert(o) != api.OK {
				t.Fatalf("Insert of %+v", o)
			}
		}
		return s
	}
	rest := waits(t, sell(50, 8, 4))
	checkFind(t, tight(rest), buy(99, 9, 1), met(50, 1, 8, 13, 5))
	checkFind(t, tight(rest, customer(20, api.Sell, 13, 1)), buy(99, 9, 1), met(50, 1, 8, 12, 4))
	checkFind(t, tight(rest, customer(20, api.Sell, 13, 1), customer(30, api.Buy, 4, 1)), buy(99, 9, 1), Trade{})
	checkFind(t, tight(rest, customer(20, api.Sell, 14, 1), customer(30, api.Buy, 3, 1)), buy(99, 9, 1), met(50, 1, 8, 13, 5))
	checkFind(t, tight(waits(t, sell(50, 8, 4), sell(51, 7, 2)), customer(20, api.Sell, 13, 1), customer(30, api.Buy, 4, 1)), buy(99, 9, 1), met(51, 1, 7, 12, 5))
	edge := waits(t, buy(50, 9, 4)) // at the net of the books alone
	checkFind(t, tight(edge), sell(99, 9, 1), met(50, 1, 9, 13, 4))
	checkFind(t, tight(edge, customer(20, api.Sell, 13, 1)), sell(99, 9, 1), Trade{})
	checkFind(t, tight(edge, customer(30, api.Buy, 4, 1)), sell(99, 9, 1), Trade{})
}

// TestP2301FindGoesByTheGrids lets prices be on grids each leg has one of.
func TestP2301FindGoesByTheGrids(t *testing.T) {
	s := spread(t, sell(50, 8, 4), sell(51, 9, 4))
	s.g = []grid.Table{{{From: 1, By: 3}}, by(1)} // 10, 13
	checkFind(t, s, buy(99, 9, 1), met(50, 1, 8, 13, 5))
	s.g = []grid.Table{{{From: 1, By: 3}}, {{From: 1, By: 1}, {From: 4, By: 2}}} // 10, 13; 4, 6
	checkFind(t, s, buy(99, 9, 1), met(51, 1, 9, 13, 4))
	s.g = []grid.Table{by(1), {{From: 1, By: 1}, {From: 4, By: 2}}}
	checkFind(t, s, buy(99, 9, 1), met(50, 1, 8, 12, 4))
	s.g = []grid.Table{by(10000), by(10000)} // 13 and 4 aren't On
	checkFind(t, s, buy(99, 9, 1), Trade{})
	s.g = []grid.Table{by(1), {}} // which Check refuses
	checkFind(t, s, buy(99, 9, 1), Trade{})
	checkStep(t, s, buy(99, 9, 1), into(1, 9, []match.Fill{fill(2, 99, 13, 1)}, []match.Fill{fill(3, 99, 4, 1)}))
}

// TestP2301FindWithinTheirMoves lets prices be far from where the legs start.
func TestP2301FindWithinTheirMoves(t *testing.T) {
	s := scene{
		l: made(1, 1, 1, 2, 1, 1),
		b: []*book.Book{filled(t, member(1, api.Buy, 10, 3), member(2, api.Sell, 100, 2)), filled(t, member(3, api.Buy, 10, 3), member(4, api.Sell, 100, 2))},
		g: []grid.Table{by(1), by(1)},
		c: waits(t, sell(50, 175, 1), sell(51, 176, 1)),
	}
	checkFind(t, s, buy(99, 200, 1), met(51, 1, 176, 88, 88)) // twelve moves each; 175 is one more
	s.c.Remove(51)
	checkFind(t, s, buy(99, 200, 1), Trade{})
	checkStep(t, s, buy(99, 199, 1), Trade{})
	checkStep(t, s, buy(99, 200, 1), into(1, 200, []match.Fill{fill(2, 99, 100, 1)}, []match.Fill{fill(4, 99, 100, 1)}))
}

// TestP2301CountsThatAreNotAlike hands in books and grids that are not as many as legs.
func TestP2301CountsThatAreNotAlike(t *testing.T) {
	for _, l := range [][]legs.Leg{made(1, 1, 1, 2, 1, 1), made(1, 1, 1, 2, -1, 1, 3, 1, 2), made(4, 1, 1, 3, 1, 1, 2, -1, 1, 1, 1, 4)} {
		for n := range 7 {
			for m := range 7 {
				s := scene{l: l, c: waits(t)}
				for range n {
					s.b = append(s.b, filled(t, member(1, api.Buy, 10, 700), member(2, api.Sell, 12, 700)))
				}
				for range m {
					s.g = append(s.g, by(1))
				}
				prices := make([]int64, len(l))
				for i := range prices {
					prices[i] = 11
				}
				net, _ := legs.Net(l, prices)
				s.c.Insert(sell(50, net, 2))
				_, ok := Find(s.l, s.b, s.g, s.c, buy(99, net, 1))
				if ok != (n == len(l) && m == len(l)) {
					t.Errorf("%d books and %d grids of %v: %v", n, m, l, ok)
				}
				if n == len(l) {
					continue // grids are not asked by who goes into the books
				}
				checkFind(t, s, buy(99, mostNet, 1), Trade{})
				checkStep(t, s, buy(99, mostNet, 1), Trade{})
				checkRun(t, s, buy(99, mostNet, 1), 1)
				s.c.Insert(buy(51, mostNet, 2))
				checkIdle(t, s, true)
			}
		}
	}
}

// strange tells legs that are of all kinds, most of which may not be.
func strange() [][]legs.Leg {
	out := [][]legs.Leg{nil, {}, made(1, 1, 1), made(1, 1, 1, 2, 1, 1, 3, 1, 1, 4, 1, 1, 5, 1, 1), make([]legs.Leg, 3), make([]legs.Leg, 500)}
	few := []int64{0, 1, -1, 2, 4, 5, 1 << 32, most, least}
	for _, a := range few {
		for _, b := range few {
			for _, c := range few {
				out = append(out, made(a, b, c), made(a, b, c, 1, 1, 1), made(1, 1, 1, a, b, c), made(2, 1, 2, 7, -1, 4, c, b, a, 1, -1, 2))
			}
		}
	}
	return out
}

func TestP2301LegsThatCheckRefuses(t *testing.T) {
	refused := 0
	c := waits(t, sell(50, -mostNet, 1), sell(51, 22, 1), buy(52, mostNet, 1), buy(53, 22, 1))
	for _, l := range strange() {
		if legs.Check(l) == nil {
			continue
		}
		refused++
		s := scene{l: l, c: c}
		for range min(len(l), 6) {
			s.b = append(s.b, filled(t, member(1, api.Buy, 10, 700), member(2, api.Sell, 12, 700)))
			s.g = append(s.g, by(1))
		}
		checkFind(t, s, buy(99, mostNet, 1), Trade{})
		checkFind(t, s, sell(99, -mostNet, 1), Trade{})
		checkStep(t, s, buy(99, mostNet, 1), Trade{})
		checkRun(t, s, sell(99, -mostNet, 1), 1)
		checkIdle(t, s, true)
	}
	if refused < 1000 {
		t.Errorf("only %d of these are refused", refused)
	}
}

// TestP2301FindNetsAtTheirBounds trades at the greatest net that there is, and at the least.
func TestP2301FindNetsAtTheirBounds(t *testing.T) {
	for _, sign := range []int64{1, -1} {
		s := scene{l: made(1, sign, 4, 2, sign, 4, 3, sign, 4, 4, sign, 4), c: waits(t, sell(50, sign*mostNet, 1000000))}
		for range 4 {
			s.b = append(s.b, filled(t, member(1, api.Buy, 999990, 1), member(2, api.Sell, 1000000, 1)))
			s.g = append(s.g, by(1))
		}
		checkFind(t, s, buy(99, sign*mostNet-1, 1), Trade{})
		if sign == 1 {
			checkFind(t, s, buy(99, mostNet, 1000000), met(50, 1000000, mostNet, 1000000, 1000000, 1000000, 1000000))
			continue
		}
		checkFind(t, s, buy(99, mostNet, 1000000), met(50, 1000000, -mostNet, 1000000, 1000000, 1000000, 1000000))
		checkFind(t, s, buy(99, -mostNet, 7), met(50, 7, -mostNet, 1000000, 1000000, 1000000, 1000000))
	}
}

// bought and sold are what spread is had for by 99 in the books, so many units of it.
func bought(units int64) Trade {
	return into(units, 9, []match.Fill{fill(2, 99, 13, units)}, []match.Fill{fill(3, 99, 4, units)})
}

func sold(units int64) Trade {
	return into(units, 4, []match.Fill{fill(1, 99, 10, units)}, []match.Fill{fill(4, 99, 6, units)})
}

func TestP2301StepWordForWord(t *testing.T) {
	for _, c := range []struct {
		name string
		rest []cbook.Order
		o    cbook.Order
		want Trade
	}{
		{"books alone, which have fewer", nil, buy(99, 9, 5), bought(2)},
		{"books alone, which have as many", nil, buy(99, 9, 2), bought(2)},
		{"books alone, which have more", nil, buy(99, 100, 1), bought(1)},
		{"books alone, sold", nil, sell(99, 4, 9), sold(3)},
		{"books alone, sold for less", nil, sell(99, -100, 2), sold(2)},
		{"neither, by one", nil, buy(99, 8, 5), Trade{}},
		{"neither, sold, by one", nil, sell(99, 5, 5), Trade{}},
		{"neither, though one waits", []cbook.Order{sell(50, 8, 3)}, buy(99, 7, 5), Trade{}},
		{"neither, though one waits who buys", []cbook.Order{buy(50, 5, 3)}, sell(99, 6, 5), Trade{}},
		{"one who waits alone", []cbook.Order{sell(50, 8, 3)}, buy(99, 8, 5), met(50, 3, 8, 13, 5)},
		{"one who waits alone, who buys", []cbook.Order{buy(50, 5, 3)}, sell(99, 5, 2), met(50, 2, 5, 11, 6)},
		{"who waits has one less", []cbook.Order{sell(50, 8, 4)}, buy(99, 9, 5), met(50, 4, 8, 13, 5)},
		{"who waits has the same", []cbook.Order{sell(50, 9, 4)}, buy(99, 9, 5), bought(2)},
		{"who waits has one more", []cbook.Order{sell(50, 10, 4)}, buy(99, 99, 5), bought(2)},
		{"who waits pays one more", []cbook.Order{buy(50, 5, 4)}, sell(99, 4, 5), met(50, 4, 5, 11, 6)},
		{"who waits pays the same", []cbook.Order{buy(50, 4, 4)}, sell(99, 4, 5), sold(3)},
		{"who waits pays one less", []cbook.Order{buy(50, 3, 4)}, sell(99, -99, 5), sold(3)},
		{"few units at the better net", []cbook.Order{sell(50, 8, 1)}, buy(99, 9, 5), met(50, 1, 8, 13, 5)},
		{"few units in the books, many of who waits, at the same", []cbook.Order{buy(50, 4, 1000000)}, sell(99, 4, 1000000), sold(3)},
		{"no prices for who waits ahead", []cbook.Order{sell(50, 3, 4), sell(51, 9, 4)}, buy(99, 9, 5), bought(2)},
		{"no prices for who waits ahead, but behind him", []cbook.Order{sell(50, 3, 4), sell(51, 8, 4)}, buy(99, 9, 5), met(51, 4, 8, 13, 5)},
		{"only the first of those who wait", []cbook.Order{sell(50, 5, 1), sell(51, 5, 1), sell(52, 6, 1)}, buy(99, 9, 5), met(50, 1, 5, 11, 6)},
		{"who waits on its own side is not asked", []cbook.Order{buy(50, 8, 3), buy(51, 9, 3)}, buy(99, 9, 5), bought(2)},
	} {
		t.Run(c.name, func(t *testing.T) { checkStep(t, spread(t, c.rest...), c.o, c.want) })
	}
}

// TestP2301StepReducesWhoWaits lets who waits be used up, and be left over.
func TestP2301StepReducesWhoWaits(t *testing.T) {
	for _, units := range []int64{1, 3, 4, 5, 1000000} {
		s := spread(t, sell(50, 8, 4), sell(51, 8, 6))
		checkStep(t, s, buy(99, 9, units), met(50, min(units, 4), 8, 13, 5))
		got, ok := s.c.Get(50)
		if ok != (units < 4) || ok && got != sell(50, 8, 4-units) {
			t.Errorf("%d units of 4 leave %+v, %v", units, got, ok)
		}
		if other, _ := s.c.Get(51); other != sell(51, 8, 6) {
			t.Errorf("%d units of 50's leave %+v", units, other)
		}
	}
}

// TestP2301StepIntoTheBooksTakesOrderByOrder commits a plan of unlike ratios, several makers and a customer among them.
func TestP2301StepIntoTheBooksTakesOrderByOrder(t *testing.T) {
	s := scene{
		l: made(1, 1, 2, 2, -1, 3),
		b: []*book.Book{
			filled(t, member(1, api.Buy, 10, 7), member(2, api.Sell, 12, 5), customer(3, api.Sell, 12, 4), member(4, api.Sell, 13, 50)),
			filled(t, member(5, api.Buy, 5, 4), customer(6, api.Buy, 5, 6), member(7, api.Sell, 6, 4)),
		},
		g: []grid.Table{by(1), by(1)},
		c: waits(t, sell(50, 9, 7), buy(51, 2, 7)),
	}
	checkStep(t, s, buy(99, 9, 8), into(3, 9, []match.Fill{fill(3, 99, 12, 4), fill(2, 99, 12, 2)}, []match.Fill{fill(6, 99, 5, 6), fill(5, 99, 5, 3)}))
	if left := fmt.Sprint(s.b[0].Levels(api.Sell), s.b[1].Levels(api.Buy)); left != "[{12 3 1} {13 50 1}] [{5 1 1}]" {
		t.Errorf("%s is left", left)
	}
	checkStep(t, s, buy(99, 9, 5), met(50, 5, 9, 12, 5)) // one that has the same is taken where the books have no unit any more
	checkStep(t, s, sell(99, 2, 8), into(1, 2, []match.Fill{fill(1, 99, 10, 2)}, []match.Fill{fill(7, 99, 6, 3)}))
}

func TestP2301RunWordForWord(t *testing.T) {
	behind := into(2, 11, []match.Fill{fill(5, 99, 14, 2)}, []match.Fill{fill(3, 99, 3, 2)})
	behind.Legs[1][0] = fill(6, 99, 3, 2)
	for _, c := range []struct {
		name string
		rest []cbook.Order
		o    cbook.Order
		left int64
		want []Trade
	}{
		{"nothing", nil, buy(99, 8, 5), 5, nil},
		{"one step, used up by it", nil, buy(99, 9, 2), 0, []Trade{bought(2)}},
		{"one step, with some left", nil, buy(99, 9, 3), 1, []Trade{bought(2)}},
		{"through who waits, then the books", []cbook.Order{sell(50, 8, 3), sell(51, 9, 1)}, buy(99, 9, 9), 3, []Trade{met(50, 3, 8, 13, 5), bought(2), met(51, 1, 9, 14, 5)}},
		{"as far as its units go", []cbook.Order{sell(50, 8, 3), sell(51, 9, 1)}, buy(99, 9, 4), 0, []Trade{met(50, 3, 8, 13, 5), bought(1)}},
		{"just as far as its units go", []cbook.Order{sell(50, 8, 3), sell(51, 9, 1)}, buy(99, 9, 3), 0, []Trade{met(50, 3, 8, 13, 5)}},
		{"not even used up by the first one", []cbook.Order{sell(50, 8, 3)}, buy(99, 9, 2), 0, []Trade{met(50, 2, 8, 13, 5)}},
		{"sold", []cbook.Order{buy(50, 4, 3), buy(51, 5, 2), buy(52, 5, 1)}, sell(99, 4, 20), 11, []Trade{met(51, 2, 5, 11, 6), met(52, 1, 5, 11, 6), sold(3), met(50, 3, 4, 10, 6)}},
		{"sold, as far as its net goes", []cbook.Order{buy(50, 4, 3), buy(51, 5, 2)}, sell(99, 5, 20), 18, []Trade{met(51, 2, 5, 11, 6)}},
		{"past one who has no prices", []cbook.Order{sell(50, 3, 3), sell(51, 5, 2), sell(52, 6, 1)}, buy(99, 6, 20), 17, []Trade{met(51, 2, 5, 11, 6), met(52, 1, 6, 12, 6)}},
	} {
		t.Run(c.name, func(t *testing.T) { checkRun(t, spread(t, c.rest...), c.o, c.left, c.want...) })
	}
	s := spread(t) // level by level: 13 and 4, then 14 and 4, then 14 is used up
	checkRun(t, s, buy(99, 100, 50), 44, bought(2), into(3, 10, []match.Fill{fill(5, 99, 14, 3)}, []match.Fill{fill(3, 99, 4, 3)}), into(1, 11, []match.Fill{fill(5, 99, 14, 1)}, []match.Fill{fill(6, 99, 3, 1)}))
	if s.c.Len() != 0 {
		t.Errorf("what is left waits: %s", s.look())
	}
	checkRun(t, s, buy(99, 100, 44), 44)
}

// TestP2301RunOfAnOrderWithoutUnits trades nothing.
func TestP2301RunOfAnOrderWithoutUnits(t *testing.T) {
	checkRun(t, spread(t, sell(50, 8, 3)), buy(99, 9, 0), 0)
}

func TestP2301IdleWordForWord(t *testing.T) {
	for _, c := range []struct {
		name string
		rest []cbook.Order
		want bool
	}{
		{"nobody", nil, true},
		{"one who pays too little", []cbook.Order{buy(50, 8, 1)}, true},
		{"one who pays enough for the books", []cbook.Order{buy(50, 9, 1)}, false},
		{"one who would have too much", []cbook.Order{sell(50, 5, 1)}, true},
		{"one who would have what the books pay", []cbook.Order{sell(50, 4, 1)}, false},
		{"two that are apart", []cbook.Order{buy(50, 6, 1), sell(51, 7, 1)}, true},
		{"two that meet", []cbook.Order{buy(50, 7, 1), sell(51, 7, 1)}, false},
		{"two that pass each other", []cbook.Order{sell(50, 6, 1), buy(51, 7, 1)}, false},
		{"two of one side", []cbook.Order{buy(50, 6, 1), buy(51, 6, 1)}, true},
		{"the one ahead alone", []cbook.Order{buy(50, 6, 1), buy(51, 5, 1), sell(52, 6, 1), sell(53, 7, 1)}, false},
		{"one behind can go into the books as well", []cbook.Order{buy(50, 9, 1), buy(51, 10, 1)}, false},
		{"one behind can trade with who waits", []cbook.Order{sell(50, 5, 9), sell(51, 7, 9), buy(52, 7, 9)}, false},
	} {
		t.Run(c.name, func(t *testing.T) { checkIdle(t, spread(t, c.rest...), c.want) })
	}
}

// TestP2301IdleWhereOneSideAloneCan lets one side trade only as what comes: the other one finds no prices.
func TestP2301IdleWhereOneSideAloneCan(t *testing.T) {
	for _, c := range []struct {
		rest []cbook.Order
		want bool
	}{
		{[]cbook.Order{buy(50, 20, 1), sell(51, 20, 1)}, false},
		{[]cbook.Order{buy(50, 21, 1), sell(51, 21, 1)}, true},
		{[]cbook.Order{buy(50, 21, 1), sell(51, 20, 1)}, false}, // who buys can, at 20; who sells finds no prices at 21
		{[]cbook.Order{buy(50, 20, 1), sell(51, 19, 1)}, false}, // who sells can, at 20; who buys finds no prices at 19
		{[]cbook.Order{buy(50, 21, 1), sell(51, 19, 1)}, true},
		{[]cbook.Order{buy(50, 21, 1), buy(52, 20, 1), sell(51, 19, 1)}, false}, // who sells can, with the second one
		{[]cbook.Order{buy(50, 21, 1), sell(51, 19, 1), sell(52, 20, 1)}, false},
		{[]cbook.Order{buy(50, 21, 1), sell(51, 19, 1), sell(52, 22, 1), buy(53, 18, 1)}, true},
	} {
		checkIdle(t, few(t, c.rest...), c.want)
	}
}

// drawnLegs tells n legs that Check takes.
func drawnLegs(next func(n int) int64, n int) []legs.Leg {
	var l []legs.Leg
	for i := range n {
		l = append(l, legs.Leg{Series: i + 1, Sign: int(next(2))*2 - 1, Ratio: next(3) + 1})
	}
	return l
}

// drawnRow tells orders of a book, whose tops are 5 to 9 apart.
func drawnRow(next func(n int) int64, n int) []order.Order {
	var row []order.Order
	for id := int64(1); id <= int64(n); id++ {
		o := order.Order{ID: id, Owner: int(next(5)), Side: api.Buy, Price: 7 + next(3), Qty: 1 + next(12), Cust: next(5) == 0, Life: order.Day}
		if next(2) == 0 {
			o.Side, o.Price = api.Sell, o.Price+5+next(3)
		}
		row = append(row, o)
	}
	return row
}

// drawnGrid tells a grid on which most of drawnRow's prices are.
func drawnGrid(next func(n int) int64) grid.Table {
	switch next(6) {
	case 0:
		return by(2)
	case 1:
		return grid.Table{{From: 1, By: 1}, {From: 10, By: 2}}
	}
	return by(1)
}

// drawnNet tells a net: about what the books have, for who buys or who sells, or between.
func drawnNet(next func(n int) int64, s scene) int64 {
	if side := int(next(3)); side != 0 {
		var top []tops.Top
		for _, x := range s.b {
			top = append(top, tops.Of(x))
		}
		if net, _, ok := tops.Synthetic(s.l, top, side); ok {
			return net + (next(3)-1)*next(2)
		}
	}
	net := next(13) - 6
	for _, leg := range s.l {
		net += int64(leg.Sign) * leg.Ratio * (9 + next(4))
	}
	return net
}

// drawn tells a scene in which up to n wait for a strategy.
func drawn(t *testing.T, next func(n int) int64, n int) scene {
	t.Helper()
	s := scene{l: drawnLegs(next, int(next(3))+2), c: waits(t)}
	for range s.l {
		s.b = append(s.b, filled(t, drawnRow(next, 2+int(next(12)))...))
		s.g = append(s.g, drawnGrid(next))
	}
	for id := range next(n + 1) {
		o := drawnOrder(next, s)
		o.ID = 1 + id
		s.c.Insert(o)
	}
	return s
}

// drawnOrder tells an order for a strategy.
func drawnOrder(next func(n int) int64, s scene) cbook.Order {
	return cbook.Order{ID: 1000 + next(9), Owner: int(next(5)), Side: int(next(2)) + 1, Net: drawnNet(next, s), Units: 1 + next(6)}
}

// plainFind is the chapter's Find, word by word.
func plainFind(s scene, o cbook.Order) (Trade, bool) {
	var top []tops.Top
	for _, x := range s.b {
		top = append(top, tops.Of(x))
	}
	other := map[int]int{api.Buy: api.Sell, api.Sell: api.Buy}[o.Side]
	asked := 0
	for _, rest := range s.c.Row(other) {
		if asked++; asked > 64 {
			break
		}
		if o.Side == api.Buy && rest.Net > o.Net || o.Side == api.Sell && rest.Net < o.Net {
			continue
		}
		prices, ok := alloc.Prices(s.l, top, s.g, rest.Net)
		if !ok {
			continue
		}
		units := o.Units
		if rest.Units < units {
			units = rest.Units
		}
		return Trade{Rest: rest.ID, Units: units, Net: rest.Net, Prices: prices}, true
	}
	return Trade{}, false
}

// plainStep is the chapter's Step, word by word.
func plainStep(s scene, o cbook.Order) (Trade, bool) {
	plan, planned := legin.Make(s.l, s.b, o)
	found, ok := plainFind(s, o)
	if !planned && !ok {
		return Trade{}, false
	}
	if planned && ok && (o.Side == api.Buy && found.Net >= plan.Net || o.Side == api.Sell && found.Net <= plan.Net) {
		ok = false
	}
	if ok {
		s.c.Reduce(found.Rest, found.Units)
		return found, true
	}
	fills, _ := legin.Commit(s.l, s.b, o, plan)
	return Trade{Units: plan.Units, Net: plan.Net, Prices: plan.Prices, Legs: fills}, true
}

// plainRun is the chapter's Run, word by word.
func plainRun(s scene, o cbook.Order) (trades []Trade, left int64) {
	for left = o.Units; left > 0; {
		o.Units = left
		x, ok := plainStep(s, o)
		if !ok {
			return trades, left
		}
		trades = append(trades, x)
		left -= x.Units
	}
	return trades, left
}

// plainIdle is the chapter's Idle, word by word: each order of all that wait is let Step, in a twin.
func plainIdle(s scene) bool {
	for _, o := range slices.Concat(s.c.Row(api.Buy), s.c.Row(api.Sell)) {
		if _, ok := plainStep(s.twin(), o); ok {
			return false
		}
	}
	return true
}

// TestP2301IsThePlainReading asks all four calls of scenes, again and again, against the plain readings.
func TestP2301IsThePlainReading(t *testing.T) {
	next := walk(23)
	var finds, plans, both, ties, runs, idles, busies int
	for range 2500 {
		s := drawn(t, next, int(next(13)))
		if plainIdle(s) {
			idles++
			checkIdle(t, s, true)
		} else {
			busies++
			checkIdle(t, s, false)
		}
		for range 4 {
			o := drawnOrder(next, s)
			found, ok := plainFind(s, o)
			checkFind(t, s, o, found)
			if plan, planned := legin.Make(s.l, s.b, o); planned {
				plans++
				both += map[bool]int{true: 1}[ok]
				ties += map[bool]int{true: 1}[ok && plan.Net == found.Net]
			}
			finds += map[bool]int{true: 1}[ok]
			one := s.twin()
			want, _ := plainStep(one, o)
			mine := s.twin()
			checkStep(t, mine, o, want)
			if mine.look() != one.look() {
				t.Fatalf("Step(%v, .., %+v) leaves %s; want %s", s.l, o, mine.look(), one.look())
			}
			all := s.twin()
			trades, left := plainRun(all, o)
			runs += map[bool]int{true: 1}[len(trades) > 1]
			checkRun(t, s, o, left, trades...)
			if s.look() != all.look() {
				t.Fatalf("Run(%v, .., %+v) leaves %s; want %s", s.l, o, s.look(), all.look())
			}
		}
	}
	if finds < 500 || plans < 500 || both < 150 || ties < 30 || runs < 150 || idles < 150 || busies < 150 {
		t.Errorf("only %d are found, %d planned, %d both, %d the same, %d run on, %d idle, %d not", finds, plans, both, ties, runs, idles, busies)
	}
}

// TestP2301IsThePlainReadingOfMany asks scenes in which far more than 64 wait on a side.
func TestP2301IsThePlainReadingOfMany(t *testing.T) {
	next := walk(64)
	behind := 0
	for range 60 {
		s := drawn(t, next, 0)
		for id := int64(1); id <= 250; id++ {
			o := drawnOrder(next, s)
			o.ID = 251 - id
			if next(8) == 0 {
				o.Net += next(40) - 20
			}
			s.c.Insert(o)
		}
		checkIdle(t, s, plainIdle(s))
		for range 5 {
			o := drawnOrder(next, s)
			o.Units = 1 + next(400)
			all := s.twin()
			trades, left := plainRun(all, o)
			if len(trades) > 0 && left > 0 {
				behind++
			}
			checkRun(t, s, o, left, trades...)
			if s.look() != all.look() {
				t.Fatalf("Run(%v, .., %+v) leaves %s; want %s", s.l, o, s.look(), all.look())
			}
		}
	}
	if behind < 20 {
		t.Errorf("only %d runs end with units left", behind)
	}
}

// checkLegs asks whether a trade is one in all of its legs, of what was there: at prices whose net is told, on their grids, inside their tops.
func checkLegs(t *testing.T, was scene, o cbook.Order, x Trade) {
	t.Helper()
	net := int64(0)
	for i, leg := range was.l {
		top := tops.Of(was.b[i])
		net += int64(leg.Sign) * leg.Ratio * x.Prices[i]
		if x.Rest != 0 {
			if p := x.Prices[i]; !was.g[i].On(p) || p < top.Bid || p > top.Ask || top.AskCust && p == top.Ask || top.BidCust && p == top.Bid {
				t.Errorf("%+v: leg %d isn't in its place %+v", x, i, top)
			}
			continue
		}
		sum, price := int64(0), top.Bid
		if (leg.Sign == 1) == (o.Side == api.Buy) {
			price = top.Ask
		}
		for _, f := range x.Legs[i] {
			sum += f.Qty
			if maker, ok := was.b[i].Get(f.Maker); !ok || f.Price != maker.Price || f.Price != price || f.Qty > maker.Qty || f.Taker != o.ID {
				t.Errorf("%+v: leg %d has %+v of %+v", x, i, f, maker)
			}
		}
		if sum != x.Units*leg.Ratio || x.Prices[i] != price {
			t.Errorf("%+v: leg %d has %d at %d", x, i, sum, price)
		}
	}
	if net != x.Net || !cbook.Takes(o, x.Net) || x.Units < 1 || x.Units > o.Units {
		t.Errorf("%+v of %+v: the net is %d", x, o, net)
	}
	if rest, ok := was.c.Get(x.Rest); ok != (x.Rest != 0) || ok && (rest.Net != x.Net || rest.Units < x.Units || rest.Side == o.Side) {
		t.Errorf("%+v of %+v is with %+v", x, o, rest)
	}
}

// TestT2AllLegsOrNone goes on by Steps, and asks of each trade whether it is in all legs; then nothing that could trade is left, and none came or went but by trades.
func TestT2AllLegsOrNone(t *testing.T) {
	next := walk(5)
	done := 0
	for range 2500 {
		s := drawn(t, next, 10)
		o := drawnOrder(next, s)
		o.Units = 1 + next(30)
		all, sums := s.twin(), [2]int64{}
		for {
			was := s.twin()
			x, ok := Step(s.l, s.b, s.g, s.c, o)
			if !ok {
				break
			}
			done++
			checkLegs(t, was, o, x)
			sums[map[bool]int{true: 1}[x.Rest != 0]] += x.Units
			o.Units -= x.Units
			if o.Units == 0 {
				break
			}
		}
		waited, wait := int64(0), int64(0)
		for _, side := range []int{api.Buy, api.Sell} {
			for _, r := range all.c.Row(side) {
				waited += r.Units
			}
			for _, r := range s.c.Row(side) {
				wait += r.Units
			}
		}
		if waited-wait != sums[1] {
			t.Errorf("%d units were had of who waits, and %d are gone", sums[1], waited-wait)
		}
		if o.Units == 0 {
			continue
		}
		if _, ok := plainStep(s.twin(), o); ok {
			t.Errorf("%+v is left, and could trade: %s", o, s.look())
		}
	}
	if done < 800 {
		t.Errorf("only %d trades", done)
	}
}

// TestT2NothingThatCouldTradeWaits lets all trade that can, each as one that came, till Idle tells that there is none.
func TestT2NothingThatCouldTradeWaits(t *testing.T) {
	next := walk(8)
	for range 300 {
		s := drawn(t, next, 14)
		for !Idle(s.l, s.b, s.g, s.c) {
			was := s.look()
			for _, o := range slices.Concat(s.c.Row(api.Buy), s.c.Row(api.Sell)) {
				trades, left := Run(s.l, s.b, s.g, s.c, o)
				if len(trades) > 0 {
					s.c.Reduce(o.ID, o.Units-left)
					break
				}
			}
			if s.look() == was {
				t.Fatalf("it isn't idle, but nobody trades: %s", was)
			}
		}
		if !plainIdle(s) {
			t.Errorf("it is idle, but one could trade: %s", s.look())
		}
	}
}

// turned tells a scene in which what was bought is sold.
func (s scene) turned() scene {
	w := s.twin()
	w.l, w.c = legs.Turned(s.l), cbook.New()
	for _, o := range slices.Concat(s.c.Row(api.Buy), s.c.Row(api.Sell)) {
		w.c.Insert(turnedOrder(o))
	}
	return w
}

// turnedOrder tells an order for the turned strategy.
func turnedOrder(o cbook.Order) cbook.Order {
	o.Net, o.Side = -o.Net, api.Buy+api.Sell-o.Side
	return o
}

// TestW4WhoSellsHasWhatWhoBuysTheTurnedPays runs orders, and the turned ones where all is turned: the same units at the nets' other signs,
// with the same ones, and the same fills; only prices with who waits may be others, since a leg starts at another side.
func TestW4WhoSellsHasWhatWhoBuysTheTurnedPays(t *testing.T) {
	next := walk(9)
	traded := 0
	for range 600 {
		s := drawn(t, next, 10)
		for i := range s.g {
			s.g[i] = by(1) // so that each leg has prices whichever side it starts at
		}
		w := s.turned()
		if Idle(s.l, s.b, s.g, s.c) != Idle(w.l, w.b, w.g, w.c) {
			t.Errorf("%v is idle, and its turn isn't, or the other way round: %s", s.l, s.look())
		}
		o := drawnOrder(next, s)
		trades, left := Run(s.l, s.b, s.g, s.c, o)
		others, rest := Run(w.l, w.b, w.g, w.c, turnedOrder(o))
		traded += len(trades)
		alike := func(a, b Trade) bool {
			return a.Rest == b.Rest && a.Units == b.Units && a.Net == -b.Net && slices.EqualFunc(a.Legs, b.Legs, slices.Equal) && (a.Rest != 0 || slices.Equal(a.Prices, b.Prices))
		}
		if left != rest || !slices.EqualFunc(trades, others, alike) || s.turned().look() != w.look() {
			t.Errorf("%v of %+v: %+v, %d; turned: %+v, %d", s.l, o, trades, left, others, rest)
		}
	}
	if traded < 250 {
		t.Errorf("only %d trades", traded)
	}
}

// TestP1P4AnythingIsAnswered asks with numbers, lists and counts of all kinds: each call ends, and beside a false all is zero.
func TestP1P4AnythingIsAnswered(t *testing.T) {
	few := []int64{0, 1, -1, 2, 5, 12, 1000000, 1000001, 1 << 32, most, least}
	grids := []grid.Table{nil, by(1), by(0), by(-1), by(least), {{From: 5, By: 1}}, {{From: 1, By: 1}, {From: 1, By: 1}}, make(grid.Table, 20)}
	for k, l := range strange() {
		x, y := few[k%len(few)], few[k/len(few)%len(few)]
		for _, n := range []int{0, min(len(l), 5), 3} {
			s := scene{l: l, c: waits(t, sell(50, 11, 3), buy(51, 11, 3), sell(52, -mostNet, 1), buy(53, mostNet, 1))}
			for i := range n {
				s.b = append(s.b, filled(t, member(1, api.Buy, 10, 70), member(2, api.Sell, 12, 70)))
				s.g = append(s.g, grids[(k+i)%len(grids)])
			}
			for _, o := range []cbook.Order{{ID: x, Owner: int(y), Side: int(y), Net: x, Units: y}, {ID: x, Owner: int(x), Side: 1 + k%2, Net: y, Units: x}} {
				if got, ok := Find(s.l, s.b, s.g, s.c, o); !ok && !zero(got) {
					t.Errorf("Find(%v, .., %+v): %+v beside false", l, o, got)
				}
				if got, ok := Step(s.l, s.b, s.g, s.c, o); !ok && !zero(got) {
					t.Errorf("Step(%v, .., %+v): %+v beside false", l, o, got)
				}
				Idle(s.l, s.b, s.g, s.c)
				Run(s.l, s.b, s.g, s.c, o)
			}
		}
	}
}

// TestP1TheMostEnds runs a million units through all that can wait for a strategy of four legs whose prices are seldom any.
func TestP1TheMostEnds(t *testing.T) {
	s := scene{l: made(1, 1, 4, 2, 1, 4, 3, 1, 4, 4, 1, 4), c: waits(t)}
	for range 4 {
		s.b = append(s.b, filled(t, member(1, api.Buy, 1, 1), member(2, api.Sell, 1000000, 1)))
		s.g = append(s.g, by(1))
	}
	for id := int64(1); id <= 220; id++ {
		s.c.Insert(sell(id, mostNet-220+id, 1)) // one of four has prices, from 192 below the greatest net on
	}
	for id := int64(221); s.c.Insert(buy(id, -mostNet+id, 1)) == api.OK; id++ {
	}
	trades, left := Run(s.l, s.b, s.g, s.c, buy(999, mostNet, 1000000))
	if len(trades) != 13 || left != 1000000-13 || s.c.Len() != 256-13 { // then 64 that have none are ahead
		t.Errorf("%d trades, %d are left, and %d wait", len(trades), left, s.c.Len())
	}
	for i, x := range trades {
		if x.Net != mostNet-192+4*int64(i) || x.Units != 1 {
			t.Errorf("%d is %+v", i, x)
		}
	}
	checkIdle(t, s, true)
}

// spoil writes over all of a list, its spare room too.
func spoil[T any](l []T, bad T) {
	l = l[:cap(l)]
	for i := range l {
		l[i] = bad
	}
}

// roomy tells a copy of l with spare room behind it, and the whole of that memory.
func roomy[T any](l []T) (view, whole []T) {
	whole = make([]T, len(l)+6)
	copy(whole, l)
	return whole[:len(l)], whole
}

func TestP2ListsStayAsTheyAreAndAreNotKept(t *testing.T) {
	for _, o := range []cbook.Order{buy(99, 9, 9), sell(99, 4, 9), buy(99, 7, 2), sell(99, 9, 1), buy(99, 3, 1)} {
		s := spread(t, sell(50, 8, 3), buy(51, 5, 2), sell(52, 7, 1))
		l, wholeLegs := roomy(s.l)
		b, wholeBooks := roomy(s.b)
		g, wholeGrids := roomy(s.g)
		steps, wholeSteps := roomy(g[0])
		g[0] = steps
		wereLegs, wereBooks, wereSteps := slices.Clone(wholeLegs), slices.Clone(wholeBooks), slices.Clone(wholeSteps)
		wereGrids := fmt.Sprint(wholeGrids)
		found, _ := Find(l, b, g, s.c, o)
		step, _ := Step(l, b, g, s.c, o)
		trades, _ := Run(l, b, g, s.c, o)
		Idle(l, b, g, s.c)
		if !slices.Equal(wholeLegs, wereLegs) || !slices.Equal(wholeBooks, wereBooks) || !slices.Equal(wholeSteps, wereSteps) || fmt.Sprint(wholeGrids) != wereGrids {
			t.Errorf("%+v: what was handed in is changed: %v, %v, %v", o, wholeLegs, wholeBooks, wholeGrids)
		}
		said, was := fmt.Sprint(found, step, trades), s.look()
		spoil(wholeLegs, legs.Leg{Series: -9, Sign: -9, Ratio: -9})
		spoil(wholeBooks, nil)
		spoil(wholeSteps, grid.Step{From: -9, By: -9})
		spoil(wholeGrids, nil)
		if fmt.Sprint(found, step, trades) != said || s.look() != was {
			t.Errorf("%+v: %v, %v, %v are of what was handed in", o, found, step, trades)
		}
	}
}

// lists tells all lists of trades.
func lists(trades []Trade) (prices [][]int64, fills [][]match.Fill) {
	for _, x := range trades {
		prices = append(prices, x.Prices)
		fills = append(fills, x.Legs...)
	}
	return prices, fills
}

func TestP2AnswersAreNewMemory(t *testing.T) {
	o := buy(99, 100, 20)
	fresh := func() scene { return spread(t, sell(50, 8, 3), sell(51, 8, 2), sell(52, 10, 1)) }
	s := fresh()
	one, _ := Find(s.l, s.b, s.g, s.c, o)
	two, _ := Find(s.l, s.b, s.g, s.c, o)
	spoil(one.Prices, -9)
	if !same(two, met(50, 3, 8, 13, 5)) {
		t.Errorf("two answers of Find share memory: %+v", two)
	}
	checkFind(t, s, o, met(50, 3, 8, 13, 5))
	trades, _ := Run(s.l, s.b, s.g, s.c, o)
	was := s.look()
	prices, fills := lists(trades)
	if len(prices) < 5 || len(fills) < 4 {
		t.Errorf("only %d prices and %d fills: %+v", len(prices), len(fills), trades)
	}
	for i := range prices { // each list is spoilt in an answer of its own, the others stay
		again := fresh()
		own, _ := Run(again.l, again.b, again.g, again.c, o)
		p, f := lists(own)
		spoil(p[i], -9)
		p[i] = prices[i]
		if fmt.Sprint(p, f) != fmt.Sprint(prices, fills) || again.look() != was {
			t.Errorf("prices %d share memory: %v, %v", i, p, f)
		}
	}
	for i := range fills {
		again := fresh()
		own, _ := Run(again.l, again.b, again.g, again.c, o)
		p, f := lists(own)
		spoil(f[i], match.Fill{Maker: -9})
		f[i] = fills[i]
		if fmt.Sprint(p, f) != fmt.Sprint(prices, fills) || again.look() != was {
			t.Errorf("fills %d share memory: %v, %v", i, p, f)
		}
	}
	spoil(trades, Trade{Rest: -9})
	if s.look() != was {
		t.Errorf("an answer is kept: %s", s.look())
	}
}

// asked tells all that is answered to a long row of calls.
func asked(t *testing.T) string {
	next := walk(3)
	var out []byte
	for range 300 {
		s := drawn(t, next, 10)
		o := drawnOrder(next, s)
		found, ok := Find(s.l, s.b, s.g, s.c, o)
		step, did := Step(s.l, s.b, s.g, s.c, o)
		trades, left := Run(s.l, s.b, s.g, s.c, o)
		out = fmt.Append(out, found, ok, step, did, trades, left, Idle(s.l, s.b, s.g, s.c), s.look(), "\n")
	}
	return string(out)
}

func TestP3TheSameCallsAnswerTheSame(t *testing.T) {
	first := asked(t)
	for range 3 {
		if asked(t) != first {
			t.Fatal("the same calls answer otherwise")
		}
	}
}

// TestP5WhatIsNoneChangesNothing asks for much that is none, and then goes on as if nothing had been asked.
func TestP5WhatIsNoneChangesNothing(t *testing.T) {
	s := spread(t, sell(50, 8, 3), buy(51, 5, 3))
	was := s.look()
	for range 3 {
		checkStep(t, s, buy(99, 7, 9), Trade{})
		checkStep(t, s, sell(99, 6, 9), Trade{})
		checkRun(t, s, buy(99, -mostNet, 9), 9)
		checkIdle(t, s, true)
		checkFind(t, s, buy(99, 8, 9), met(50, 3, 8, 13, 5))
	}
	if s.look() != was {
		t.Errorf("%s; was %s", s.look(), was)
	}
	checkRun(t, s, buy(99, 9, 9), 4, met(50, 3, 8, 13, 5), bought(2))
}

// TestP8UnitsThatMayNotBeAreAnswered asks with units that no order may have: each call ends, and nothing goes but by a trade.
func TestP8UnitsThatMayNotBeAreAnswered(t *testing.T) {
	for _, units := range []int64{0, -1, -(1 << 32), least, 1000001, 1 << 32, most} {
		for k, o := range []cbook.Order{buy(99, 100, units), sell(99, -100, units), buy(99, 8, units), sell(99, 5, units), buy(99, 100, units), sell(99, -100, units)} {
			s := spread(t)
			if k < 4 { // else only the books can be had
				s = spread(t, sell(50, 8, 3), buy(51, 5, 3))
			}
			was := s.look()
			Find(s.l, s.b, s.g, s.c, o)
			if got, ok := Step(s.l, s.b, s.g, s.c, o); ok && units < 1 || !ok && (!zero(got) || s.look() != was) {
				t.Errorf("Step of %+v: %+v, %v, and %s", o, got, ok, s.look())
			}
			if trades, _ := Run(s.l, s.b, s.g, s.c, o); units < 1 && (len(trades) != 0 || s.look() != was) {
				t.Errorf("Run of %+v: %+v, and %s", o, trades, s.look())
			}
			Idle(s.l, s.b, s.g, s.c)
		}
	}
}

// TestP8OneBookOfTwoLegsIsAnswered hands in a book twice, of which there is not enough for both.
func TestP8OneBookOfTwoLegsIsAnswered(t *testing.T) {
	x := filled(t, member(1, api.Buy, 10, 3), member(2, api.Sell, 12, 3))
	s := scene{l: made(1, 1, 1, 2, 1, 1), b: []*book.Book{x, x}, g: []grid.Table{by(1), by(1)}, c: waits(t, sell(50, 22, 3), sell(51, 26, 3))}
	o := buy(99, 100, 5)
	Find(s.l, s.b, s.g, s.c, o)
	Idle(s.l, s.b, s.g, s.c)
	Step(s.l, s.b, s.g, s.c, o)
	Run(s.l, s.b, s.g, s.c, o)
}

// TestP9OfThoseAsGoodTheFirstIsTaken lets many wait at one net, in all orders of coming: the least ID is had first, behind the books.
func TestP9OfThoseAsGoodTheFirstIsTaken(t *testing.T) {
	for _, ids := range [][]int64{{50, 51, 52}, {52, 51, 50}, {51, 52, 50}, {50, 52, 51}} {
		s := spread(t)
		for _, id := range ids {
			s.c.Insert(sell(id, 9, 1))
		}
		checkRun(t, s, buy(99, 9, 9), 4, bought(2), met(50, 1, 9, 14, 5), met(51, 1, 9, 14, 5), met(52, 1, 9, 14, 5))
	}
}
