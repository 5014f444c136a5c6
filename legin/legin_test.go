package legin

import (
	"fmt"
	"math"
	"slices"
	"strings"
	"testing"

	"straddle/api"
	"straddle/book"
	"straddle/cbook"
	"straddle/legs"
	"straddle/match"
	"straddle/order"
)

const (
	most  = math.MaxInt64
	least = math.MinInt64
)

// made tells legs of series, sign and ratio, one leg behind the other.
func made(x ...int64) []legs.Leg {
	var l []legs.Leg
	for ; len(x) > 0; x = x[3:] {
		l = append(l, legs.Leg{Series: int(x[0]), Sign: int(x[1]), Ratio: x[2]})
	}
	return l
}

// walk tells numbers below n, each time the same row of them.
func walk(seed uint32) func(n int) int64 {
	return func(n int) int64 {
		seed = seed*1664525 + 1013904223
		return int64(seed>>8) % int64(n)
	}
}

// member and customer tell orders of the two kinds.
func member(id int64, side int, price, qty int64) order.Order {
	return order.Order{ID: id, Side: side, Price: price, Qty: qty, Life: order.Day}
}

func customer(id int64, side int, price, qty int64) order.Order {
	return order.Order{ID: id, Side: side, Price: price, Qty: qty, Life: order.Day, Cust: true}
}

// filled tells a book in which these wait.
func filled(t *testing.T, orders ...order.Order) *book.Book {
	t.Helper()
	b := book.New()
	for _, o := range orders {
		if wrong := b.Insert(o); wrong != api.OK {
			t.Fatalf("Insert of %+v: %v", o, wrong)
		}
	}
	return b
}

// buy and sell tell orders for a strategy.
func buy(net, units int64) cbook.Order {
	return cbook.Order{ID: 77, Owner: 3, Side: api.Buy, Net: net, Units: units}
}

func sell(net, units int64) cbook.Order {
	return cbook.Order{ID: 78, Owner: 4, Side: api.Sell, Net: net, Units: units}
}

// look tells all that waits in books.
func look(b []*book.Book) string {
	var s strings.Builder
	for _, x := range b {
		fmt.Fprintln(&s, x.Len(), x.Row(api.Buy), x.Row(api.Sell), x.Levels(api.Buy), x.Levels(api.Sell))
	}
	return s.String()
}

// spread is one unit of series 1 twice bought, and of series 2 three times sold.
func spread() []legs.Leg { return made(1, 1, 2, 2, -1, 3) }

// waiting tells the books of spread: 10 to 12 of which 7 and 9 are there, and 5 to 6 of which 10 and 4 are; and what is behind that.
func waiting(t *testing.T) []*book.Book {
	t.Helper()
	return []*book.Book{
		filled(t, member(1, api.Buy, 10, 7), member(2, api.Sell, 12, 5), customer(3, api.Sell, 12, 4), member(4, api.Sell, 13, 50), member(8, api.Buy, 9, 40)),
		filled(t, member(5, api.Buy, 5, 4), customer(6, api.Buy, 5, 6), member(7, api.Sell, 6, 4), member(9, api.Buy, 4, 30), member(10, api.Sell, 8, 20)),
	}
}

// others are books of whatever number.
func others(t *testing.T, n int) []*book.Book {
	t.Helper()
	var b []*book.Book
	for range n {
		b = append(b, filled(t, member(1, api.Buy, 10, 700), member(2, api.Sell, 12, 700)))
	}
	return b
}

// fill tells one trade.
func fill(maker, taker, price, qty int64) match.Fill {
	return match.Fill{Maker: maker, Taker: taker, Price: price, Qty: qty}
}

// checkMake asks whether Make tells this, and again so, and leaves the books.
func checkMake(t *testing.T, l []legs.Leg, b []*book.Book, o cbook.Order, units, net int64, prices ...int64) {
	t.Helper()
	was := look(b)
	for range 2 {
		p, ok := Make(l, b, o)
		if p.Units != units || p.Net != net || !slices.Equal(p.Prices, prices) || !ok {
			t.Errorf("Make(%v, .., %+v): %+v, %v; want %d, %d, %v", l, o, p, ok, units, net, prices)
		}
	}
	if look(b) != was {
		t.Errorf("Make(%v, .., %+v) changed the books: %s; was %s", l, o, look(b), was)
	}
}

// checkNone asks whether Make tells that there is nothing, and leaves the books.
func checkNone(t *testing.T, l []legs.Leg, b []*book.Book, o cbook.Order) {
	t.Helper()
	was := look(b)
	if p, ok := Make(l, b, o); p.Units != 0 || p.Net != 0 || p.Prices != nil || ok {
		t.Errorf("Make(%v, .., %+v): %+v, %v; want none", l, o, p, ok)
	}
	if look(b) != was {
		t.Errorf("Make(%v, .., %+v) changed the books: %s; was %s", l, o, look(b), was)
	}
}

// plan tells a plan whose net nobody asks.
func plan(units int64, prices ...int64) Plan { return Plan{Units: units, Prices: prices} }

// checkCommit asks whether Commit tells these fills.
func checkCommit(t *testing.T, l []legs.Leg, b []*book.Book, o cbook.Order, p Plan, want [][]match.Fill) {
	t.Helper()
	was := look(b)
	got, wrong := Commit(l, b, o, p)
	if wrong != api.OK || !slices.EqualFunc(got, want, slices.Equal) {
		t.Errorf("Commit(%v, .., %+v, %+v): %v, %v; want %v; of %s", l, o, p, got, wrong, want, was)
	}
}

// checkRefused asks whether Commit refuses by this, and leaves the books.
func checkRefused(t *testing.T, l []legs.Leg, b []*book.Book, o cbook.Order, p Plan, want api.Errno) {
	t.Helper()
	was := look(b)
	if got, wrong := Commit(l, b, o, p); got != nil || wrong != want {
		t.Errorf("Commit(%v, .., %+v, %+v): %v, %v; want %v; of %s", l, o, p, got, wrong, want, was)
	}
	if look(b) != was {
		t.Errorf("Commit(%v, .., %+v, %+v) changed the books: %s; was %s", l, o, p, look(b), was)
	}
}

func TestP2201MakeWordForWord(t *testing.T) {
	l, b := spread(), waiting(t)
	// bought: 2 of 12, of which 9 are there, less 3 of 5, of which 10 are: 9, three times
	checkMake(t, l, b, buy(9, 5), 3, 9, 12, 5)
	checkMake(t, l, b, buy(16000000, 1000000), 3, 9, 12, 5)
	checkMake(t, l, b, buy(9, 3), 3, 9, 12, 5)
	checkMake(t, l, b, buy(9, 2), 2, 9, 12, 5)
	checkMake(t, l, b, buy(100, 1), 1, 9, 12, 5)
	checkNone(t, l, b, buy(8, 5))
	checkNone(t, l, b, buy(-9, 5))
	// sold: 2 of 10, of which 7 are there, less 3 of 6, of which 4 are: 2, once
	checkMake(t, l, b, sell(2, 5), 1, 2, 10, 6)
	checkMake(t, l, b, sell(-16000000, 1), 1, 2, 10, 6)
	checkNone(t, l, b, sell(3, 5))
	checkNone(t, l, b, sell(9, 5))
}

func TestP2201MakeGoesByTheOrdersSideNetAndUnitsAlone(t *testing.T) {
	l, b := spread(), waiting(t)
	for _, id := range []int64{0, 1, 5, -1, least, most} {
		checkMake(t, l, b, cbook.Order{ID: id, Owner: int(id), Side: api.Buy, Net: 9, Units: 5}, 3, 9, 12, 5)
		checkMake(t, l, b, cbook.Order{ID: id, Owner: int(id), Side: api.Sell, Net: 2, Units: 5}, 1, 2, 10, 6)
	}
}

func TestP2201MakeIsForWhoseSideItIs(t *testing.T) {
	b := waiting(t)
	for _, side := range []int{0, -1, -2, 3, 4, 1 << 32, 1<<32 + 1, 1<<32 + 2, least, most} { // of none, nobody takes a net
		for _, net := range []int64{-16000000, 2, 9, 16000000} {
			checkNone(t, spread(), b, cbook.Order{ID: 77, Side: side, Net: net, Units: 5})
		}
	}
}

func TestP2201MakeOfWhatIsNotThere(t *testing.T) {
	l := spread()
	for _, c := range []struct {
		name      string
		b         []*book.Book
		buys, has bool // whether there is something for who buys, who sells
	}{
		{"nobody waits", []*book.Book{book.New(), book.New()}, false, false},
		{"nobody in the first book", []*book.Book{book.New(), waiting(t)[1]}, false, false},
		{"nobody in the second book", []*book.Book{waiting(t)[0], book.New()}, false, false},
		{"nobody sells the first", []*book.Book{filled(t, member(1, api.Buy, 10, 7)), waiting(t)[1]}, false, true},
		{"nobody buys the first", []*book.Book{filled(t, member(1, api.Sell, 10, 7)), waiting(t)[1]}, true, false},
		{"nobody sells the second", []*book.Book{waiting(t)[0], filled(t, member(1, api.Buy, 5, 7))}, true, false},
		{"nobody buys the second", []*book.Book{waiting(t)[0], filled(t, member(1, api.Sell, 5, 7))}, false, true},
		{"too little is sold of the first at its best", []*book.Book{filled(t, member(1, api.Sell, 12, 1), member(2, api.Sell, 13, 90), member(3, api.Buy, 10, 2)), waiting(t)[1]}, false, true},
		{"just enough is sold of the first", []*book.Book{filled(t, member(1, api.Sell, 12, 1), member(2, api.Sell, 12, 1)), waiting(t)[1]}, true, false},
		{"too little is bought of the second at its best", []*book.Book{waiting(t)[0], filled(t, member(1, api.Buy, 5, 2), member(2, api.Buy, 4, 90), member(3, api.Sell, 7, 3))}, false, true},
	} {
		for side, want := range map[int]bool{api.Buy: c.buys, api.Sell: c.has} {
			net := int64(16000000)
			if side == api.Sell {
				net = -net
			}
			p, ok := Make(l, c.b, cbook.Order{ID: 9, Side: side, Net: net, Units: 1})
			if ok != want || ok && p.Units != 1 || !ok && (p.Units != 0 || p.Net != 0 || p.Prices != nil) {
				t.Errorf("%s: side %d: %+v, %v", c.name, side, p, ok)
			}
		}
	}
}

func TestP2201AsManyBooksAsLegs(t *testing.T) {
	for _, l := range [][]legs.Leg{made(1, 1, 1, 2, 1, 1), made(1, 1, 1, 2, -1, 1, 3, 1, 2), made(4, 1, 1, 3, 1, 1, 2, -1, 1, 1, 1, 4)} {
		for n := range 7 {
			b := others(t, n)
			p := plan(1, []int64{12, 12, 12, 12}[:len(l)]...)
			for i, leg := range l {
				if leg.Sign < 0 {
					p.Prices[i] = 10
				}
			}
			if n == len(l) {
				if _, ok := Make(l, b, buy(16000000, 1)); !ok {
					t.Errorf("%d books of %v: there is nothing", n, l)
				}
				if fills, wrong := Commit(l, b, buy(16000000, 1), p); len(fills) != n || wrong != api.OK {
					t.Errorf("%d books of %v: %v, %v", n, l, fills, wrong)
				}
				continue
			}
			checkNone(t, l, b, buy(16000000, 1))
			checkNone(t, l, b, sell(-16000000, 1))
			checkRefused(t, l, b, buy(16000000, 1), p, api.ErrArg)
		}
	}
}

func TestP2201AsManyPricesAsLegs(t *testing.T) {
	for n := range 7 {
		b := waiting(t)
		p := plan(1, []int64{12, 5, 12, 5, 12, 5}[:n]...)
		if n == 2 {
			checkCommit(t, spread(), b, buy(9, 5), p, [][]match.Fill{{fill(3, 77, 12, 2)}, {fill(6, 77, 5, 3)}})
			continue
		}
		checkRefused(t, spread(), b, buy(9, 5), p, api.ErrArg)
	}
}

// strange tells legs that are of all kinds, most of which may not be.
func strange() [][]legs.Leg {
	out := [][]legs.Leg{nil, {}, made(1, 1, 1), made(1, 1, 1, 2, 1, 1, 3, 1, 1, 4, 1, 1, 5, 1, 1), make([]legs.Leg, 3), make([]legs.Leg, 500)}
	few := []int64{0, 1, -1, 2, 4, 5, 1 << 32, most, least}
	for _, a := range few {
		for _, b := range few {
			for _, c := range few {
				out = append(out, made(a, b, c), made(a, b, c, 1, 1, 1), made(1, 1, 1, a, b, c), made(2, 1, 2, 7, -1, 4, c, b, a, 1, -1, 2))
			}
		}
	}
	return out
}

func TestP2201LegsThatCheckRefuses(t *testing.T) {
	refused := 0
	for _, l := range strange() {
		if legs.Check(l) == nil {
			continue
		}
		refused++
		b := others(t, min(len(l), 6))
		prices := make([]int64, len(l))
		for i := range prices {
			prices[i] = 12
		}
		checkNone(t, l, b, buy(16000000, 1))
		checkNone(t, l, b, sell(-16000000, 1))
		checkRefused(t, l, b, buy(16000000, 1), plan(1, prices...), api.ErrArg)
		checkRefused(t, l, b, sell(-16000000, 1), plan(1, prices...), api.ErrArg)
	}
	if refused < 1000 {
		t.Errorf("only %d of these are refused", refused)
	}
}

func TestP2201UnitsAtTheirBounds(t *testing.T) {
	for _, units := range []int64{least, least + 1, -(1 << 32), -1, 0, 1000001, 1000002, 1 << 32, 1<<32 + 1, 1 << 62, most - 1, most} {
		checkRefused(t, spread(), waiting(t), buy(9, 5), plan(units, 12, 5), api.ErrArg)
		checkRefused(t, spread(), waiting(t), sell(2, 5), plan(units, 10, 6), api.ErrArg)
	}
	deep := func() []*book.Book { // a million units of 4 of each leg are there, and no more of the second one
		var rows [2][]order.Order
		for id := int64(1); id <= 4; id++ {
			rows[0] = append(rows[0], member(id, api.Sell, 12, 1000000))
			rows[1] = append(rows[1], member(id, api.Buy, 5, 1000000))
		}
		return []*book.Book{filled(t, append(rows[0], member(9, api.Sell, 12, 1000000))...), filled(t, rows[1]...)}
	}
	b, l := deep(), made(1, 1, 4, 2, -1, 4)
	checkMake(t, l, b, buy(28, 1000000), 1000000, 28, 12, 5)
	fills, wrong := Commit(l, b, buy(28, 1000000), plan(1000000, 12, 5))
	if wrong != api.OK || len(fills) != 2 || len(fills[0]) != 4 || len(fills[1]) != 4 {
		t.Errorf("a million units: %v, %v", fills, wrong)
	}
	if got := fmt.Sprint(b[0].Levels(api.Sell), b[1].Len()); got != "[{12 1000000 1}] 0" {
		t.Errorf("a million units leave %s", got)
	}
	for _, units := range []int64{999999, 1} {
		if _, wrong := Commit(l, deep(), buy(28, units), plan(units, 12, 5)); wrong != api.OK {
			t.Errorf("%d units: %v", units, wrong)
		}
	}
}

func TestP2201CommitWordForWord(t *testing.T) {
	l := spread()
	for i, c := range []struct {
		o     cbook.Order
		p     Plan
		fills [][]match.Fill
		left  string
	}{
		// customers first, then by time
		{buy(9, 5), plan(3, 12, 5), [][]match.Fill{{fill(3, 77, 12, 4), fill(2, 77, 12, 2)}, {fill(6, 77, 5, 6), fill(5, 77, 5, 3)}}, "[{10 7 1} {9 40 1}] [{12 3 1} {13 50 1}] [{5 1 1} {4 30 1}] [{6 4 1} {8 20 1}] "},
		{buy(9, 5), plan(2, 12, 5), [][]match.Fill{{fill(3, 77, 12, 4)}, {fill(6, 77, 5, 6)}}, "[{10 7 1} {9 40 1}] [{12 5 1} {13 50 1}] [{5 4 1} {4 30 1}] [{6 4 1} {8 20 1}] "},
		{buy(9, 5), plan(1, 12, 5), [][]match.Fill{{fill(3, 77, 12, 2)}, {fill(6, 77, 5, 3)}}, "[{10 7 1} {9 40 1}] [{12 7 2} {13 50 1}] [{5 7 2} {4 30 1}] [{6 4 1} {8 20 1}] "},
		{sell(2, 5), plan(1, 10, 6), [][]match.Fill{{fill(1, 78, 10, 2)}, {fill(7, 78, 6, 3)}}, "[{10 5 1} {9 40 1}] [{12 9 2} {13 50 1}] [{5 10 2} {4 30 1}] [{6 1 1} {8 20 1}] "},
		// a price behind the best one is had too, just there
		{buy(9, 5), plan(2, 13, 5), [][]match.Fill{{fill(4, 77, 13, 4)}, {fill(6, 77, 5, 6)}}, "[{10 7 1} {9 40 1}] [{12 9 2} {13 46 1}] [{5 4 1} {4 30 1}] [{6 4 1} {8 20 1}] "},
		{buy(9, 5), plan(10, 13, 4), [][]match.Fill{{fill(4, 77, 13, 20)}, {fill(9, 77, 4, 30)}}, "[{10 7 1} {9 40 1}] [{12 9 2} {13 30 1}] [{5 10 2}] [{6 4 1} {8 20 1}] "},
		{sell(2, 5), plan(6, 9, 8), [][]match.Fill{{fill(8, 78, 9, 12)}, {fill(10, 78, 8, 18)}}, "[{10 7 1} {9 28 1}] [{12 9 2} {13 50 1}] [{5 10 2} {4 30 1}] [{6 4 1} {8 2 1}] "},
	} {
		b := waiting(t)
		checkCommit(t, l, b, c.o, c.p, c.fills)
		left := ""
		for _, x := range b {
			left += fmt.Sprint(x.Levels(api.Buy), " ", x.Levels(api.Sell), " ")
		}
		if left != c.left {
			t.Errorf("%d: %s is left; want %s", i, left, c.left)
		}
	}
}

func TestP2201CommitOfWhatIsNotThere(t *testing.T) {
	l := spread()
	for _, c := range []struct {
		o cbook.Order
		p Plan
	}{
		{buy(9, 5), plan(4, 12, 5)},  // 10 of 13 at the first price, 12 of 10 at the second
		{buy(9, 5), plan(5, 12, 4)},  // only the first one lacks
		{buy(9, 5), plan(4, 13, 5)},  // only the second one does
		{buy(9, 5), plan(26, 13, 4)}, // both do
		{buy(9, 5), plan(1, 11, 5)},
		{buy(9, 5), plan(1, 14, 5)},
		{buy(9, 5), plan(1, 10, 5)}, // who buys the first has nothing of those who buy it
		{buy(9, 5), plan(1, 12, 6)},
		{buy(9, 5), plan(1, 12, 3)},
		{buy(9, 5), plan(1, 10, 6)},
		{buy(9, 5), plan(1000000, 12, 5)},
		{sell(2, 5), plan(2, 10, 6)}, // only the second one lacks
		{sell(2, 5), plan(4, 10, 8)}, // only the first one does
		{sell(2, 5), plan(1, 12, 5)},
		{sell(2, 5), plan(1, 10, 5)},
		{sell(2, 5), plan(1, 12, 6)},
		{sell(2, 5), plan(1000000, 10, 6)},
	} {
		checkRefused(t, l, waiting(t), c.o, c.p, api.ErrState)
	}
	for _, price := range []int64{0, -1, -12, 1000001, 1<<32 + 12, 1<<32 + 5, most, least} {
		checkRefused(t, l, waiting(t), buy(9, 5), plan(1, price, 5), api.ErrState)
		checkRefused(t, l, waiting(t), buy(9, 5), plan(1, 12, price), api.ErrState)
		checkRefused(t, l, []*book.Book{book.New(), book.New()}, buy(9, 5), plan(1, price, price), api.ErrState)
	}
}

// TestP2201EachLegMayBeTheOneThatLacks lets one of four legs lack, at each place: nothing is done in the others.
func TestP2201EachLegMayBeTheOneThatLacks(t *testing.T) {
	l := made(1, 1, 1, 2, -1, 2, 3, 1, 3, 4, -1, 4)
	prices := []int64{12, 10, 12, 10}
	fresh := func(lacks int) []*book.Book {
		var b []*book.Book
		for i, leg := range l {
			qty := 5 * leg.Ratio
			if i == lacks {
				qty--
			}
			b = append(b, filled(t, member(1, api.Buy, 10, qty), member(2, api.Sell, 12, qty)))
		}
		return b
	}
	for lacks := range l {
		checkRefused(t, l, fresh(lacks), buy(0, 5), plan(5, prices...), api.ErrState)
		checkRefused(t, l, fresh(lacks), sell(0, 5), plan(5, 10, 12, 10, 12), api.ErrState)
		checkMake(t, l, fresh(lacks), buy(100, 5), 4, 12-20+36-40, prices...)
		if _, wrong := Commit(l, fresh(lacks), buy(0, 5), plan(4, prices...)); wrong != api.OK {
			t.Errorf("4 units, where leg %d lacks one of 5: %v", lacks, wrong)
		}
	}
	b := fresh(-1)
	checkCommit(t, l, b, buy(0, 5), plan(5, prices...), [][]match.Fill{{fill(2, 77, 12, 5)}, {fill(1, 77, 10, 10)}, {fill(2, 77, 12, 15)}, {fill(1, 77, 10, 20)}})
	checkCommit(t, l, b, sell(0, 5), plan(5, 10, 12, 10, 12), [][]match.Fill{{fill(1, 78, 10, 5)}, {fill(2, 78, 12, 10)}, {fill(1, 78, 10, 15)}, {fill(2, 78, 12, 20)}})
	for i, x := range b {
		if x.Len() != 0 {
			t.Errorf("in book %d %d wait still", i, x.Len())
		}
	}
}

// TestP2201CommitAsksForNoNet commits plans whatever the order's net and units are, and the plan's net.
func TestP2201CommitAsksForNoNet(t *testing.T) {
	for _, n := range []int64{0, -1, 1, 9, most, least} {
		p := plan(1, 12, 5)
		p.Net = n
		o := cbook.Order{ID: n, Owner: int(n), Side: api.Buy, Net: -n, Units: n}
		checkCommit(t, spread(), waiting(t), o, p, [][]match.Fill{{fill(3, n, 12, 2)}, {fill(6, n, 5, 3)}})
	}
}

// TestP2201EverySideButBuySells commits what is had of a side that is none as tops has it.
func TestP2201EverySideButBuySells(t *testing.T) {
	for _, side := range []int{0, -1, 3, 1<<32 + 1, least, most} {
		o := cbook.Order{ID: 9, Side: side, Net: 2, Units: 5}
		checkCommit(t, spread(), waiting(t), o, plan(1, 10, 6), [][]match.Fill{{fill(1, 9, 10, 2)}, {fill(7, 9, 6, 3)}})
		checkRefused(t, spread(), waiting(t), o, plan(1, 12, 5), api.ErrState)
	}
}

// TestP2201CommitRefusesInOrder refuses what may not be ahead of what can't be.
func TestP2201CommitRefusesInOrder(t *testing.T) {
	l, empty := spread(), []*book.Book{book.New(), book.New()}
	checkRefused(t, l, empty, buy(9, 5), plan(1, 12, 5), api.ErrState)
	checkRefused(t, made(1, 1, 2, 1, -1, 3), empty, buy(9, 5), plan(1, 12, 5), api.ErrArg)
	checkRefused(t, l[:1], empty[:1], buy(9, 5), plan(1, 12), api.ErrArg)
	checkRefused(t, l, empty[:1], buy(9, 5), plan(1, 12, 5), api.ErrArg)
	checkRefused(t, l, append(empty, book.New()), buy(9, 5), plan(1, 12, 5), api.ErrArg)
	checkRefused(t, l, empty, buy(9, 5), plan(1, 12), api.ErrArg)
	checkRefused(t, l, empty, buy(9, 5), plan(1, 12, 5, 1), api.ErrArg)
	checkRefused(t, l, empty, buy(9, 5), plan(0, 12, 5), api.ErrArg)
	checkRefused(t, l, empty, buy(9, 5), plan(1000001, 12, 5), api.ErrArg)
}

// drawnLegs tells n legs that Check takes.
func drawnLegs(next func(n int) int64, n int) []legs.Leg {
	var l []legs.Leg
	for i := range n {
		l = append(l, legs.Leg{Series: i + 1, Sign: int(next(2))*2 - 1, Ratio: next(4) + 1})
	}
	return l
}

// drawnRow tells orders of a book, whose ids are what they were drawn in.
func drawnRow(next func(n int) int64, n int) []order.Order {
	var row []order.Order
	for id := int64(1); id <= int64(n); id++ {
		o := order.Order{ID: id, Owner: int(next(5)), Side: api.Buy, Price: 7 + next(3), Qty: 1 + next(12), Cust: next(3) == 0, Life: order.Day}
		if next(2) == 0 {
			o.Side, o.Price = api.Sell, o.Price+4
		}
		row = append(row, o)
	}
	return row
}

// plainSide tells the orders of a row that one of a leg can have at a price, in turn; at its best price, if that is 0.
func plainSide(row []order.Order, buys bool, price int64) []order.Order {
	var out []order.Order
	for _, o := range row {
		if (o.Side == api.Sell) == buys {
			out = append(out, o)
		}
	}
	slices.SortStableFunc(out, func(a, b order.Order) int {
		switch {
		case a.Price != b.Price && (a.Price < b.Price) == buys:
			return -1
		case a.Price != b.Price:
			return 1
		case a.Cust != b.Cust && a.Cust:
			return -1
		case a.Cust != b.Cust:
			return 1
		}
		return int(a.ID - b.ID)
	})
	if len(out) > 0 && price == 0 {
		price = out[0].Price
	}
	return slices.DeleteFunc(out, func(o order.Order) bool { return o.Price != price })
}

// plainQty tells how much there is of orders.
func plainQty(row []order.Order) int64 {
	sum := int64(0)
	for _, o := range row {
		sum += o.Qty
	}
	return sum
}

// plainMake is the chapter's Make, word by word.
func plainMake(l []legs.Leg, rows [][]order.Order, o cbook.Order) (Plan, bool) {
	p := Plan{Units: o.Units}
	for i, leg := range l {
		can := plainSide(rows[i], (leg.Sign == 1) == (o.Side == api.Buy), 0)
		if plainQty(can) < leg.Ratio {
			return Plan{}, false
		}
		p.Units = min(p.Units, plainQty(can)/leg.Ratio)
		p.Prices = append(p.Prices, can[0].Price)
		p.Net += int64(leg.Sign) * leg.Ratio * can[0].Price
	}
	if o.Side == api.Buy && p.Net > o.Net || o.Side == api.Sell && p.Net < o.Net {
		return Plan{}, false
	}
	return p, true
}

// plainCommit is the chapter's Commit, word by word: the fills, and the rows as they are then.
func plainCommit(l []legs.Leg, rows [][]order.Order, o cbook.Order, p Plan) ([][]match.Fill, [][]order.Order) {
	var fills [][]match.Fill
	var after [][]order.Order
	for i, leg := range l {
		can := plainSide(rows[i], (leg.Sign == 1) == (o.Side == api.Buy), p.Prices[i])
		left := p.Units * leg.Ratio
		if plainQty(can) < left {
			return nil, rows
		}
		row := slices.Clone(rows[i])
		var own []match.Fill
		for _, maker := range can {
			qty := min(left, maker.Qty)
			if qty == 0 {
				break
			}
			own = append(own, match.Fill{Maker: maker.ID, Taker: o.ID, Price: p.Prices[i], Qty: qty})
			left -= qty
			at := slices.IndexFunc(row, func(x order.Order) bool { return x.ID == maker.ID })
			row[at].Qty -= qty
		}
		fills = append(fills, own)
		after = append(after, slices.DeleteFunc(row, func(x order.Order) bool { return x.Qty == 0 }))
	}
	return fills, after
}

// books tells the books in which rows wait.
func books(t *testing.T, rows [][]order.Order) []*book.Book {
	t.Helper()
	var b []*book.Book
	for _, row := range rows {
		b = append(b, filled(t, row...))
	}
	return b
}

// TestP2201IsThePlainReading makes and commits, made plans and others, against the plain reading, and asks the books each time.
func TestP2201IsThePlainReading(t *testing.T) {
	next := walk(22)
	can, could := 0, 0
	for range 1500 {
		l := drawnLegs(next, int(next(3))+2)
		var rows [][]order.Order
		for range l {
			rows = append(rows, drawnRow(next, int(next(14))))
		}
		b := books(t, rows)
		for range 6 {
			o := cbook.Order{ID: 100 + next(9), Side: int(next(2)) + 1, Net: next(120) - 60, Units: 1 + next(6)}
			want, ok := plainMake(l, rows, o)
			if !ok {
				checkNone(t, l, b, o)
				want = Plan{Units: 1 + next(3)}
				for range l {
					want.Prices = append(want.Prices, 7+next(7))
				}
			} else {
				can++
				checkMake(t, l, b, o, want.Units, want.Net, want.Prices...)
			}
			if next(3) == 0 {
				want.Units++ // which often is one too many
			}
			fills, after := plainCommit(l, rows, o, want)
			if fills == nil {
				checkRefused(t, l, b, o, want, api.ErrState)
				continue
			}
			could++
			checkCommit(t, l, b, o, want, fills)
			rows = after
			if again := books(t, rows); look(again) != look(b) {
				t.Fatalf("Commit(%v, .., %+v, %+v) leaves %s; want %s", l, o, want, look(b), look(again))
			}
		}
	}
	if can < 300 || could < 300 {
		t.Errorf("only %d plans were made, and %d committed", can, could)
	}
}

// TestT2AllLegsOrNone sums what each leg has of all that is made and committed: its ratio of each unit, on its side, at prices whose net is told.
func TestT2AllLegsOrNone(t *testing.T) {
	next := walk(5)
	done := 0
	for range 2000 {
		l := drawnLegs(next, int(next(3))+2)
		var b []*book.Book
		for range l {
			b = append(b, filled(t, drawnRow(next, 4+int(next(14)))...))
		}
		o := cbook.Order{ID: 100, Side: int(next(2)) + 1, Net: next(100) - 50, Units: 1 + next(9)}
		p, ok := Make(l, b, o)
		if !ok {
			continue
		}
		done++
		sides := make([][2][]order.Order, len(l))
		for i := range l {
			sides[i] = [2][]order.Order{b[i].Row(api.Buy), b[i].Row(api.Sell)}
		}
		fills, wrong := Commit(l, b, o, p)
		if wrong != api.OK || len(fills) != len(l) || p.Units < 1 || p.Units > o.Units || !cbook.Takes(o, p.Net) {
			t.Fatalf("of %v and %+v: %+v, and then %v, %v", l, o, p, fills, wrong)
		}
		paid := int64(0)
		for i, leg := range l {
			buys := (leg.Sign == 1) == (o.Side == api.Buy)
			sum := int64(0)
			for _, f := range fills[i] {
				sum += f.Qty
				paid += int64(leg.Sign) * f.Price * f.Qty
				from := sides[i][1]
				if !buys {
					from = sides[i][0]
				}
				at := slices.IndexFunc(from, func(x order.Order) bool { return x.ID == f.Maker })
				if at < 0 || from[at].Price != f.Price || from[at].Qty < f.Qty || f.Taker != o.ID || f.Price != from[0].Price {
					t.Errorf("%v of leg %d %v isn't of %v", f, i, leg, from)
				}
			}
			if sum != leg.Ratio*p.Units {
				t.Errorf("leg %d %v of %d units has %d", i, leg, p.Units, sum)
			}
		}
		if paid != p.Net*p.Units {
			t.Errorf("%d units at %d: %d is paid", p.Units, p.Net, paid)
		}
	}
	if done < 300 {
		t.Errorf("only %d were done", done)
	}
}

// TestT2NothingThatCouldTradeIsLeft goes on making and committing until there is nothing: then not even one unit could be had.
func TestT2NothingThatCouldTradeIsLeft(t *testing.T) {
	next := walk(6)
	for range 300 {
		l := drawnLegs(next, int(next(3))+2)
		var b []*book.Book
		for range l {
			b = append(b, filled(t, drawnRow(next, 14)...))
		}
		o := cbook.Order{ID: 100, Side: int(next(2)) + 1, Net: next(60) - 30, Units: 1000}
		for {
			p, ok := Make(l, b, o)
			if !ok {
				break
			}
			if _, wrong := Commit(l, b, o, p); wrong != api.OK {
				t.Fatalf("of %v and %+v: %+v, and then %v", l, o, p, wrong)
			}
			o.Units -= p.Units
		}
		one := plan(1)
		for i, leg := range l {
			front, ok := b[i].Front(had(map[bool]int{true: 1, false: -1}[(leg.Sign == 1) == (o.Side == api.Buy)]))
			if !ok {
				one.Units = 0
			}
			one.Prices = append(one.Prices, front.Price)
		}
		net, _ := legs.Net(l, one.Prices)
		if one.Units == 0 || !cbook.Takes(o, net) {
			continue
		}
		checkRefused(t, l, b, o, one, api.ErrState)
	}
}

// TestW4WhoSellsHasWhatWhoBuysTheTurnedPays makes and commits a strategy bought, and its turn sold: the same, at the net's other sign.
func TestW4WhoSellsHasWhatWhoBuysTheTurnedPays(t *testing.T) {
	next := walk(9)
	for range 500 {
		l := drawnLegs(next, int(next(3))+2)
		var rows [][]order.Order
		for range l {
			rows = append(rows, drawnRow(next, 10))
		}
		one, two := books(t, rows), books(t, rows)
		net, units := next(60)-30, 1+next(4)
		o := cbook.Order{ID: 100, Side: api.Buy, Net: net, Units: units}
		turned := cbook.Order{ID: 100, Side: api.Sell, Net: -net, Units: units}
		p, ok := Make(l, one, o)
		q, is := Make(legs.Turned(l), two, turned)
		if p.Units != q.Units || p.Net != -q.Net || !slices.Equal(p.Prices, q.Prices) || ok != is {
			t.Fatalf("%v bought: %+v, %v; its turn sold: %+v, %v", l, p, ok, q, is)
		}
		if !ok {
			continue
		}
		fills, _ := Commit(l, one, o, p)
		others, _ := Commit(legs.Turned(l), two, turned, q)
		if !slices.EqualFunc(fills, others, slices.Equal) || look(one) != look(two) {
			t.Errorf("%v bought: %v; its turn sold: %v", l, fills, others)
		}
	}
}

func TestP1P4AnythingIsAnswered(t *testing.T) {
	few := []int64{0, 1, -1, 2, 5, 12, 1000000, 1000001, 1 << 32, most, least}
	for k, l := range strange() {
		a := few[k%len(few)]
		b := few[k/len(few)%len(few)]
		for _, n := range []int{0, min(len(l), 5), 3} {
			x := others(t, n)
			o := cbook.Order{ID: a, Owner: int(b), Side: int(b), Net: a, Units: b}
			if p, ok := Make(l, x, o); !ok && (p.Units != 0 || p.Net != 0 || p.Prices != nil) {
				t.Errorf("Make(%v, %d books, %+v): %+v beside false", l, n, o, p)
			}
			p := Plan{Units: b, Net: a, Prices: []int64{a, b, 12, 10, 12}[:min(len(l), 5)]}
			if fills, wrong := Commit(l, x, o, p); wrong != api.OK && fills != nil {
				t.Errorf("Commit(%v, %d books, %+v, %+v): %v beside %v", l, n, o, p, fills, wrong)
			}
		}
	}
}

// spoil writes over all of a list, its spare room too.
func spoil[T any](l []T, bad T) {
	l = l[:cap(l)]
	for i := range l {
		l[i] = bad
	}
}

// roomy tells a copy of l with spare room behind it, and the whole of that memory.
func roomy[T any](l []T) (view, whole []T) {
	whole = make([]T, len(l)+6)
	copy(whole, l)
	return whole[:len(l)], whole
}

func TestP2ListsStayAsTheyAreAndAreNotKept(t *testing.T) {
	for _, o := range []cbook.Order{buy(9, 2), sell(2, 1), buy(8, 2), buy(9, 999)} {
		l, wholeLegs := roomy(spread())
		b, wholeBooks := roomy(waiting(t))
		prices, wholePrices := roomy([]int64{12, 5})
		if o.Side == api.Sell {
			prices[0], prices[1] = 10, 6
		}
		wereLegs, wereBooks, werePrices := slices.Clone(wholeLegs), slices.Clone(wholeBooks), slices.Clone(wholePrices)
		p, _ := Make(l, b, o)
		told := slices.Clone(p.Prices)
		fills, _ := Commit(l, b, o, Plan{Units: o.Units, Prices: prices})
		said := fmt.Sprint(fills)
		if !slices.Equal(wholeLegs, wereLegs) || !slices.Equal(wholeBooks, wereBooks) || !slices.Equal(wholePrices, werePrices) {
			t.Errorf("%+v: what was handed in is changed: %v, %v, %v", o, wholeLegs, wholeBooks, wholePrices)
		}
		spoil(wholeLegs, legs.Leg{Series: -9, Sign: -9, Ratio: -9})
		spoil(wholeBooks, nil)
		spoil(wholePrices, -9)
		if !slices.Equal(p.Prices, told) || fmt.Sprint(fills) != said {
			t.Errorf("%+v: %v, %v are of what was handed in", o, p.Prices, fills)
		}
	}
}

func TestP2AnswersAreNewMemory(t *testing.T) {
	l, b := spread(), waiting(t)
	for _, o := range []cbook.Order{buy(9, 1), sell(2, 1)} {
		one, _ := Make(l, b, o)
		two, _ := Make(l, b, o)
		told := slices.Clone(two.Prices)
		spoil(one.Prices, -9)
		if !slices.Equal(two.Prices, told) {
			t.Errorf("two answers of Make share memory: %v, %v", one, two)
		}
		checkMake(t, l, b, o, two.Units, two.Net, told...)
		fills, _ := Commit(l, b, o, two)
		others := fmt.Sprint(fills[1])
		was := look(b)
		spoil(fills[0], match.Fill{Maker: -9, Taker: -9, Price: -9, Qty: -9})
		if fmt.Sprint(fills[1]) != others || look(b) != was {
			t.Errorf("two lists of one answer share memory, or one is kept: %v", fills)
		}
		spoil(fills, nil)
		if look(b) != was {
			t.Errorf("an answer is kept")
		}
	}
}

// TestP2MadePlansAreTheCallersOwn commits a plan, and commits it again.
func TestP2MadePlansAreTheCallersOwn(t *testing.T) {
	l, b, o := spread(), waiting(t), buy(9, 1)
	p, _ := Make(l, b, o)
	checkCommit(t, l, b, o, p, [][]match.Fill{{fill(3, 77, 12, 2)}, {fill(6, 77, 5, 3)}})
	checkCommit(t, l, b, o, p, [][]match.Fill{{fill(3, 77, 12, 2)}, {fill(6, 77, 5, 3)}})
	checkCommit(t, l, b, o, p, [][]match.Fill{{fill(2, 77, 12, 2)}, {fill(5, 77, 5, 3)}})
	checkRefused(t, l, b, o, p, api.ErrState)
}

// asked tells all that is answered to a long row of calls.
func asked(t *testing.T) string {
	next := walk(3)
	var out []byte
	for range 300 {
		l := drawnLegs(next, int(next(3))+2)
		var b []*book.Book
		for range l {
			b = append(b, filled(t, drawnRow(next, 10)...))
		}
		o := cbook.Order{ID: 100, Side: int(next(2)) + 1, Net: next(60) - 30, Units: 1 + next(4)}
		p, ok := Make(l, b, o)
		fills, wrong := Commit(l, b, o, p)
		out = fmt.Append(out, p, ok, fills, wrong, look(b), "\n")
	}
	return string(out)
}

func TestP3TheSameCallsAnswerTheSame(t *testing.T) {
	first := asked(t)
	for range 3 {
		if asked(t) != first {
			t.Fatal("the same calls answer otherwise")
		}
	}
}

// TestP5WhatIsRefusedChangesNothing refuses much, and then goes on as if nothing had been asked.
func TestP5WhatIsRefusedChangesNothing(t *testing.T) {
	l, b := spread(), waiting(t)
	for _, p := range []Plan{{}, plan(0, 12, 5), plan(1), plan(1, 12), plan(4, 12, 5), plan(4, 13, 5), plan(1, 12, 7), plan(1000001, 12, 5)} {
		if _, wrong := Commit(l, b, buy(9, 5), p); wrong == api.OK {
			t.Errorf("%+v is not refused", p)
		}
	}
	if look(b) != look(waiting(t)) {
		t.Errorf("the books are changed: %s", look(b))
	}
	checkMake(t, l, b, buy(9, 5), 3, 9, 12, 5)
	checkCommit(t, l, b, buy(9, 5), plan(3, 12, 5), [][]match.Fill{{fill(3, 77, 12, 4), fill(2, 77, 12, 2)}, {fill(6, 77, 5, 6), fill(5, 77, 5, 3)}})
}

// TestP8OneBookOfTwoLegsIsAnswered hands in a book twice, of which there is not enough for both.
func TestP8OneBookOfTwoLegsIsAnswered(t *testing.T) {
	for _, l := range [][]legs.Leg{made(1, 1, 1, 2, 1, 1), made(1, 1, 1, 2, -1, 1)} {
		x := filled(t, member(1, api.Buy, 10, 3), member(2, api.Sell, 12, 3))
		b := []*book.Book{x, x}
		Make(l, b, buy(100, 2))
		Commit(l, b, buy(100, 2), plan(2, 12, 12))
		Commit(l, b, buy(100, 2), plan(2, 12, 10))
		if b[0] != x || b[1] != x {
			t.Errorf("the books handed in are others")
		}
	}
}
