package tops

import (
	"fmt"
	"math"
	"slices"
	"testing"

	"straddle/api"
	"straddle/book"
	"straddle/legs"
	"straddle/order"
)

const (
	most  = math.MaxInt64
	least = math.MinInt64
)

// made tells legs of series, sign and ratio, one leg behind the other.
func made(x ...int64) []legs.Leg {
	var l []legs.Leg
	for ; len(x) > 0; x = x[3:] {
		l = append(l, legs.Leg{Series: int(x[0]), Sign: int(x[1]), Ratio: x[2]})
	}
	return l
}

// both tells a top by its Bid, its Ask, and how much there is of each.
func both(bid, bidQty, ask, askQty int64) Top {
	return Top{Bid: bid, BidQty: bidQty, Ask: ask, AskQty: askQty}
}

// walk tells numbers below n, each time the same row of them.
func walk(seed uint32) func(n int) int64 {
	return func(n int) int64 {
		seed = seed*1664525 + 1013904223
		return int64(seed>>8) % int64(n)
	}
}

// others are numbers that are neither Buy nor Sell, nor a sign.
func others() []int { return []int{0, -2, 3, 4, 1 << 32, 1<<32 + 1, 1<<32 + 2, 1<<32 - 1, least, most} }

// forms tells all legs of n series whose ratios are 1 to that many.
func forms(n int, ratios int64) [][]legs.Leg {
	all := [][]legs.Leg{nil}
	for i := range n {
		var longer [][]legs.Leg
		for _, l := range all {
			for ratio := int64(1); ratio <= ratios; ratio++ {
				for _, sign := range []int{1, -1} {
					longer = append(longer, append(slices.Clone(l), legs.Leg{Series: 9 - i, Sign: sign, Ratio: ratio}))
				}
			}
		}
		all = longer
	}
	return all
}

// drawnTop tells a top of few prices and quantities, of which a side, or both, may be none.
func drawnTop(next func(n int) int64) Top {
	var t Top
	if next(12) > 0 {
		t.Bid, t.BidQty, t.BidCust = 1+next(9), 1+next(14), next(2) == 0
	}
	if next(12) > 0 {
		t.Ask, t.AskQty, t.AskCust = 3+next(9), 1+next(14), next(2) == 0
	}
	return t
}

// drawnTops tells n tops.
func drawnTops(next func(n int) int64, n int) []Top {
	var t []Top
	for range n {
		t = append(t, drawnTop(next))
	}
	return t
}

// member and customer tell orders of the two kinds.
func member(id int64, side int, price, qty int64) order.Order {
	return order.Order{ID: id, Side: side, Price: price, Qty: qty, Life: order.Day}
}

func customer(id int64, side int, price, qty int64) order.Order {
	return order.Order{ID: id, Side: side, Price: price, Qty: qty, Life: order.Day, Cust: true}
}

// filled tells a book in which these wait.
func filled(t *testing.T, orders ...order.Order) *book.Book {
	t.Helper()
	b := book.New()
	for _, o := range orders {
		if wrong := b.Insert(o); wrong != api.OK {
			t.Fatalf("Insert of %+v: %v", o, wrong)
		}
	}
	return b
}

// look tells all that waits in a book.
func look(b *book.Book) string {
	return fmt.Sprint(b.Len(), b.Row(api.Buy), b.Row(api.Sell), b.Levels(api.Buy), b.Levels(api.Sell), b.Cust(api.Buy), b.Cust(api.Sell))
}

// checkOf asks whether Of tells this, and again so, and leaves the book.
func checkOf(t *testing.T, b *book.Book, want Top) {
	t.Helper()
	was := look(b)
	for range 2 {
		if got := Of(b); got != want {
			t.Errorf("Of: %+v; want %+v; of %s", got, want, was)
		}
	}
	if look(b) != was {
		t.Errorf("Of changed the book: %s; was %s", look(b), was)
	}
}

// checkPrice asks whether Price tells this; 0, 0: that there is none.
func checkPrice(t *testing.T, top Top, sign int, price, qty int64) {
	t.Helper()
	gotPrice, gotQty, ok := Price(top, sign)
	if gotPrice != price || gotQty != qty || ok != (price != 0) {
		t.Errorf("Price(%+v, %d): %d, %d, %v; want %d, %d", top, sign, gotPrice, gotQty, ok, price, qty)
	}
}

// checkPrices asks whether Prices tells these; nil: that there are none.
func checkPrices(t *testing.T, l []legs.Leg, tt []Top, side int, want []int64) {
	t.Helper()
	got, ok := Prices(l, tt, side)
	if !slices.Equal(got, want) || ok != (want != nil) {
		t.Errorf("Prices(%v, %v, %d): %v, %v; want %v", l, tt, side, got, ok, want)
	}
}

// checkSynthetic asks whether Synthetic tells this; 0 units: that there is none.
func checkSynthetic(t *testing.T, l []legs.Leg, tt []Top, side int, net, units int64) {
	t.Helper()
	gotNet, gotUnits, ok := Synthetic(l, tt, side)
	if gotNet != net || gotUnits != units || ok != (units != 0) {
		t.Errorf("Synthetic(%v, %v, %d): %d, %d, %v; want %d, %d", l, tt, side, gotNet, gotUnits, ok, net, units)
	}
}

// checkNone asks whether neither Prices nor Synthetic tells anything.
func checkNone(t *testing.T, l []legs.Leg, tt []Top, side int) {
	t.Helper()
	checkPrices(t, l, tt, side, nil)
	checkSynthetic(t, l, tt, side, 0, 0)
}

// checkInside asks whether Inside tells this.
func checkInside(t *testing.T, top Top, price int64, want bool) {
	t.Helper()
	if got := Inside(top, price); got != want {
		t.Errorf("Inside(%+v, %d): %v", top, price, got)
	}
}

func TestP1901OfWordForWord(t *testing.T) {
	for what, c := range map[string]struct {
		orders []order.Order
		want   Top
	}{
		"nobody":               {nil, Top{}},
		"one buys":             {[]order.Order{member(1, api.Buy, 10, 5)}, Top{Bid: 10, BidQty: 5}},
		"one sells":            {[]order.Order{member(1, api.Sell, 10, 5)}, Top{Ask: 10, AskQty: 5}},
		"a customer buys":      {[]order.Order{customer(1, api.Buy, 10, 5)}, Top{Bid: 10, BidQty: 5, BidCust: true}},
		"a customer sells":     {[]order.Order{customer(1, api.Sell, 10, 5)}, Top{Ask: 10, AskQty: 5, AskCust: true}},
		"both":                 {[]order.Order{member(1, api.Buy, 10, 5), member(2, api.Sell, 11, 7)}, both(10, 5, 11, 7)},
		"both, customers":      {[]order.Order{customer(1, api.Buy, 10, 5), customer(2, api.Sell, 11, 7)}, Top{10, 5, 11, 7, true, true}},
		"one who buys is one":  {[]order.Order{customer(1, api.Buy, 10, 5), member(2, api.Sell, 11, 7)}, Top{10, 5, 11, 7, true, false}},
		"one who sells is one": {[]order.Order{member(1, api.Buy, 10, 5), customer(2, api.Sell, 11, 7)}, Top{10, 5, 11, 7, false, true}},
		"more levels": {[]order.Order{
			member(1, api.Buy, 8, 100), member(2, api.Buy, 10, 5), member(3, api.Buy, 9, 200),
			member(4, api.Sell, 13, 300), member(5, api.Sell, 11, 7), member(6, api.Sell, 12, 400),
		}, both(10, 5, 11, 7)},
		"all of a level": {[]order.Order{
			member(1, api.Buy, 10, 5), member(2, api.Buy, 10, 6), member(3, api.Buy, 9, 1), member(4, api.Buy, 10, 7),
			member(5, api.Sell, 12, 8), member(6, api.Sell, 12, 9), member(7, api.Sell, 13, 1), member(8, api.Sell, 12, 10),
		}, both(10, 18, 12, 27)},
		"a customer who came last": {[]order.Order{
			member(1, api.Buy, 10, 5), member(2, api.Buy, 10, 6), customer(9, api.Buy, 10, 1),
			member(3, api.Sell, 12, 8), member(4, api.Sell, 12, 9), customer(8, api.Sell, 12, 2),
		}, Top{10, 12, 12, 19, true, true}},
		"customers behind": {[]order.Order{
			member(2, api.Buy, 10, 5), customer(1, api.Buy, 9, 6), member(4, api.Sell, 12, 8), customer(3, api.Sell, 13, 9),
		}, both(10, 5, 12, 8)},
		"at the bounds": {[]order.Order{member(1, api.Buy, 1, 1), member(2, api.Sell, 1000000, 1000000)}, both(1, 1, 1000000, 1000000)},
		"turned bounds": {[]order.Order{member(1, api.Sell, 1, 1), member(2, api.Buy, 1000000, 1000000)}, both(1000000, 1000000, 1, 1)},
		"who would trade": {[]order.Order{
			member(1, api.Buy, 12, 5), member(2, api.Sell, 11, 7), member(3, api.Sell, 12, 1), customer(4, api.Buy, 11, 2),
		}, both(12, 5, 11, 7)},
	} {
		checkOf(t, filled(t, c.orders...), c.want)
		slices.Reverse(c.orders) // whoever came first
		checkOf(t, filled(t, c.orders...), c.want)
		if t.Failed() {
			t.Fatal(what)
		}
	}
	checkOf(t, &book.Book{}, Top{})
}

func TestP1901OfAFullBook(t *testing.T) {
	var orders []order.Order
	for n := range int64(1024) {
		orders = append(orders, member(n+1, api.Buy+int(n/1000), 7+n/1000*5, 1000000))
	}
	checkOf(t, filled(t, orders...), both(7, 1000000000, 12, 24000000))
}

func TestP1901OfIsAsTheBookIsThen(t *testing.T) {
	b := filled(t, customer(1, api.Buy, 10, 5), member(2, api.Buy, 10, 6), member(3, api.Buy, 9, 7), member(4, api.Sell, 12, 8), customer(5, api.Sell, 13, 9))
	first, twin := Of(b), b.Twin()
	checkOf(t, b, Top{10, 11, 12, 8, true, false})
	b.Reduce(2, 4)
	checkOf(t, b, Top{10, 7, 12, 8, true, false})
	b.Remove(1)
	checkOf(t, b, Top{10, 2, 12, 8, false, false})
	b.Remove(4)
	checkOf(t, b, Top{10, 2, 13, 9, false, true})
	b.Remove(2)
	checkOf(t, b, Top{9, 7, 13, 9, false, true})
	b.Remove(3)
	checkOf(t, b, Top{0, 0, 13, 9, false, true})
	b.Remove(5)
	checkOf(t, b, Top{})
	checkOf(t, twin, Top{10, 11, 12, 8, true, false})
	if first != (Top{10, 11, 12, 8, true, false}) {
		t.Errorf("what was told changes with the book: %+v", first)
	}
}

// plainOf tells the top of orders that are in no row.
func plainOf(orders map[int64]order.Order) Top {
	var top Top
	for _, o := range orders {
		if o.Side == api.Buy {
			top.Bid = max(top.Bid, o.Price)
		} else if top.Ask == 0 || o.Price < top.Ask {
			top.Ask = o.Price
		}
	}
	for _, o := range orders {
		switch {
		case o.Side == api.Buy && o.Price == top.Bid:
			top.BidQty += o.Qty
			top.BidCust = top.BidCust || o.Cust
		case o.Side == api.Sell && o.Price == top.Ask:
			top.AskQty += o.Qty
			top.AskCust = top.AskCust || o.Cust
		}
	}
	return top
}

func TestP1901OfIsThePlainReading(t *testing.T) {
	next := walk(1901)
	met := map[string]int{}
	for range 200 {
		b, orders := book.New(), map[int64]order.Order{}
		ids, prices := 1+int(next(24)), 1+int(next(8))
		for range 60 {
			id, qty := 1+next(ids), 1+next(6)
			switch next(5) {
			case 0:
				b.Remove(id)
				delete(orders, id)
			case 1:
				if o, wrong := b.Reduce(id, qty); wrong == api.OK {
					orders[id] = o
				}
			default:
				o := order.Order{ID: id, Side: 1 + int(next(2)), Price: 1 + next(prices), Qty: qty, Cust: next(3) == 0}
				if b.Insert(o) == api.OK {
					orders[id] = o
				}
			}
			want := plainOf(orders)
			met[fmt.Sprint("sides ", want.Bid > 0, want.Ask > 0)]++
			met[fmt.Sprint("customers ", want.BidCust, want.AskCust)]++
			checkOf(t, b, want)
			if t.Failed() { // enough is told
				return
			}
		}
	}
	for _, a := range []bool{false, true} {
		for _, b := range []bool{false, true} {
			for _, what := range []string{fmt.Sprint("sides ", a, b), fmt.Sprint("customers ", a, b)} {
				if met[what] < 200 {
					t.Errorf("only %d of %s", met[what], what)
				}
			}
		}
	}
}

func TestP1901PriceWordForWord(t *testing.T) {
	top := both(10, 7, 12, 9)
	checkPrice(t, top, 1, 12, 9)
	checkPrice(t, top, -1, 10, 7)
	for _, sign := range append(others(), 2) {
		checkPrice(t, top, sign, 0, 0)
		checkPrice(t, Top{}, sign, 0, 0)
		checkPrice(t, Top{Bid: 10, BidQty: 7}, sign, 0, 0)
		checkPrice(t, Top{Ask: 12, AskQty: 9}, sign, 0, 0)
	}
	checkPrice(t, Top{}, 1, 0, 0)
	checkPrice(t, Top{}, -1, 0, 0)
	checkPrice(t, Top{Bid: 10, BidQty: 7}, 1, 0, 0)
	checkPrice(t, Top{Bid: 10, BidQty: 7}, -1, 10, 7)
	checkPrice(t, Top{Ask: 12, AskQty: 9}, 1, 12, 9)
	checkPrice(t, Top{Ask: 12, AskQty: 9}, -1, 0, 0)
	checkPrice(t, both(1, 1, 1000000, 1024000000), 1, 1000000, 1024000000)
	checkPrice(t, both(1, 1, 1000000, 1024000000), -1, 1, 1)
	checkPrice(t, both(1000000, 1024000000, 1, 1), 1, 1, 1)
	checkPrice(t, both(1000000, 1024000000, 1, 1), -1, 1000000, 1024000000)
	checkPrice(t, both(10, 7, 10, 9), 1, 10, 9)
	checkPrice(t, both(10, 7, 10, 9), -1, 10, 7)
	checkPrice(t, Top{10, 7, 12, 9, true, true}, 1, 12, 9) // whosever it is
	checkPrice(t, Top{10, 7, 12, 9, true, true}, -1, 10, 7)
}

// TestP1901PriceGoesByThePrice asks about quantities beside a price of 0, and prices beside a quantity of 0.
func TestP1901PriceGoesByThePrice(t *testing.T) {
	for _, top := range []Top{{BidQty: 4, AskQty: 5}, {0, 4, 0, 5, true, true}} {
		checkPrice(t, top, 1, 0, 0)
		checkPrice(t, top, -1, 0, 0)
	}
	checkPrice(t, both(0, 4, 12, 5), -1, 0, 0)
	checkPrice(t, both(10, 4, 0, 5), 1, 0, 0)
	checkPrice(t, Top{Bid: 10, Ask: 12}, 1, 12, 0)
	checkPrice(t, Top{Bid: 10, Ask: 12}, -1, 10, 0)
}

func TestP1901PriceOfAllTops(t *testing.T) {
	few := []int64{0, 1, 2, 9, 1000000}
	for _, bid := range few {
		for _, bidQty := range few[1:] {
			for _, ask := range few {
				for _, askQty := range few[1:] {
					top, buys, sells := both(bid, bidQty, ask, askQty), askQty, bidQty
					if ask == 0 {
						buys = 0
					}
					if bid == 0 {
						sells = 0
					}
					checkPrice(t, top, 1, ask, buys)
					checkPrice(t, top, -1, bid, sells)
				}
			}
		}
	}
}

func TestP1901InsideWordForWord(t *testing.T) {
	top := both(10, 7, 12, 9)
	for price, want := range map[int64]bool{least: false, -11: false, 0: false, 1: false, 9: false, 10: true, 11: true, 12: true, 13: false, 1000000: false, 1<<32 + 11: false, most: false} {
		checkInside(t, top, price, want)
		checkInside(t, Top{10, 1, 12, 1, true, true}, price, want) // whosever they are
		checkInside(t, Top{Bid: 10, Ask: 12}, price, want)
	}
	for _, price := range []int64{least, -1, 0, 1, 9, 10, 11, 12, 13, 1000000, most} {
		for _, none := range []Top{{}, {Bid: 10, BidQty: 7}, {Ask: 12, AskQty: 9}, {Bid: 1, BidQty: 1, AskQty: 9}, {Ask: 1000000, AskQty: 1, BidQty: 7}} {
			checkInside(t, none, price, false)
		}
		checkInside(t, both(10, 1, 10, 1), price, price == 10)
		checkInside(t, both(12, 1, 10, 1), price, false) // who would trade has nothing between
		checkInside(t, both(1, 1, 1000000, 1), price, price >= 1 && price <= 1000000)
		checkInside(t, both(1, 1, 1, 1), price, price == 1)
		checkInside(t, both(1000000, 1, 1000000, 1), price, price == 1000000)
	}
}

func TestP1901InsideOfAllTops(t *testing.T) {
	for bid := range int64(9) {
		for ask := range int64(9) {
			within := map[int64]bool{}
			for price := bid; price <= ask && bid*ask > 0; price++ {
				within[price] = true
			}
			for price := int64(-3); price < 12; price++ {
				checkInside(t, both(bid, 1, ask, 1), price, within[price])
			}
		}
	}
}

func TestP1901PricesAndSyntheticWordForWord(t *testing.T) {
	l := made(1, 1, 2, 2, -1, 3)
	tt := []Top{both(10, 7, 12, 9), both(5, 10, 6, 4)}
	checkPrices(t, l, tt, api.Buy, []int64{12, 5})
	checkSynthetic(t, l, tt, api.Buy, 9, 3)
	checkPrices(t, l, tt, api.Sell, []int64{10, 6})
	checkSynthetic(t, l, tt, api.Sell, 2, 1)

	l = made(9, 1, 1, 4, 1, 1) // each leg has the top at its place, whatever its number
	checkPrices(t, l, tt, api.Buy, []int64{12, 6})
	checkSynthetic(t, l, tt, api.Buy, 18, 4)
	checkPrices(t, l, tt, api.Sell, []int64{10, 5})
	checkSynthetic(t, l, tt, api.Sell, 15, 7)

	l = made(1, -1, 1, 2, -1, 2) // who buys it has its net
	checkPrices(t, l, tt, api.Buy, []int64{10, 5})
	checkSynthetic(t, l, tt, api.Buy, -20, 5)
	checkPrices(t, l, tt, api.Sell, []int64{12, 6})
	checkSynthetic(t, l, tt, api.Sell, -24, 2)

	l = made(1, 1, 1, 2, -1, 2) // a net of 0 is one
	checkSynthetic(t, l, []Top{both(9, 3, 10, 5), both(5, 8, 6, 8)}, api.Buy, 0, 4)
	checkSynthetic(t, l, []Top{both(12, 3, 13, 5), both(5, 8, 6, 8)}, api.Sell, 0, 3)

	l = made(3, 1, 1, 2, -1, 2, 1, 1, 1)
	tt = []Top{both(30, 9, 32, 8), both(20, 20, 21, 30), both(11, 5, 13, 6)}
	checkPrices(t, l, tt, api.Buy, []int64{32, 20, 13})
	checkSynthetic(t, l, tt, api.Buy, 5, 6)
	checkPrices(t, l, tt, api.Sell, []int64{30, 21, 11})
	checkSynthetic(t, l, tt, api.Sell, -1, 5)

	l = made(1, 1, 1, 2, -1, 2, 3, 1, 3, 4, -1, 4)
	tt = []Top{both(1, 40, 2, 50), both(3, 60, 4, 70), both(5, 80, 6, 90), both(7, 100, 8, 110)}
	checkPrices(t, l, tt, api.Buy, []int64{2, 3, 6, 7})
	checkSynthetic(t, l, tt, api.Buy, 2-6+18-28, 25)
	checkPrices(t, l, tt, api.Sell, []int64{1, 4, 5, 8})
	checkSynthetic(t, l, tt, api.Sell, 1-8+15-32, 26)
}

func TestP1901EverySideButBuySells(t *testing.T) {
	l, tt := made(1, 1, 2, 2, -1, 3), []Top{both(10, 7, 12, 9), both(5, 10, 6, 4)}
	for _, side := range append(others(), api.Sell, -1, 7) {
		checkPrices(t, l, tt, side, []int64{10, 6})
		checkSynthetic(t, l, tt, side, 2, 1)
		checkNone(t, l, []Top{both(0, 0, 12, 9), tt[1]}, side)
		checkNone(t, l, []Top{tt[0], both(5, 10, 0, 0)}, side)
	}
}

// TestP1901WhatIsNotAskedMayLack asks of every leg for the side that it takes, and for no other.
func TestP1901WhatIsNotAskedMayLack(t *testing.T) {
	next := walk(19)
	for n := 2; n <= 4; n++ {
		for _, l := range forms(n, 1) {
			for _, side := range []int{api.Buy, api.Sell} {
				needed, want, net := make([]Top, n), make([]int64, n), int64(0)
				for i, leg := range l {
					want[i] = 1 + next(50)
					net += int64(leg.Sign) * want[i]
					if (leg.Sign == 1) == (side == api.Buy) {
						needed[i] = Top{Ask: want[i], AskQty: 5}
					} else {
						needed[i] = Top{Bid: want[i], BidQty: 5}
					}
				}
				checkPrices(t, l, needed, side, want)
				checkSynthetic(t, l, needed, side, net, 5)
				checkNone(t, l, needed, 3-side)
				for i, top := range needed { // each lacks in turn, while the other side is there
					tt := slices.Clone(needed)
					tt[i] = Top{Bid: top.Ask, BidQty: top.AskQty, Ask: top.Bid, AskQty: top.BidQty}
					checkNone(t, l, tt, side)
					tt[i] = Top{}
					checkNone(t, l, tt, side)
					tt[i] = Top{BidQty: 5, AskQty: 5}
					checkNone(t, l, tt, side)
				}
			}
		}
	}
}

func TestP1901AsManyTopsAsLegs(t *testing.T) {
	for n := 2; n <= 4; n++ {
		for _, l := range forms(n, 1) {
			for many := range 12 {
				tt := make([]Top, many)
				for i := range tt {
					tt[i] = both(10, 7, 12, 9)
				}
				for _, side := range []int{api.Buy, api.Sell, 0} {
					if _, ok := Prices(l, tt, side); ok != (many == n) {
						t.Errorf("Prices of %d legs and %d tops: %v", n, many, ok)
					}
					if _, _, ok := Synthetic(l, tt, side); ok != (many == n) {
						t.Errorf("Synthetic of %d legs and %d tops: %v", n, many, ok)
					}
					if many != n {
						checkNone(t, l, tt, side)
					}
				}
			}
		}
	}
}

// strange tells legs that are of all kinds, most of which may not be.
func strange() [][]legs.Leg {
	out := [][]legs.Leg{nil, {}, made(1, 1, 1), made(1, 1, 1, 2, 1, 1, 3, 1, 1, 4, 1, 1, 5, 1, 1), make([]legs.Leg, 3), make([]legs.Leg, 5000)}
	few := []int64{0, 1, -1, 2, 4, 5, 1 << 32, most, least}
	for _, a := range few {
		for _, b := range few {
			for _, c := range few {
				out = append(out, made(a, b, c), made(a, b, c, 1, 1, 1), made(1, 1, 1, a, b, c), made(2, 1, 2, 7, -1, 4, c, b, a, 1, -1, 2))
			}
		}
	}
	return out
}

func TestP1901LegsThatCheckRefuses(t *testing.T) {
	refused := 0
	for _, l := range strange() {
		tt := make([]Top, len(l))
		for i := range tt {
			tt[i] = both(10, 7, 12, 9)
		}
		wrong := legs.Check(l) != nil
		if wrong {
			refused++
		}
		for _, side := range []int{api.Buy, api.Sell, 0} {
			if wrong {
				checkNone(t, l, tt, side)
				checkNone(t, l, nil, side)
			} else if prices, ok := Prices(l, tt, side); !ok || len(prices) != len(l) {
				t.Errorf("Prices of %v: %v, %v", l, prices, ok)
			}
		}
	}
	if refused < 1000 || refused > len(strange())-50 {
		t.Errorf("%d of %d were refused", refused, len(strange()))
	}
}

func TestP1901UnitsAtTheirBounds(t *testing.T) {
	for ratio := int64(1); ratio <= 4; ratio++ {
		for _, sign := range []int64{1, -1} {
			l := made(1, sign, ratio, 2, 1, 1)
			for qty := range int64(18) {
				net := sign*ratio*10 + 20
				units := int64(0)
				for have := qty; have >= ratio; have -= ratio {
					units++
				}
				if units == 0 {
					net = 0
				}
				ahead := []Top{both(10, qty, 10, qty), both(20, 1000, 20, 1000)}
				for _, side := range []int{api.Buy, api.Sell} {
					checkSynthetic(t, l, ahead, side, net, units)
					checkSynthetic(t, []legs.Leg{l[1], l[0]}, []Top{ahead[1], ahead[0]}, side, net, units)
					checkPrices(t, l, ahead, side, []int64{10, 20}) // how many units there are is not asked
				}
			}
		}
	}
}

func TestP1901UnitsAreTheLeast(t *testing.T) {
	l := made(1, 1, 4, 2, -1, 3, 3, 1, 2, 4, -1, 1)
	for i, c := range []struct {
		qty   [4]int64
		units int64
	}{
		{[4]int64{4, 3, 2, 1}, 1},
		{[4]int64{3, 3, 2, 1}, 0},
		{[4]int64{4, 2, 2, 1}, 0},
		{[4]int64{4, 3, 1, 1}, 0},
		{[4]int64{4, 3, 2, 0}, 0},
		{[4]int64{11, 300, 200, 100}, 2},
		{[4]int64{400, 11, 200, 100}, 3},
		{[4]int64{400, 300, 11, 100}, 5},
		{[4]int64{400, 300, 200, 11}, 11},
		{[4]int64{12, 9, 6, 3}, 3},
		{[4]int64{12, 8, 6, 3}, 2},
		{[4]int64{1000000, 1000000, 1000000, 1000000}, 250000},
		{[4]int64{1024000000, 1024000000, 1024000000, 1024000000}, 256000000},
		{[4]int64{most, most, most, most}, most / 4},
	} {
		var asks, bids []Top
		for k, leg := range l {
			asks = append(asks, both(100, 1, 100, 1))
			bids = append(bids, both(100, 1, 100, 1))
			if leg.Sign == 1 {
				asks[k].AskQty, bids[k].BidQty = c.qty[k], c.qty[k]
			} else {
				asks[k].BidQty, bids[k].AskQty = c.qty[k], c.qty[k]
			}
		}
		net := int64(200)
		if c.units == 0 {
			net = 0
		}
		checkSynthetic(t, l, asks, api.Buy, net, c.units)
		checkSynthetic(t, l, bids, api.Sell, net, c.units)
		if t.Failed() {
			t.Fatal(i)
		}
	}
}

func TestP1901NetAtItsBounds(t *testing.T) {
	top := both(1000000, 4, 1000000, 4)
	tt := []Top{top, top, top, top}
	for _, side := range []int{api.Buy, api.Sell} {
		checkSynthetic(t, made(1, 1, 4, 2, 1, 4, 3, 1, 4, 4, 1, 4), tt, side, 16000000, 1)
		checkSynthetic(t, made(1, -1, 4, 2, -1, 4, 3, -1, 4, 4, -1, 4), tt, side, -16000000, 1)
		checkSynthetic(t, made(1, 1, 4, 2, -1, 4, 3, 1, 4, 4, -1, 4), tt, side, 0, 1)
	}
}

// plainHad tells prices, net and units leg by leg; nil: a price lacks; 0 units: there are none.
func plainHad(l []legs.Leg, tt []Top, buys bool) (prices []int64, net, units int64) {
	units = most
	for i, leg := range l {
		price, qty := tt[i].Bid, tt[i].BidQty
		if (leg.Sign > 0) == buys {
			price, qty = tt[i].Ask, tt[i].AskQty
		}
		if price == 0 {
			return nil, 0, 0
		}
		prices = append(prices, price)
		fits := int64(0)
		for (fits+1)*leg.Ratio <= qty {
			fits++
		}
		units = min(units, fits)
		for range leg.Ratio {
			if leg.Sign > 0 {
				net += price
			} else {
				net -= price
			}
		}
	}
	if units == 0 {
		net = 0
	}
	return prices, net, units
}

func TestP1901IsThePlainReading(t *testing.T) {
	next := walk(1)
	met := map[string]int{}
	for _, l := range slices.Concat(forms(2, 4), forms(3, 4), forms(4, 2), forms(4, 3)) {
		for range 12 {
			tt := drawnTops(next, len(l))
			for _, side := range []int{api.Buy, api.Sell} {
				prices, net, units := plainHad(l, tt, side == api.Buy)
				checkPrices(t, l, tt, side, prices)
				checkSynthetic(t, l, tt, side, net, units)
				met[fmt.Sprint(prices != nil, " ", units > 0)]++
			}
			if t.Failed() { // enough is told
				return
			}
		}
	}
	for _, what := range []string{"false false", "true false", "true true"} {
		if met[what] < 3000 {
			t.Errorf("only %d of %s", met[what], what)
		}
	}
}

func TestW4WhoSellsHasWhatWhoBuysTheTurnedPays(t *testing.T) {
	next := walk(4)
	count := 0
	for _, l := range slices.Concat(forms(2, 4), forms(3, 2), forms(4, 2)) {
		for range 10 {
			tt := drawnTops(next, len(l))
			sold, _ := Prices(l, tt, api.Sell)
			checkPrices(t, legs.Turned(l), tt, api.Buy, sold)
			net, units, ok := Synthetic(l, tt, api.Sell)
			checkSynthetic(t, legs.Turned(l), tt, api.Buy, -net, units)
			if ok {
				count++
			}
		}
	}
	if count < 1000 {
		t.Errorf("only %d could be had", count)
	}
}

// TestW4WhoBuysPaysNoLessThanWhoSellsHas asks about tops in which nobody would trade.
func TestW4WhoBuysPaysNoLessThanWhoSellsHas(t *testing.T) {
	next := walk(44)
	for _, l := range slices.Concat(forms(2, 4), forms(3, 3), forms(4, 2)) {
		for range 10 {
			var tt []Top
			for range l {
				bid := 1 + next(90)
				tt = append(tt, both(bid, 4+next(20), bid+next(9), 4+next(20)))
			}
			pays, _, buys := Synthetic(l, tt, api.Buy)
			has, _, sells := Synthetic(l, tt, api.Sell)
			if !buys || !sells || pays < has {
				t.Errorf("%v with %v: pays %d, %v, has %d, %v", l, tt, pays, buys, has, sells)
			}
			for _, side := range []int{api.Buy, api.Sell} {
				prices, _ := Prices(l, tt, side)
				for i, price := range prices {
					checkInside(t, tt[i], price, true)
				}
			}
		}
	}
}

// TestW4LegsInAnyOrderAreOneStrategy asks about legs and tops that change places.
func TestW4LegsInAnyOrderAreOneStrategy(t *testing.T) {
	next := walk(444)
	for _, l := range slices.Concat(forms(2, 4), forms(3, 3), forms(4, 2)) {
		tt := drawnTops(next, len(l))
		for _, side := range []int{api.Buy, api.Sell} {
			net, units, _ := Synthetic(l, tt, side)
			other, tops := slices.Clone(l), slices.Clone(tt)
			for range 5 {
				i, k := next(len(l)), next(len(l))
				other[i], other[k], tops[i], tops[k] = other[k], other[i], tops[k], tops[i]
				checkSynthetic(t, other, tops, side, net, units)
			}
		}
	}
}

// TestW4WhatIsToldIsInTheBooks goes the whole way: from books to units, and to the orders that they would take.
func TestW4WhatIsToldIsInTheBooks(t *testing.T) {
	next := walk(12)
	count := 0
	for _, l := range slices.Concat(forms(2, 4), forms(3, 2), forms(4, 2)) {
		var tt []Top
		var books []*book.Book
		for range l {
			b := book.New()
			for id := range 3 + next(14) {
				side := 1 + int(next(2))
				b.Insert(order.Order{ID: id + 1, Side: side, Price: int64(side*5) + next(4), Qty: 1 + next(9), Cust: next(4) == 0})
			}
			books, tt = append(books, b), append(tt, Of(b))
		}
		for _, side := range []int{api.Buy, api.Sell} {
			prices, priced := Prices(l, tt, side)
			_, units, ok := Synthetic(l, tt, side)
			if !priced {
				checkNone(t, l, tt, side)
				continue
			}
			fewest := int64(most)
			for i, leg := range l {
				from := api.Buy
				if (leg.Sign == 1) == (side == api.Buy) {
					from = api.Sell
				}
				row, have := books[i].Row(from), int64(0)
				if row[0].Price != prices[i] {
					t.Errorf("leg %d of %v has %d, and %+v is ahead", i, l, prices[i], row[0])
				}
				for _, o := range row {
					if o.Price == prices[i] {
						have += o.Qty
					}
				}
				fewest = min(fewest, have/leg.Ratio)
			}
			if units != fewest || ok != (fewest > 0) {
				t.Errorf("%v with %v: %d units, %v; want %d", l, tt, units, ok, fewest)
			}
			if ok {
				count++
			}
		}
	}
	if count < 200 {
		t.Errorf("only %d could be had", count)
	}
}

// strangeTops tells tops of which most may not be.
func strangeTops() []Top {
	out := []Top{{BidCust: true, AskCust: true}}
	few := []int64{least, -1, 0, 1, 1000000, most}
	for _, a := range few {
		for _, b := range few {
			for _, c := range few {
				for _, d := range few {
					out = append(out, both(a, b, c, d))
				}
			}
		}
	}
	return out
}

// TestP1P4AnythingIsAnswered asks about what may not be too; beside a false all is 0.
func TestP1P4AnythingIsAnswered(t *testing.T) {
	few, all := []int{least, -1, 0, 1, 2, 3, most}, strangeTops()
	for i, top := range all {
		for _, n := range few {
			if price, qty, ok := Price(top, n); !ok && (price != 0 || qty != 0) {
				t.Errorf("Price(%+v, %d): %d, %d beside a false", top, n, price, qty)
			}
			Inside(top, int64(n))
		}
		for _, l := range [][]legs.Leg{nil, made(1, 1, 4), made(1, 1, 4, 2, 1, 4), made(1, 1, 1, 2, -1, 4, 3, 1, 3), made(1, -1, 1, 2, -1, 4, 3, -1, 3, 4, -1, 4), make([]legs.Leg, 9)} {
			var tt []Top
			for k := range l {
				tt = append(tt, all[(i*7+k*31)%len(all)])
			}
			for _, side := range few {
				if prices, ok := Prices(l, tt, side); !ok && prices != nil {
					t.Errorf("Prices(%v, %+v, %d): %v beside a false", l, tt, side, prices)
				}
				if net, units, ok := Synthetic(l, tt, side); ok != (units > 0) || !ok && net|units != 0 {
					t.Errorf("Synthetic(%v, %+v, %d): %d, %d, %v", l, tt, side, net, units, ok)
				}
			}
		}
	}
}

// TestP4NoNetNoUnits asks about prices, none of which may be, whose net is no number.
func TestP4NoNetNoUnits(t *testing.T) {
	l, top := made(1, 1, 4, 2, 1, 4), both(1<<62, 8, 1<<62, 8)
	for _, side := range []int{api.Buy, api.Sell} {
		checkPrices(t, l, []Top{top, top}, side, []int64{1 << 62, 1 << 62})
		checkSynthetic(t, l, []Top{top, top}, side, 0, 0)
	}
}

// spoil writes over all of a list, its spare room too.
func spoil[T any](l []T, bad T) {
	l = l[:cap(l)]
	for i := range l {
		l[i] = bad
	}
}

// roomy tells a copy of l with spare room behind it, and the whole of that memory.
func roomy[T any](l []T) (view, whole []T) {
	whole = make([]T, len(l)+6)
	copy(whole, l)
	return whole[:len(l)], whole
}

func TestP2ListsStayAsTheyAreAndAreNotKept(t *testing.T) {
	next := walk(2)
	for _, l := range slices.Concat(strange(), forms(2, 2), forms(3, 1), forms(4, 1)) {
		view, whole := roomy(l)
		had := slices.Clone(whole)
		tt, all := roomy(drawnTops(next, min(len(l), 5)))
		were := slices.Clone(all)
		for _, side := range []int{api.Buy, api.Sell, 0} {
			want, ok := Prices(view, tt, side)
			told := slices.Clone(want)
			Synthetic(view, tt, side)
			if !slices.Equal(whole, had) || !slices.Equal(all, were) {
				t.Fatalf("%v with %v is changed to %v with %v", had, were, whole, all)
			}
			spoil(whole, legs.Leg{Series: -9, Sign: -9, Ratio: -9})
			spoil(all, both(-9, -9, -9, -9))
			if !slices.Equal(want, told) {
				t.Errorf("%v is of what was handed in", want)
			}
			if again, is := Prices(l, were[:len(tt)], side); !slices.Equal(again, told) || is != ok {
				t.Errorf("of %v something is kept: %v, %v; was %v, %v", l, again, is, told, ok)
			}
			copy(whole, had)
			copy(all, were)
		}
	}
}

func TestP2AnswersAreNewMemory(t *testing.T) {
	tt := []Top{both(10, 7, 12, 9), both(5, 10, 6, 4), both(20, 3, 21, 8), both(1, 1, 2, 2)}
	for n := 2; n <= 4; n++ {
		for _, l := range forms(n, 1) {
			for _, side := range []int{api.Buy, api.Sell} {
				one, _ := Prices(l, tt[:n], side)
				two, _ := Prices(l, tt[:n], side)
				told := slices.Clone(two)
				spoil(one, -9)
				if !slices.Equal(two, told) {
					t.Errorf("two answers of Prices(%v, .., %d) share memory", l, side)
				}
				checkPrices(t, l, tt[:n], side, told)
			}
		}
	}
}

// asked tells all that is answered to a long row of calls.
func asked() string {
	next := walk(3)
	var out []byte
	for _, l := range slices.Concat(strange(), forms(2, 4), forms(3, 2), forms(4, 1)) {
		tt := drawnTops(next, min(len(l), 5))
		for _, side := range []int{api.Buy, api.Sell, 0} {
			prices, priced := Prices(l, tt, side)
			net, units, ok := Synthetic(l, tt, side)
			out = fmt.Append(out, prices, priced, net, units, ok, "\n")
		}
		for _, top := range tt {
			price, qty, ok := Price(top, int(next(5))-2)
			out = fmt.Append(out, price, qty, ok, Inside(top, next(12)), "\n")
		}
	}
	return string(out)
}

func TestP3TheSameCallsAnswerTheSame(t *testing.T) {
	first := asked()
	for range 3 {
		if asked() != first {
			t.Error("the same calls answer otherwise")
		}
	}
}

// TestP5AskingLeavesTheBook asks all of a book's top, and then the book.
func TestP5AskingLeavesTheBook(t *testing.T) {
	b := filled(t, customer(1, api.Buy, 10, 5), member(2, api.Buy, 10, 6), member(3, api.Sell, 12, 8), customer(4, api.Sell, 13, 9))
	was := look(b)
	for range 3 {
		top := Of(b)
		Price(top, 1)
		Inside(top, 11)
		Prices(made(1, 1, 1, 2, -1, 1), []Top{top, top}, api.Buy)
		Synthetic(made(1, 1, 1, 2, -1, 1), []Top{top, top}, api.Sell)
		top.Bid, top.BidQty, top.AskCust = 1, 1, true // what is told is the caller's own
		if look(b) != was {
			t.Fatalf("the book is changed: %s; was %s", look(b), was)
		}
		checkOf(t, b, Top{10, 11, 12, 8, true, false})
	}
}
