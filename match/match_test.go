package match

import (
	"fmt"
	"math"
	"slices"
	"sort"
	"strings"
	"testing"

	"straddle/api"
	"straddle/book"
	"straddle/order"
)

const (
	most  = math.MaxInt64
	least = math.MinInt64
)

// lives are all that an order may have.
func lives() []int { return []int{order.Day, order.IOC, order.FOK, order.Post} }

// noLives are numbers that are no life, noSides such that are no side.
func noLives() []int { return []int{0, -1, -4, 5, 6, 1 << 32, 1<<32 + 1, 1<<32 + 4, least, most} }

func noSides() []int { return []int{0, -1, -2, 3, 4, 1 << 32, 1<<32 + 1, 1<<32 + 2, least, most} }

// strange are numbers that are neither prices nor quantities.
func strange() []int64 {
	return []int64{least, least + 1, -(1 << 32), -1000000, -2, -1, 0, 1000001, 1 << 32, 1<<32 + 5, 1 << 62, most - 1, most}
}

// buy and sell tell members' orders of a life, or of none, such as may wait; buyc and sellc those of customers.
func buy(id, price, qty int64, life ...int) order.Order {
	o := order.Order{ID: id, Side: api.Buy, Price: price, Qty: qty}
	for _, l := range life {
		o.Life = l
	}
	return o
}

func sell(id, price, qty int64, life ...int) order.Order {
	o := buy(id, price, qty, life...)
	o.Side = api.Sell
	return o
}

func buyc(id, price, qty int64, life ...int) order.Order {
	o := buy(id, price, qty, life...)
	o.Cust = true
	return o
}

func sellc(id, price, qty int64, life ...int) order.Order {
	o := sell(id, price, qty, life...)
	o.Cust = true
	return o
}

// made tells a book in which these wait.
func made(t *testing.T, orders ...order.Order) *book.Book {
	t.Helper()
	b := book.New()
	for _, o := range orders {
		if err := b.Insert(o); err != api.OK {
			t.Fatalf("Insert(%+v): %v", o, err)
		}
	}
	return b
}

// look tells all that waits in a book.
func look(b *book.Book) string {
	return fmt.Sprint(b.Len(), b.Row(api.Buy), b.Levels(api.Buy), b.Row(api.Sell), b.Levels(api.Sell))
}

// same asks whether two results are the same; no list and an empty one are.
func same(a, b Result) bool {
	return slices.Equal(a.Fills, b.Fills) && a.Filled == b.Filled && a.Left == b.Left && a.Rests == b.Rests
}

// checkSides asks whether these wait, Buy's and Sell's in this order, and nobody else.
func checkSides(t *testing.T, b *book.Book, buys, sells []order.Order) {
	t.Helper()
	if got := b.Row(api.Buy); !slices.Equal(got, buys) {
		t.Errorf("Buy's row: %+v; want %+v", got, buys)
	}
	if got := b.Row(api.Sell); !slices.Equal(got, sells) {
		t.Errorf("Sell's row: %+v; want %+v", got, sells)
	}
}

// checkWould asks whether Would tells so, and changes nothing.
func checkWould(t *testing.T, b *book.Book, o order.Order, want int64) {
	t.Helper()
	was := look(b)
	if got := Would(b, o); got != want {
		t.Errorf("Would(%+v): %d; want %d, of %s", o, got, want, was)
	}
	if look(b) != was {
		t.Errorf("Would(%+v) changed something: %s; was %s", o, look(b), was)
	}
}

// checkRun asks whether Run answers so, and Would ahead of it as much as is filled.
func checkRun(t *testing.T, b *book.Book, o order.Order, want Result) {
	t.Helper()
	was := look(b)
	if want.Filled > 0 {
		checkWould(t, b, o, want.Filled)
	}
	if got, err := Run(b, o); !same(got, want) || err != api.OK {
		t.Errorf("Run(%+v): %+v, %v; want %+v; of %s", o, got, err, want, was)
	}
}

// checkRefused asks whether Run refuses so, and changes nothing.
func checkRefused(t *testing.T, b *book.Book, o order.Order, want api.Errno) {
	t.Helper()
	was := look(b)
	if got, err := Run(b, o); !same(got, Result{}) || err != want {
		t.Errorf("Run(%+v): %+v, %v; want %v; of %s", o, got, err, want, was)
	}
	if look(b) != was {
		t.Errorf("Run(%+v), refused, changed something: %s; was %s", o, look(b), was)
	}
}

// checkTake asks whether Take answers so; if it refuses, whether it changes nothing.
func checkTake(t *testing.T, b *book.Book, side int, price, qty, taker int64, want []Fill, wrong api.Errno) {
	t.Helper()
	was := look(b)
	if got, err := Take(b, side, price, qty, taker); !slices.Equal(got, want) || err != wrong {
		t.Errorf("Take(%d, %d, %d, %d): %+v, %v; want %+v, %v; of %s", side, price, qty, taker, got, err, want, wrong, was)
	}
	if wrong != api.OK && look(b) != was {
		t.Errorf("Take(%d, %d, %d, %d), refused, changed something: %s; was %s", side, price, qty, taker, look(b), was)
	}
}

// waits tells orders of both sides, those ahead first.
func waits() (buys, sells []order.Order) {
	buys = []order.Order{buy(12, 11, 6), buyc(18, 10, 7), buy(11, 10, 5), buy(13, 8, 4)}
	sells = []order.Order{sell(24, 12, 8), sell(26, 12, 2), sellc(25, 13, 1), sell(21, 15, 9)}
	return buys, sells
}

// waiters tells a book in which those of waits do.
func waiters(t *testing.T) *book.Book {
	t.Helper()
	buys, sells := waits()
	return made(t, slices.Concat(buys, sells)...)
}

func TestP1301Would(t *testing.T) {
	b := waiters(t)
	for price, want := range map[int64]int64{1: 0, 11: 0, 12: 10, 13: 11, 14: 11, 15: 20, 16: 20, 1000000: 20} {
		checkWould(t, b, buy(9, price, 1000000), want)
		for _, qty := range []int64{1, 2, want - 1, want, want + 1} {
			if qty > 0 {
				checkWould(t, b, buy(9, price, qty), min(want, qty))
			}
		}
	}
	for price, want := range map[int64]int64{1000000: 0, 12: 0, 11: 6, 10: 18, 9: 18, 8: 22, 7: 22, 1: 22} {
		checkWould(t, b, sell(9, price, 1000000), want)
		for _, qty := range []int64{1, 2, want - 1, want, want + 1} {
			if qty > 0 {
				checkWould(t, b, sell(9, price, qty), min(want, qty))
			}
		}
	}
}

func TestP1301WouldAsksNothingElse(t *testing.T) { // whatever its number, its owner, whose it is, its life
	b := waiters(t)
	for _, life := range append(lives(), noLives()...) {
		for _, id := range []int64{least, -1, 0, 1, 12, 24, most} {
			o := order.Order{ID: id, Owner: int(id), Side: api.Buy, Price: 13, Qty: 12, Cust: id%2 == 0, Life: life}
			checkWould(t, b, o, 11)
			o.Side, o.Price = api.Sell, 10
			checkWould(t, b, o, 12)
		}
	}
}

func TestP1301WouldWhereNobodyWaits(t *testing.T) {
	buys, sells := waits()
	for _, b := range []*book.Book{made(t), made(t, buys...)} { // one's own side trades nothing
		checkWould(t, b, buy(9, 1000000, 1000000), 0)
		checkWould(t, b, buy(9, 8, 1), 0)
	}
	for _, b := range []*book.Book{made(t), made(t, sells...)} {
		checkWould(t, b, sell(9, 1, 1000000), 0)
		checkWould(t, b, sell(9, 15, 1), 0)
	}
	for _, side := range noSides() {
		checkWould(t, waiters(t), order.Order{ID: 9, Side: side, Price: 12, Qty: 5}, 0)
	}
}

func TestP1301WouldOfAllThatABookHas(t *testing.T) {
	b := filled(t, func(int) int { return api.Sell })
	checkWould(t, b, buy(5000, 5, 1000000), 1000000)
	checkWould(t, b, buy(5000, 5, most), 1024000000)
	checkWould(t, b, buy(5000, 4, most), 0)
}

// runs are orders that come to waiters, and what becomes of them if they are IOC.
func runs() []struct {
	o    order.Order
	want Result
} {
	return []struct {
		o    order.Order
		want Result
	}{
		{buy(9, 11, 5), Result{Left: 5}},
		{buy(9, 1, 5), Result{Left: 5}},
		{buy(9, 12, 1), Result{Fills: []Fill{{24, 9, 12, 1}}, Filled: 1}},
		{buy(9, 12, 8), Result{Fills: []Fill{{24, 9, 12, 8}}, Filled: 8}},
		{buy(9, 12, 9), Result{Fills: []Fill{{24, 9, 12, 8}, {26, 9, 12, 1}}, Filled: 9}},
		{buy(9, 12, 10), Result{Fills: []Fill{{24, 9, 12, 8}, {26, 9, 12, 2}}, Filled: 10}},
		{buy(9, 12, 11), Result{Fills: []Fill{{24, 9, 12, 8}, {26, 9, 12, 2}}, Filled: 10, Left: 1}},
		{buyc(9, 14, 100), Result{Fills: []Fill{{24, 9, 12, 8}, {26, 9, 12, 2}, {25, 9, 13, 1}}, Filled: 11, Left: 89}},
		{buy(9, 1000000, 1000000), Result{Fills: []Fill{{24, 9, 12, 8}, {26, 9, 12, 2}, {25, 9, 13, 1}, {21, 9, 15, 9}}, Filled: 20, Left: 999980}},
		{buy(most, 15, 20), Result{Fills: []Fill{{24, most, 12, 8}, {26, most, 12, 2}, {25, most, 13, 1}, {21, most, 15, 9}}, Filled: 20}},
		{sell(9, 12, 5), Result{Left: 5}},
		{sell(9, 1000000, 5), Result{Left: 5}},
		{sell(9, 11, 6), Result{Fills: []Fill{{12, 9, 11, 6}}, Filled: 6}},
		{sell(9, 11, 7), Result{Fills: []Fill{{12, 9, 11, 6}}, Filled: 6, Left: 1}},
		{sell(9, 10, 7), Result{Fills: []Fill{{12, 9, 11, 6}, {18, 9, 10, 1}}, Filled: 7}},
		{sell(9, 9, 18), Result{Fills: []Fill{{12, 9, 11, 6}, {18, 9, 10, 7}, {11, 9, 10, 5}}, Filled: 18}},
		{sellc(9, 9, 19), Result{Fills: []Fill{{12, 9, 11, 6}, {18, 9, 10, 7}, {11, 9, 10, 5}}, Filled: 18, Left: 1}},
		{sell(1, 1, 1000000), Result{Fills: []Fill{{12, 1, 11, 6}, {18, 1, 10, 7}, {11, 1, 10, 5}, {13, 1, 8, 4}}, Filled: 22, Left: 999978}},
	}
}

// behind tells what waits of some orders behind these fills.
func behind(l []order.Order, fills []Fill) []order.Order {
	l = slices.Clone(l)
	for _, f := range fills {
		for i := range l {
			if l[i].ID == f.Maker {
				l[i].Qty -= f.Qty
			}
		}
	}
	return slices.DeleteFunc(l, func(o order.Order) bool { return o.Qty == 0 })
}

// with tells some orders of a side with one more in its place.
func with(l []order.Order, o order.Order) []order.Order {
	i := 0
	for i < len(l) && !ahead(o, l[i]) {
		i++
	}
	return slices.Insert(slices.Clone(l), i, o)
}

// ahead tells whether a is ahead of b: by price, customers first, then by number.
func ahead(a, b order.Order) bool {
	switch {
	case a.Price != b.Price:
		return (a.Price > b.Price) == (a.Side == 1)
	case a.Cust != b.Cust:
		return a.Cust
	}
	return a.ID < b.ID
}

// checkBehind asks whether there waits what waits behind these fills of waiters, and what rests.
func checkBehind(t *testing.T, b *book.Book, fills []Fill, rests ...order.Order) {
	t.Helper()
	buys, sells := waits()
	buys, sells = behind(buys, fills), behind(sells, fills)
	for _, o := range rests {
		if o.Side == api.Buy {
			buys = with(buys, o)
		} else {
			sells = with(sells, o)
		}
	}
	checkSides(t, b, buys, sells)
}

func TestP1301IOC(t *testing.T) {
	for _, c := range runs() {
		b := waiters(t)
		c.o.Life = order.IOC
		checkRun(t, b, c.o, c.want)
		checkBehind(t, b, c.want.Fills)
	}
}

func TestP1301Day(t *testing.T) {
	for _, c := range runs() {
		b := waiters(t)
		c.o.Life, c.o.Owner = order.Day, 7
		c.want.Rests = c.want.Left > 0
		checkRun(t, b, c.o, c.want)
		if !c.want.Rests {
			checkBehind(t, b, c.want.Fills)
			continue
		}
		c.o.Qty = c.want.Left // as it came, but for what is left of it
		checkBehind(t, b, c.want.Fills, c.o)
	}
}

func TestP1301FOK(t *testing.T) {
	for _, c := range runs() {
		b := waiters(t)
		c.o.Life = order.FOK
		if c.want.Left > 0 { // nothing is done
			c.want = Result{Left: c.o.Qty}
		}
		checkRun(t, b, c.o, c.want)
		checkBehind(t, b, c.want.Fills)
	}
}

func TestP1301Post(t *testing.T) {
	for _, c := range runs() {
		b := waiters(t)
		c.o.Life, c.o.Owner = order.Post, 64
		if c.want.Filled > 0 {
			checkRefused(t, b, c.o, api.ErrCross)
			checkBehind(t, b, nil)
			continue
		}
		checkRun(t, b, c.o, Result{Left: c.o.Qty, Rests: true})
		checkBehind(t, b, nil, c.o)
	}
}

func TestP1301WhatRestsIsAsItCameButForWhatIsLeft(t *testing.T) {
	b := made(t, sell(1, 10, 3))
	o := order.Order{ID: 8, Owner: 17, Side: api.Buy, Price: 12, Qty: 10, Cust: true, Life: order.Day}
	checkRun(t, b, o, Result{Fills: []Fill{{1, 8, 10, 3}}, Filled: 3, Left: 7, Rests: true})
	o.Qty = 7
	checkSides(t, b, []order.Order{o}, nil) // at its own price, not at the one it traded at
	p := order.Order{ID: 5, Owner: 3, Side: api.Sell, Price: 13, Qty: 6, Life: order.Post}
	checkRun(t, b, p, Result{Left: 6, Rests: true})
	checkSides(t, b, []order.Order{o}, []order.Order{p})
	q := order.Order{ID: 6, Owner: 4, Side: api.Sell, Price: 12, Qty: 2, Life: order.Day} // what rests trades
	checkRun(t, b, q, Result{Fills: []Fill{{8, 6, 12, 2}}, Filled: 2})
	o.Qty = 5
	checkSides(t, b, []order.Order{o}, []order.Order{p})
}

func TestP1301WhoIsTakenInPartKeepsItsPlace(t *testing.T) {
	b := made(t, buy(1, 10, 5), buyc(3, 10, 7), buy(2, 10, 6))
	checkRun(t, b, sell(9, 10, 3, order.IOC), Result{Fills: []Fill{{3, 9, 10, 3}}, Filled: 3})
	checkSides(t, b, []order.Order{buyc(3, 10, 4), buy(1, 10, 5), buy(2, 10, 6)}, nil)
	checkRun(t, b, sell(9, 10, 8, order.FOK), Result{Fills: []Fill{{3, 9, 10, 4}, {1, 9, 10, 4}}, Filled: 8})
	checkSides(t, b, []order.Order{buy(1, 10, 1), buy(2, 10, 6)}, nil)
	checkRun(t, b, sell(9, 10, 2, order.Day), Result{Fills: []Fill{{1, 9, 10, 1}, {2, 9, 10, 1}}, Filled: 2})
	checkSides(t, b, []order.Order{buy(2, 10, 5)}, nil)
}

func TestP1301AtThePriceOfWhatWaits(t *testing.T) {
	b := made(t, sell(1, 1, 1), sell(2, 999999, 1), sell(3, 1000000, 1))
	checkRun(t, b, buy(9, 1000000, 3, order.FOK), Result{Fills: []Fill{{1, 9, 1, 1}, {2, 9, 999999, 1}, {3, 9, 1000000, 1}}, Filled: 3})
	b = made(t, buy(1, 1, 1), buy(2, 2, 1), buy(3, 1000000, 1))
	checkRun(t, b, sell(9, 1, 3, order.FOK), Result{Fills: []Fill{{3, 9, 1000000, 1}, {2, 9, 2, 1}, {1, 9, 1, 1}}, Filled: 3})
	checkSides(t, b, nil, nil)
}

func TestP1301ACustomerThatComesTradesNoSooner(t *testing.T) {
	b := made(t, sell(1, 10, 2), sellc(2, 11, 2))
	checkRun(t, b, buyc(9, 11, 3, order.Day), Result{Fills: []Fill{{1, 9, 10, 2}, {2, 9, 11, 1}}, Filled: 3})
	checkSides(t, b, nil, []order.Order{sellc(2, 11, 1)})
}

func TestP1301WhereWhatWaitsIsCrossed(t *testing.T) { // a book lets wait what would trade: each side for itself
	b := made(t, buy(1, 20, 5), sell(2, 10, 5))
	checkRun(t, b, buy(9, 15, 2, order.IOC), Result{Fills: []Fill{{2, 9, 10, 2}}, Filled: 2})
	checkRun(t, b, sell(8, 15, 7, order.Day), Result{Fills: []Fill{{1, 8, 20, 5}}, Filled: 5, Left: 2, Rests: true})
	checkSides(t, b, nil, []order.Order{sell(2, 10, 3), sell(8, 15, 2, order.Day)})
	checkRefused(t, b, buy(9, 10, 1, order.Post), api.ErrCross)
	checkRun(t, b, buy(9, 9, 1, order.Post), Result{Left: 1, Rests: true})
}

func TestP1301RunAtItsBounds(t *testing.T) {
	for _, life := range lives() {
		for _, o := range []order.Order{
			buy(1, 1, 1, life), sell(1, 1, 1, life), buyc(most, 1000000, 1000000, life), sellc(most, 1000000, 1000000, life), buy(7, 999999, 999999, life),
		} {
			rests := life == order.Day || life == order.Post
			b := made(t)
			checkRun(t, b, o, Result{Left: o.Qty, Rests: rests})
			if b.Len() == 1 != rests {
				t.Errorf("of %+v there wait %d", o, b.Len())
			}
		}
		o := order.Order{ID: 7, Side: api.Buy, Price: 7, Qty: 3, Life: life} // whoever its owner is
		for _, owner := range []int{0, 1, 64, 65, -1, 1 << 32, least, most} {
			o.Owner = owner
			checkRun(t, made(t), o, Result{Left: 3, Rests: life == order.Day || life == order.Post})
		}
	}
}

func TestP1301AnOwnersOwnOrdersTrade(t *testing.T) {
	b := made(t, order.Order{ID: 1, Owner: 5, Side: api.Sell, Price: 10, Qty: 2})
	checkRun(t, b, order.Order{ID: 2, Owner: 5, Side: api.Buy, Price: 10, Qty: 2, Life: order.Day}, Result{Fills: []Fill{{1, 2, 10, 2}}, Filled: 2})
}

func TestP1301RunRefusesWhatMayNotBe(t *testing.T) {
	for _, b := range []*book.Book{made(t), waiters(t), filled(t, func(i int) int { return 1 + i%2 })} {
		for _, life := range lives() {
			for _, o := range []order.Order{buy(5000, 12, 5, life), sell(5000, 9, 5, life), buy(5000, 1, 5, life), sell(5000, 30, 5, life)} {
				for _, id := range []int64{0, -1, -2, -5000, -(1 << 32), least + 1, least} {
					wrong := o
					wrong.ID = id
					checkRefused(t, b, wrong, api.ErrArg)
				}
				for _, side := range noSides() {
					wrong := o
					wrong.Side = side
					checkRefused(t, b, wrong, api.ErrArg)
				}
				for _, n := range strange() {
					wrong := o
					wrong.Price = n
					checkRefused(t, b, wrong, api.ErrArg)
					wrong = o
					wrong.Qty = n
					checkRefused(t, b, wrong, api.ErrArg)
				}
				for _, none := range noLives() {
					wrong := o
					wrong.Life = none
					checkRefused(t, b, wrong, api.ErrArg)
				}
			}
		}
		checkRefused(t, b, order.Order{}, api.ErrArg)
	}
}

func TestP1301RunRefusesTwice(t *testing.T) {
	b := waiters(t)
	for _, life := range lives() {
		for _, id := range []int64{12, 18, 13, 24, 21} {
			for _, o := range []order.Order{buy(id, 11, 6, life), buy(id, 15, 20, life), buy(id, 1, 1, life), sell(id, 15, 9, life), sellc(id, 8, 22, life), sell(id, 8, 100, life)} {
				checkRefused(t, b, o, api.ErrTwice)
			}
		}
	}
	checkRun(t, b, buy(9, 12, 9, order.IOC), Result{Fills: []Fill{{24, 9, 12, 8}, {26, 9, 12, 1}}, Filled: 9})
	checkRefused(t, b, buy(26, 12, 1, order.Day), api.ErrTwice) // less of it, but it is there
	checkRun(t, b, sell(24, 11, 7, order.Day), Result{Fills: []Fill{{12, 24, 11, 6}}, Filled: 6, Left: 1, Rests: true})
	checkRun(t, b, buy(9, 11, 1, order.IOC), Result{Fills: []Fill{{24, 9, 11, 1}}, Filled: 1}) // it did not stay
}

// filled tells a book of 1024 orders, 1, 2, .., each on the side that of tells.
func filled(t *testing.T, of func(i int) int) *book.Book {
	t.Helper()
	b := book.New()
	for i := range 1024 {
		side := of(i)
		o := order.Order{ID: int64(i + 1), Side: side, Price: int64(1 + 4*(side-1)), Qty: 1000000} // Buy 1, Sell 5
		if err := b.Insert(o); err != api.OK {
			t.Fatalf("Insert(%+v): %v", o, err)
		}
	}
	return b
}

func TestP1301Full(t *testing.T) {
	for _, of := range []func(i int) int{
		func(int) int { return api.Buy },
		func(int) int { return api.Sell },
		func(i int) int { return 1 + i%2 },
	} {
		b := filled(t, of)
		for _, life := range []int{order.Day, order.Post} { // what rests
			for _, o := range []order.Order{buy(5000, 4, 1, life), buyc(5000, 1, 1000000, life), sell(5000, 2, 1, life), sellc(5000, 1000000, 1, life)} {
				checkRefused(t, b, o, api.ErrFull)
			}
		}
		for _, life := range []int{order.IOC, order.FOK} { // what doesn't
			was := look(b)
			for _, o := range []order.Order{buy(5000, 4, 3, life), sell(5000, 2, 3, life)} {
				checkRun(t, b, o, Result{Left: 3})
			}
			if look(b) != was {
				t.Errorf("life %d changed something", life)
			}
		}
		b.Remove(6) // room for one
		o := buy(5000, 3, 1, order.Day)
		checkRun(t, b, o, Result{Left: 1, Rests: true})
		checkRefused(t, b, buy(5001, 3, 1, order.Day), api.ErrFull)
		checkRefused(t, b, buy(5001, 3, 1, order.Post), api.ErrFull)
		if b.Len() != 1024 {
			t.Errorf("Len: %d", b.Len())
		}
	}
}

func TestP1301FullOfWhatTrades(t *testing.T) {
	for _, c := range []struct {
		mine, theirs int
		price, worse int64
	}{{api.Buy, api.Sell, 5, 4}, {api.Sell, api.Buy, 1, 2}} {
		b := filled(t, func(int) int { return c.theirs })
		o := order.Order{ID: 5000, Side: c.mine, Price: c.price, Qty: 3, Life: order.Day}
		checkRun(t, b, o, Result{Fills: []Fill{{1, 5000, c.price, 3}}, Filled: 3}) // it doesn't rest
		o.Life = order.Post
		checkRefused(t, b, o, api.ErrCross) // and full
		o.Life, o.Qty = order.Day, 999998
		checkRun(t, b, o, Result{Fills: []Fill{{1, 5000, c.price, 999997}, {2, 5000, c.price, 1}}, Filled: 999998})
		if b.Len() != 1023 {
			t.Errorf("Len: %d", b.Len())
		}
		w := order.Order{ID: 5001, Side: c.mine, Price: c.worse, Qty: 1, Life: order.Day}
		checkRun(t, b, w, Result{Left: 1, Rests: true})
		w.ID++
		checkRefused(t, b, w, api.ErrFull)
	}
}

func TestP1301WhatIsUsedUpMakesRoom(t *testing.T) {
	for _, life := range []int{order.Day, order.Post} {
		b := filled(t, func(int) int { return api.Buy }) // at 1
		b.Remove(1024)
		if err := b.Insert(sell(2000, 3, 1)); err != api.OK {
			t.Fatal(err)
		}
		o := buy(5000, 3, 5, life)
		if life == order.Post {
			checkRefused(t, b, o, api.ErrCross) // and full
			continue
		}
		checkRun(t, b, o, Result{Fills: []Fill{{2000, 5000, 3, 1}}, Filled: 1, Left: 4, Rests: true})
		if front, _ := b.Front(api.Buy); b.Len() != 1024 || front != buy(5000, 3, 4, life) {
			t.Errorf("of %d there is ahead: %+v", b.Len(), front)
		}
	}
}

func TestP1301RefusesInOrder(t *testing.T) {
	b := filled(t, func(i int) int { return 1 + i%2 }) // Buys at 1, Sells at 5
	for _, c := range []struct {
		o    order.Order
		want api.Errno
	}{
		{buy(7, 0, 1, order.Day), api.ErrArg}, // and twice, and full
		{buy(7, 5, 0, order.Post), api.ErrArg},
		{sell(7, 5, 1000001, order.FOK), api.ErrArg},
		{order.Order{ID: 7, Price: 5, Qty: 1, Life: order.Day}, api.ErrArg},
		{order.Order{ID: 7, Side: api.Buy, Price: 5, Qty: 1}, api.ErrArg}, // no life, and twice
		{order.Order{ID: 7, Side: api.Sell, Price: 1, Qty: 1, Life: 5}, api.ErrArg},
		{order.Order{ID: 5000, Side: api.Buy, Price: 4, Qty: 1, Life: -1}, api.ErrArg}, // and full
		{order.Order{ID: 5000, Side: api.Buy, Price: 5, Qty: 1, Life: 9}, api.ErrArg},  // and it would trade
		{sell(5000, 0, 1, order.Post), api.ErrArg},
		{sell(0, 1, 1, order.Post), api.ErrArg},
		{buy(7, 5, 1, order.Post), api.ErrTwice}, // and it would trade, and full
		{buy(7, 4, 1, order.Post), api.ErrTwice}, // and full
		{buy(7, 4, 1, order.Day), api.ErrTwice},
		{buy(7, 4, 1, order.FOK), api.ErrTwice}, // and not all of it
		{buy(7, 4, 1, order.IOC), api.ErrTwice}, // and none of it
		{buy(5000, 5, 1, order.Post), api.ErrCross},
		{sell(5000, 1, 1, order.Post), api.ErrCross},
		{buy(5000, 4, 1, order.Post), api.ErrFull},
		{sell(5000, 2, 1, order.Day), api.ErrFull},
	} {
		checkRefused(t, b, c.o, c.want)
	}
}

func TestP1302Take(t *testing.T) {
	for _, c := range []struct {
		side       int
		price, qty int64
		want       []Fill
	}{
		{api.Sell, 12, 1, []Fill{{24, 77, 12, 1}}},
		{api.Sell, 12, 7, []Fill{{24, 77, 12, 7}}},
		{api.Sell, 12, 8, []Fill{{24, 77, 12, 8}}},
		{api.Sell, 12, 9, []Fill{{24, 77, 12, 8}, {26, 77, 12, 1}}},
		{api.Sell, 12, 10, []Fill{{24, 77, 12, 8}, {26, 77, 12, 2}}},
		{api.Sell, 13, 1, []Fill{{25, 77, 13, 1}}}, // behind others that stay
		{api.Sell, 15, 9, []Fill{{21, 77, 15, 9}}},
		{api.Sell, 15, 8, []Fill{{21, 77, 15, 8}}},
		{api.Buy, 11, 6, []Fill{{12, 77, 11, 6}}},
		{api.Buy, 10, 6, []Fill{{18, 77, 10, 6}}},
		{api.Buy, 10, 8, []Fill{{18, 77, 10, 7}, {11, 77, 10, 1}}},
		{api.Buy, 10, 12, []Fill{{18, 77, 10, 7}, {11, 77, 10, 5}}},
		{api.Buy, 8, 3, []Fill{{13, 77, 8, 3}}},
	} {
		b := waiters(t)
		checkTake(t, b, c.side, c.price, c.qty, 77, c.want, api.OK)
		checkBehind(t, b, c.want)
	}
}

func TestP1302TakeRefuses(t *testing.T) {
	b := waiters(t)
	wide := append(strange(), 1, 7, 8, 9, 10, 11, 12, 13, 14, 15, 16, 1000000)
	for _, price := range wide { // a quantity below 1 goes ahead of all else
		for _, side := range append(noSides(), api.Buy, api.Sell) {
			for _, qty := range []int64{0, -1, -8, -(1 << 32), least + 1, least} {
				checkTake(t, b, side, price, qty, 77, nil, api.ErrArg)
			}
		}
	}
	for price, much := range map[int64]int64{11: 6, 10: 12, 8: 4, 9: 0, 7: 0, 12: 0, 13: 0} {
		for _, qty := range []int64{much + 1, much + 2, 13, 1000000, 1000001, 1<<32 + 1, most - 1, most} {
			checkTake(t, b, api.Buy, price, qty, 77, nil, api.ErrName)
		}
	}
	for price, much := range map[int64]int64{12: 10, 13: 1, 15: 9, 14: 0, 16: 0, 11: 0, 10: 0} {
		for _, qty := range []int64{much + 1, much + 2, 11, 1000000, 1000001, 1<<32 + 1, most - 1, most} {
			checkTake(t, b, api.Sell, price, qty, 77, nil, api.ErrName)
		}
	}
	for _, price := range strange() {
		checkTake(t, b, api.Buy, price, 1, 77, nil, api.ErrName)
		checkTake(t, b, api.Sell, price, 1, 77, nil, api.ErrName)
	}
	for _, side := range noSides() {
		checkTake(t, b, side, 12, 1, 77, nil, api.ErrName)
		checkTake(t, b, side, 10, 1, 77, nil, api.ErrName)
	}
	checkTake(t, made(t), api.Buy, 10, 1, 77, nil, api.ErrName)
}

func TestP1302TakeAsksNothingOfTheTaker(t *testing.T) {
	for _, taker := range []int64{least, -1, 0, 1, 12, 24, 77, most} { // not even whether it waits
		b := waiters(t)
		checkTake(t, b, api.Sell, 12, 9, taker, []Fill{{24, taker, 12, 8}, {26, taker, 12, 1}}, api.OK)
	}
}

func TestP1302TakeOfAWholeBook(t *testing.T) {
	for side, price := range map[int]int64{api.Buy: 1, api.Sell: 5} {
		b := filled(t, func(int) int { return side })
		checkTake(t, b, side, price, 1024000001, 77, nil, api.ErrName)
		got, err := Take(b, side, price, 1023500000, 77) // all but half of the last one
		if len(got) != 1024 || err != api.OK || b.Len() != 1 {
			t.Fatalf("%d fills, %v; %d are left", len(got), err, b.Len())
		}
		for i, f := range got {
			want := Fill{int64(i + 1), 77, price, 1000000}
			if i == 1023 {
				want.Qty = 500000
			}
			if f != want {
				t.Fatalf("at %d: %v; want %v", i, f, want)
			}
		}
		checkTake(t, b, side, price, 500001, 77, nil, api.ErrName)
		checkTake(t, b, side, price, 500000, 77, []Fill{{1024, 77, price, 500000}}, api.OK)
		checkSides(t, b, nil, nil)
	}
}

// plain is a book as W3 tells it: orders, in no row.
type plain []order.Order

// row tells where a side's orders stand in m, those ahead first.
func (m plain) row(side int) []int {
	var l []int
	for i, o := range m {
		if o.Side == side {
			l = append(l, i)
		}
	}
	sort.Slice(l, func(i, k int) bool { return ahead(m[l[i]], m[l[k]]) })
	return l
}

// orders tells a side's orders, those ahead first.
func (m plain) orders(side int) []order.Order {
	var l []order.Order
	for _, i := range m.row(side) {
		l = append(l, m[i])
	}
	return l
}

// has tells whether an order of that number waits.
func (m plain) has(id int64) bool {
	return slices.ContainsFunc(m, func(o order.Order) bool { return o.ID == id })
}

// would tells how much of o trades at once, one by one.
func (m plain) would(o order.Order) int64 {
	n := int64(0)
	for _, w := range m {
		for range w.Qty {
			if n < o.Qty && w.Side+o.Side == 3 && (o.Side == 1 && w.Price <= o.Price || o.Side == 2 && w.Price >= o.Price) {
				n++
			}
		}
	}
	return n
}

// swept tells m without those that are used up.
func (m plain) swept() plain {
	return slices.DeleteFunc(slices.Clone(m), func(o order.Order) bool { return o.Qty == 0 })
}

// run tells what Run answers, and the book behind it.
func (m plain) run(o order.Order) (Result, api.Errno, plain) {
	would := m.would(o)
	switch {
	case o.ID < 1, o.Side != 1 && o.Side != 2, o.Price < 1, o.Price > 1000000, o.Qty < 1, o.Qty > 1000000, o.Life < 1, o.Life > 4:
		return Result{}, api.ErrArg, m
	case m.has(o.ID):
		return Result{}, api.ErrTwice, m
	case o.Life == 4 && would > 0:
		return Result{}, api.ErrCross, m
	case o.Life == 3 && would < o.Qty:
		return Result{Left: o.Qty}, api.OK, m
	}
	now, r := slices.Clone(m), Result{Left: o.Qty}
	for _, i := range now.row(3 - o.Side) {
		w := &now[i]
		if n := min(w.Qty, r.Left); n > 0 && (o.Side == 1 && w.Price <= o.Price || o.Side == 2 && w.Price >= o.Price) {
			r.Fills = append(r.Fills, Fill{w.ID, o.ID, w.Price, n})
			r.Filled, r.Left, w.Qty = r.Filled+n, r.Left-n, w.Qty-n
		}
	}
	now = now.swept()
	if r.Left > 0 && (o.Life == 1 || o.Life == 4) {
		if len(now) == 1024 {
			return Result{}, api.ErrFull, m
		}
		r.Rests, o.Qty = true, r.Left
		now = append(now, o)
	}
	return r, api.OK, now
}

// take tells what Take answers, and the book behind it.
func (m plain) take(side int, price, qty, taker int64) ([]Fill, api.Errno, plain) {
	if qty < 1 {
		return nil, api.ErrArg, m
	}
	now := slices.Clone(m)
	var fills []Fill
	for _, i := range now.row(side) {
		w := &now[i]
		if n := min(w.Qty, qty); n > 0 && w.Price == price {
			fills = append(fills, Fill{w.ID, taker, price, n})
			qty, w.Qty = qty-n, w.Qty-n
		}
	}
	if qty > 0 {
		return nil, api.ErrName, m
	}
	return fills, api.OK, now.swept()
}

// lcg tells numbers below n, the same each time.
func lcg(state uint32) func(n int) int64 {
	return func(n int) int64 {
		state = state*1664525 + 1013904223
		return int64(state>>8) % int64(n)
	}
}

func TestP1301P1302AreThePlainReading(t *testing.T) {
	next, found := lcg(1), map[string]int{}
	for range 400 {
		b, m := book.New(), plain{}
		prices, ids := 2+int(next(9)), 30+int(next(90))
		for range 100 {
			if next(4) == 0 {
				side, price, qty, taker := int(next(22)+9)/10, next(prices), next(9)-1, next(200)-5
				got, err := Take(b, side, price, qty, taker)
				want, wrong, now := m.take(side, price, qty, taker)
				if !slices.Equal(got, want) || err != wrong {
					t.Fatalf("Take(%d, %d, %d, %d): %v, %v; want %v, %v; of %v", side, price, qty, taker, got, err, want, wrong, m)
				}
				found[fmt.Sprint("take ", err, " ", min(len(got), 3))]++
				m = now
			} else {
				o := order.Order{ID: next(ids), Owner: int(next(9)) - 4, Side: int(next(22)+9) / 10, Price: next(prices), Qty: next(12), Cust: next(3) == 0, Life: int(next(22)+4) / 5}
				if got, want := Would(b, o), m.would(o); got != want {
					t.Fatalf("Would(%+v): %d; want %d; of %v", o, got, want, m)
				}
				got, err := Run(b, o)
				want, wrong, now := m.run(o)
				if !same(got, want) || err != wrong {
					t.Fatalf("Run(%+v): %+v, %v; want %+v, %v; of %v", o, got, err, want, wrong, m)
				}
				found[fmt.Sprint("run ", o.Life, " ", err, " ", min(len(got.Fills), 2), " ", got.Left > 0)]++
				m = now
			}
			checkSides(t, b, m.orders(api.Buy), m.orders(api.Sell))
			if t.Failed() { // enough is told
				return
			}
		}
	}
	for _, what := range []string{
		"run 1 ok 0 true", "run 1 ok 1 true", "run 1 ok 2 true", "run 1 ok 1 false", "run 1 ok 2 false", "run 1 twice 0 false",
		"run 2 ok 0 true", "run 2 ok 1 true", "run 2 ok 2 true", "run 2 ok 1 false", "run 2 ok 2 false", "run 2 twice 0 false",
		"run 3 ok 0 true", "run 3 ok 1 false", "run 3 ok 2 false", "run 3 twice 0 false",
		"run 4 ok 0 true", "run 4 cross 0 false", "run 4 twice 0 false",
		"run 0 arg 0 false", "run 1 arg 0 false", "run 5 arg 0 false",
		"take ok 1", "take ok 2", "take name 0", "take arg 0",
	} {
		if found[what] < 20 {
			t.Errorf("only %d of %s", found[what], what)
		}
	}
}

func TestP1301EveryOrderToEverySmallBook(t *testing.T) {
	var each []order.Order // of these, each three make a book
	for _, o := range []order.Order{{Price: 5, Qty: 2}, {Price: 5, Qty: 1, Cust: true}, {Price: 6, Qty: 3}} {
		for side := api.Buy; side <= api.Sell; side++ {
			o.Side = side
			each = append(each, o)
		}
	}
	for _, x := range each {
		for _, y := range each {
			for _, z := range each {
				x.ID, y.ID, z.ID = 3, 1, 2
				m := plain{x, y, z}
				for n := range int64(4 * 2 * 4 * 7) {
					o := order.Order{ID: 4, Side: int(1 + n/4%2), Price: 4 + n/8%4, Qty: 1 + n/32, Life: int(1 + n%4)}
					b := made(t, m...)
					got, err := Run(b, o)
					want, wrong, now := m.run(o)
					if !same(got, want) || err != wrong {
						t.Fatalf("Run(%+v): %+v, %v; want %+v, %v; of %v", o, got, err, want, wrong, m)
					}
					checkSides(t, b, now.orders(api.Buy), now.orders(api.Sell))
				}
			}
		}
	}
}

func TestP1301FullIsThePlainReading(t *testing.T) {
	next, found := lcg(3), map[string]int{}
	for range 6 {
		var m plain
		for i := range int64(1023) {
			m = append(m, order.Order{ID: i + 1, Side: int(1 + next(2)), Price: 1 + next(40), Qty: 1 + next(4), Cust: next(3) == 0})
			m[i].Price += int64(m[i].Side-1) * 40 // Buys to 40, Sells from 41
		}
		b := made(t, m...)
		for n := range int64(60) {
			o := order.Order{ID: 2000 + n, Side: int(1 + next(2)), Price: 36 + next(9), Qty: 1 + next(4), Cust: next(2) == 0, Life: int(1 + next(4))}
			got, err := Run(b, o)
			want, wrong, now := m.run(o)
			if !same(got, want) || err != wrong {
				t.Fatalf("Run(%+v): %+v, %v; want %+v, %v; of %d", o, got, err, want, wrong, len(m))
			}
			m = now
			checkSides(t, b, m.orders(api.Buy), m.orders(api.Sell))
			found[err.Error()]++
		}
	}
	if found["ok"] < 50 || found["full"] < 10 {
		t.Errorf("too few: %v", found)
	}
}

func TestT4WhatIsBoughtIsSold(t *testing.T) { // of each side that comes, as much goes from the other one
	next, b := lcg(5), book.New()
	sum := func(side int) int64 {
		n := int64(0)
		for _, o := range b.Row(side) {
			n += o.Qty
		}
		return n
	}
	for n := range int64(3000) {
		o := order.Order{ID: n + 1, Side: int(1 + next(2)), Price: 1 + next(9), Qty: 1 + next(12), Cust: next(3) == 0, Life: int(1 + next(4))}
		mine, theirs := sum(o.Side), sum(3-o.Side)
		r, err := Run(b, o)
		fills := int64(0)
		for _, f := range r.Fills {
			fills += f.Qty
		}
		rests := int64(0)
		if r.Rests {
			rests = r.Left
		}
		if fills != r.Filled || err == api.OK && r.Filled+r.Left != o.Qty || sum(3-o.Side) != theirs-fills || sum(o.Side) != mine+rests {
			t.Fatalf("Run(%+v): %+v, %v; of mine %d, were %d; of theirs %d, were %d", o, r, err, sum(o.Side), mine, sum(3-o.Side), theirs)
		}
		bid, buys := b.Front(api.Buy)
		ask, sells := b.Front(api.Sell)
		if buys && sells && bid.Price >= ask.Price { // nothing that could trade waits
			t.Fatalf("Run(%+v) left %+v and %+v", o, bid, ask)
		}
	}
}

func TestP1AnyNumbersAreAnswered(t *testing.T) {
	wide := append(strange(), 1, 2, 12, 999999, 1000000)
	for _, b := range []*book.Book{made(t), waiters(t)} {
		for _, side := range append(noSides(), api.Buy, api.Sell) {
			for _, x := range wide {
				for _, y := range wide {
					for _, life := range append(lives(), noLives()...) {
						o := order.Order{ID: x, Owner: int(y), Side: side, Price: y, Qty: x, Cust: life%2 == 0, Life: life}
						Would(b, o)
						Run(b, o)
						o.Price, o.Qty = x, y
						Would(b, o)
						Run(b, o)
					}
					Take(b, side, x, y, y)
				}
			}
		}
	}
}

// spoil writes over all of a list, its spare room too.
func spoil[T any](l []T, bad T) {
	whole := l[:cap(l)]
	for i := range whole {
		whole[i] = bad
	}
}

func TestP2AnswersAreNewMemory(t *testing.T) {
	b := waiters(t)
	var lists [][]Fill
	for n := range int64(12) { // one by one, with something of each left
		r, err := Run(b, order.Order{ID: 100 + n, Side: int(1 + n%2), Price: 1 + (1-n%2)*999, Qty: 1, Life: order.IOC})
		if err != api.OK || len(r.Fills) != 1 {
			t.Fatalf("at %d: %+v, %v", n, r, err)
		}
		lists = append(lists, r.Fills)
	}
	l, err := Take(b, api.Sell, 12, 2, 77)
	r, wrong := Run(b, buy(200, 1000, 100, order.Day))
	if err != api.OK || wrong != api.OK {
		t.Fatal(err, wrong)
	}
	lists = append(lists, l, r.Fills)
	was := look(b)
	for i, l := range lists {
		before := fmt.Sprint(lists[:i], lists[i+1:])
		spoil(l, Fill{Maker: -9})
		if after := fmt.Sprint(lists[:i], lists[i+1:]); after != before {
			t.Errorf("two lists share memory: %s; was %s", after, before)
		}
	}
	if look(b) != was {
		t.Errorf("the book changes with what was answered: %s; was %s", look(b), was)
	}
}

func TestP2OtherBooksAreNotTouched(t *testing.T) {
	b := waiters(t)
	twin, other := b.Twin(), waiters(t)
	was := look(b)
	Run(b, buy(9, 13, 100, order.Day))
	Take(b, api.Buy, 10, 9, 77)
	if look(b) == was || look(twin) != was || look(other) != was {
		t.Errorf("what is done in one book is done in another: %s; %s; was %s", look(twin), look(other), was)
	}
}

// run tells what is answered to some calls, with something else ahead of each.
func run(ahead func(b *book.Book)) string {
	var s strings.Builder
	next, b := lcg(7), book.New()
	for n := range int64(300) {
		ahead(b)
		o := order.Order{ID: n + 1, Side: int(1 + next(2)), Price: 1 + next(7), Qty: 1 + next(9), Cust: next(3) == 0, Life: int(1 + next(4))}
		would := Would(b, o)
		r, err := Run(b, o)
		fmt.Fprintln(&s, would, r, err, look(b))
		if n%3 == 0 {
			ahead(b)
			l, err := Take(b, int(1+next(2)), 1+next(7), 1+next(3), n)
			fmt.Fprintln(&s, l, err, look(b))
		}
	}
	return s.String()
}

func TestP3TheSameCallsAnswerTheSame(t *testing.T) {
	first := run(func(*book.Book) {})
	for range 3 {
		if told := run(func(*book.Book) {}); told != first {
			t.Fatalf("%s; the first time %s", told, first)
		}
	}
}

func TestP5WhatIsRefusedOrAskedChangesNothing(t *testing.T) {
	want := run(func(*book.Book) {})
	for what, ahead := range map[string]func(b *book.Book){
		"a Run of what may not be": func(b *book.Book) {
			Run(b, buy(0, 7, 5, order.Day))
			Run(b, buy(5000, 0, 5, order.IOC))
			Run(b, sell(5000, 1, 1000001, order.Day))
			Run(b, sell(5000, 1, 5, 5))
			Run(b, order.Order{ID: 5000, Side: 3, Price: 5, Qty: 5, Life: order.Day})
		},
		"a Run of what is there": func(b *book.Book) {
			for _, o := range slices.Concat(b.Row(api.Buy), b.Row(api.Sell)) {
				for _, life := range lives() {
					Run(b, buy(o.ID, 7, 1, life))
					Run(b, sell(o.ID, 1, 1, life))
				}
			}
		},
		"a Post that would trade": func(b *book.Book) {
			for side := api.Buy; side <= api.Sell; side++ {
				if front, ok := b.Front(side); ok {
					Run(b, order.Order{ID: 5000, Side: 3 - side, Price: front.Price, Qty: 1, Life: order.Post})
				}
			}
		},
		"a FOK of too much, an IOC of none": func(b *book.Book) {
			Run(b, buy(5000, 7, 1000000, order.FOK))
			Run(b, sell(5000, 1, 1000000, order.FOK))
			Run(b, sell(5000, 1000, 5, order.IOC))
		},
		"a Take of too much or too little": func(b *book.Book) {
			for side := range 4 {
				for price := range int64(9) {
					Take(b, side, price, 0, 77)
					Take(b, side, price, 1000000, 77)
				}
			}
		},
		"asking": func(b *book.Book) {
			Would(b, buy(5000, 7, 1000000))
			Would(b, sell(5000, 1, 1000000))
			Would(b, order.Order{})
		},
		"a Run in a twin": func(b *book.Book) {
			Run(b.Twin(), buy(5000, 7, 1000000, order.Day))
			Run(b.Twin(), sell(5000, 1, 1000000, order.Day))
		},
	} {
		if got := run(ahead); got != want {
			t.Errorf("%s changed something", what)
		}
	}
}
