package book

import (
	"fmt"
	"math"
	"slices"
	"sort"
	"strings"
	"testing"

	"straddle/api"
	"straddle/ladder"
	"straddle/order"
)

const (
	most  = math.MaxInt64
	least = math.MinInt64
)

// others are numbers that are no side.
func others() []int { return []int{0, -1, -2, 3, 4, 1 << 32, 1<<32 + 1, 1<<32 + 2, least, most} }

// sides are Buy, Sell, and numbers that are no side.
func sides() []int { return append([]int{api.Buy, api.Sell}, others()...) }

// strange are numbers that are neither prices nor quantities.
func strange() []int64 {
	return []int64{least, least + 1, -(1 << 32), -1000000, -2, -1, 0, 1000001, 1 << 32, 1<<32 + 5, 1 << 62, most - 1, most}
}

// buy and sell tell orders of members, buyc and sellc of customers.
func buy(id, price, qty int64) order.Order {
	return order.Order{ID: id, Side: api.Buy, Price: price, Qty: qty, Life: order.Day}
}

func sell(id, price, qty int64) order.Order {
	return order.Order{ID: id, Side: api.Sell, Price: price, Qty: qty, Life: order.Day}
}

func buyc(id, price, qty int64) order.Order {
	o := buy(id, price, qty)
	o.Cust = true
	return o
}

func sellc(id, price, qty int64) order.Order {
	o := sell(id, price, qty)
	o.Cust = true
	return o
}

// look tells all that can be asked of a book, of a few numbers beyond 20 alone.
func look(b *Book) string {
	var s strings.Builder
	fmt.Fprintln(&s, "len", b.Len())
	for _, side := range sides() {
		front, waits := b.Front(side)
		best, ok := b.Best(side)
		fmt.Fprintln(&s, "side", side, front, waits, b.Row(side), best, ok, b.Levels(side), b.Cust(side))
	}
	for _, id := range append(strange(), 1024, 1025, 2000) {
		o, ok := b.Get(id)
		fmt.Fprintln(&s, "id", id, o, ok)
	}
	for id := range int64(21) {
		o, ok := b.Get(id)
		fmt.Fprintln(&s, "id", id, o, ok)
	}
	return s.String()
}

// made tells a book in which these wait, that came in this order.
func made(t *testing.T, orders ...order.Order) *Book {
	t.Helper()
	b := New()
	if b == nil {
		t.Fatal("New: nil")
	}
	for _, o := range orders {
		checkInsert(t, b, o, api.OK)
	}
	return b
}

// checkInsert asks whether Insert answers so; if it refuses, whether it changes nothing.
func checkInsert(t *testing.T, b *Book, o order.Order, want api.Errno) {
	t.Helper()
	was, n := "", b.Len()
	if want != api.OK {
		was = look(b)
	}
	if err := b.Insert(o); err != want {
		t.Errorf("Insert(%+v): %v; want %v", o, err, want)
	}
	if want != api.OK {
		if look(b) != was {
			t.Errorf("Insert(%+v), refused, changed something: %s; was %s", o, look(b), was)
		}
		return
	}
	if got, ok := b.Get(o.ID); got != o || !ok || b.Len() != n+1 {
		t.Errorf("Get(%d) behind its Insert: %+v, %v; want %+v; of %d, ahead of it %d", o.ID, got, ok, o, b.Len(), n)
	}
}

// checkRemove asks whether Remove tells this order, and it is gone.
func checkRemove(t *testing.T, b *Book, want order.Order) {
	t.Helper()
	n := b.Len()
	if got, ok := b.Remove(want.ID); got != want || !ok {
		t.Errorf("Remove(%d): %+v, %v; want %+v", want.ID, got, ok, want)
	}
	if got, ok := b.Get(want.ID); got != (order.Order{}) || ok || b.Len() != n-1 {
		t.Errorf("Get(%d) behind its Remove: %+v, %v; of %d, ahead of it %d", want.ID, got, ok, b.Len(), n)
	}
	checkNone(t, b, want.ID)
}

// checkNone asks whether none of that number waits, and asking for it changes nothing.
func checkNone(t *testing.T, b *Book, id int64) {
	t.Helper()
	was := look(b)
	if got, ok := b.Remove(id); got != (order.Order{}) || ok {
		t.Errorf("Remove(%d): %+v, %v; none is there", id, got, ok)
	}
	if got, ok := b.Get(id); got != (order.Order{}) || ok {
		t.Errorf("Get(%d): %+v, %v; none is there", id, got, ok)
	}
	for _, qty := range append(strange(), 1, 2, 1000000) { // the number goes ahead of the quantity
		if got, err := b.Reduce(id, qty); got != (order.Order{}) || err != api.ErrName {
			t.Errorf("Reduce(%d, %d): %+v, %v; none is there", id, qty, got, err)
		}
	}
	if look(b) != was {
		t.Errorf("asking for %d changed something: %s; was %s", id, look(b), was)
	}
}

// checkReduce asks whether Reduce tells this order, whose number is taken so much less of.
func checkReduce(t *testing.T, b *Book, qty int64, want order.Order) {
	t.Helper()
	n := b.Len()
	if got, err := b.Reduce(want.ID, qty); got != want || err != api.OK {
		t.Errorf("Reduce(%d, %d): %+v, %v; want %+v", want.ID, qty, got, err, want)
	}
	if got, ok := b.Get(want.ID); got != want || !ok || b.Len() != n {
		t.Errorf("Get(%d) behind its Reduce: %+v, %v; want %+v; of %d, ahead of it %d", want.ID, got, ok, want, b.Len(), n)
	}
}

// checkRefused asks whether Reduce refuses so, and changes nothing.
func checkRefused(t *testing.T, b *Book, id, qty int64, want api.Errno) {
	t.Helper()
	was := look(b)
	if got, err := b.Reduce(id, qty); got != (order.Order{}) || err != want {
		t.Errorf("Reduce(%d, %d): %+v, %v; want %v", id, qty, got, err, want)
	}
	if look(b) != was {
		t.Errorf("Reduce(%d, %d), refused, changed something: %s; was %s", id, qty, look(b), was)
	}
}

// levelsOf tells the levels that a row has, price by price as they come in it.
func levelsOf(row []order.Order) []ladder.Level {
	var l []ladder.Level
	for _, o := range row {
		if len(l) == 0 || l[len(l)-1].Price != o.Price {
			l = append(l, ladder.Level{Price: o.Price})
		}
		v := &l[len(l)-1]
		v.Qty += o.Qty
		v.N++
	}
	return l
}

// checkSide asks whether these, in this order, are what waits on a side.
func checkSide(t *testing.T, b *Book, side int, want ...order.Order) {
	t.Helper()
	if got := b.Row(side); !slices.Equal(got, want) {
		t.Errorf("Row(%d): %+v; want %+v", side, got, want)
	}
	levels := levelsOf(want)
	if got := b.Levels(side); !slices.Equal(got, levels) {
		t.Errorf("Levels(%d): %v; want %v", side, got, levels)
	}
	first, best := order.Order{}, ladder.Level{}
	if len(want) > 0 {
		first, best = want[0], levels[0]
	}
	if got, ok := b.Front(side); got != first || ok != (len(want) > 0) {
		t.Errorf("Front(%d): %+v, %v; want %+v", side, got, ok, first)
	}
	if got, ok := b.Best(side); got != best || ok != (len(want) > 0) {
		t.Errorf("Best(%d): %v, %v; want %v", side, got, ok, best)
	}
	if got := b.Cust(side); got != first.Cust {
		t.Errorf("Cust(%d): %v; want %v", side, got, first.Cust)
	}
}

// checkBook asks whether these wait, Buy's and Sell's, and nobody else.
func checkBook(t *testing.T, b *Book, buys, sells []order.Order) {
	t.Helper()
	checkSide(t, b, api.Buy, buys...)
	checkSide(t, b, api.Sell, sells...)
	for _, side := range others() {
		checkSide(t, b, side)
	}
	if b.Len() != len(buys)+len(sells) {
		t.Errorf("Len: %d; want %d and %d", b.Len(), len(buys), len(sells))
	}
	for _, o := range slices.Concat(buys, sells) {
		if got, ok := b.Get(o.ID); got != o || !ok {
			t.Errorf("Get(%d): %+v, %v; want %+v", o.ID, got, ok, o)
		}
	}
}

func TestP1201ANewOneIsEmpty(t *testing.T) {
	b := made(t)
	checkBook(t, b, nil, nil)
	for _, id := range append(strange(), 1, 2, 1024) {
		checkNone(t, b, id)
	}
}

func TestP1201InsertAtItsBounds(t *testing.T) {
	for _, o := range []order.Order{
		{ID: 1, Side: api.Buy, Price: 1, Qty: 1},
		{ID: 1, Side: api.Sell, Price: 1, Qty: 1},
		{ID: most, Side: api.Buy, Price: 1000000, Qty: 1000000, Cust: true},
		{ID: most, Side: api.Sell, Price: 1000000, Qty: 1000000, Cust: true},
		{ID: 7, Side: api.Buy, Price: 999999, Qty: 999999},
		{ID: 7, Side: api.Sell, Price: 7, Qty: 3}, // whatever the grid
	} {
		b := made(t, o)
		if o.Side == api.Buy {
			checkBook(t, b, []order.Order{o}, nil)
		} else {
			checkBook(t, b, nil, []order.Order{o})
		}
	}
	for _, side := range []int{api.Buy, api.Sell} {
		good := order.Order{ID: 7, Side: side, Price: 10, Qty: 5}
		for _, b := range []*Book{made(t), made(t, buy(1, 10, 5), sell(2, 11, 5))} {
			for _, id := range []int64{0, -1, -2, -7, -(1 << 32), least + 1, least} {
				checkInsert(t, b, order.Order{ID: id, Side: side, Price: 10, Qty: 5}, api.ErrArg)
			}
			for _, n := range strange() {
				checkInsert(t, b, order.Order{ID: 7, Side: side, Price: n, Qty: 5}, api.ErrArg)
				checkInsert(t, b, order.Order{ID: 7, Side: side, Price: 10, Qty: n}, api.ErrArg)
			}
			for _, none := range others() {
				checkInsert(t, b, order.Order{ID: 7, Side: none, Price: 10, Qty: 5}, api.ErrArg)
			}
			checkInsert(t, b, order.Order{}, api.ErrArg)
			checkInsert(t, b, good, api.OK) // nothing of it is there yet
		}
	}
}

func TestP1201InsertAsksNothingElse(t *testing.T) {
	b := made(t)
	id := int64(0)
	var want []order.Order
	for _, owner := range []int{0, 1, 64, 65, -1, 1 << 32, least, most} {
		for _, life := range []int{order.Day, order.IOC, order.FOK, order.Post, 0, -1, 5, least, most} {
			id++
			o := order.Order{ID: id, Owner: owner, Side: api.Sell, Price: 10, Qty: id, Life: life}
			checkInsert(t, b, o, api.OK)
			want = append(want, o)
		}
	}
	checkBook(t, b, nil, want)
}

func TestP1201InsertOfWhatWouldTradeWaits(t *testing.T) { // who trades is not asked here
	b := made(t, buy(1, 10, 5), sell(2, 9, 5), sell(3, 10, 5), buy(4, 1000000, 1))
	checkBook(t, b, []order.Order{buy(4, 1000000, 1), buy(1, 10, 5)}, []order.Order{sell(2, 9, 5), sell(3, 10, 5)})
}

func TestP1201InsertTwice(t *testing.T) {
	b := made(t, buy(1, 10, 5), sell(2, 11, 5), buy(3, 10, 5))
	for _, id := range []int64{1, 2, 3} {
		for _, o := range []order.Order{buy(id, 10, 5), buy(id, 9, 1), buyc(id, 12, 7), sell(id, 11, 5), sellc(id, 8, 2)} {
			checkInsert(t, b, o, api.ErrTwice)
		}
	}
	checkReduce(t, b, 4, buy(1, 10, 1)) // what is less is there as before
	checkInsert(t, b, buy(1, 10, 5), api.ErrTwice)
	checkRemove(t, b, buy(1, 10, 1)) // what is gone is not
	checkInsert(t, b, sell(1, 11, 6), api.OK)
	checkInsert(t, b, buy(1, 10, 5), api.ErrTwice)
	checkBook(t, b, []order.Order{buy(3, 10, 5)}, []order.Order{sell(1, 11, 6), sell(2, 11, 5)})
}

// filled tells a book of MaxOrders orders, 1, 2, .., each on the side that of tells.
func filled(t *testing.T, side func(i int) int) *Book {
	t.Helper()
	b := made(t)
	for i := range 1024 {
		if b.Len() != i {
			t.Fatalf("Len: %d; want %d", b.Len(), i)
		}
		if err := b.Insert(order.Order{ID: int64(i + 1), Side: side(i), Price: 5, Qty: 1000000}); err != api.OK {
			t.Fatalf("Insert of %d: %v", i+1, err)
		}
	}
	return b
}

func TestP1201InsertIsFullOfBothSidesTogether(t *testing.T) {
	for what, side := range map[string]func(i int) int{
		"buys":  func(int) int { return api.Buy },
		"sells": func(int) int { return api.Sell },
		"both":  func(i int) int { return 1 + i%2 },
		"one":   func(i int) int { return 1 + i/1023 },
	} {
		b := filled(t, side)
		for _, b := range []*Book{b, b.Twin()} {
			for _, o := range []order.Order{buy(1025, 5, 1), sell(1025, 6, 1), buy(most, 1000000, 1), sellc(5000, 1, 1)} {
				checkInsert(t, b, o, api.ErrFull)
			}
			checkReduce(t, b, 999999, order.Order{ID: 5, Side: side(4), Price: 5, Qty: 1}) // makes no room
			checkInsert(t, b, buy(1025, 5, 1), api.ErrFull)
			checkRemove(t, b, order.Order{ID: 6, Side: side(5), Price: 5, Qty: 1000000})
			checkInsert(t, b, sell(1025, 5, 1), api.OK)
			checkInsert(t, b, buy(6, 5, 1), api.ErrFull)
			if b.Len() != 1024 {
				t.Errorf("%s: Len: %d", what, b.Len())
			}
		}
	}
}

func TestP1201AFullLevel(t *testing.T) {
	for side := api.Buy; side <= api.Sell; side++ {
		b := filled(t, func(int) int { return side })
		want := ladder.Level{Price: 5, Qty: 1024000000, N: 1024}
		if got, ok := b.Best(side); got != want || !ok {
			t.Errorf("Best(%d): %v, %v", side, got, ok)
		}
		for i, o := range b.Row(side) {
			if o.ID != int64(i+1) {
				t.Fatalf("Row(%d) at %d: %+v", side, i, o)
			}
		}
		for n := range int64(1024) { // from both ends by turns
			id := 1 + n/2
			if n%2 == 1 {
				id = 1024 - n/2
			}
			if o, ok := b.Remove(id); o.ID != id || !ok {
				t.Fatalf("Remove(%d): %+v, %v", id, o, ok)
			}
		}
		checkBook(t, b, nil, nil)
	}
}

func TestP1201InsertRefusesInOrder(t *testing.T) {
	b := filled(t, func(i int) int { return 1 + i%2 })
	for _, c := range []struct {
		o    order.Order
		want api.Errno
	}{
		{buy(5, 0, 1), api.ErrArg}, // and twice, and full
		{buy(5, 5, 0), api.ErrArg},
		{buy(5, 1000001, 1), api.ErrArg},
		{buy(5, 5, 1000001), api.ErrArg},
		{order.Order{ID: 5, Price: 5, Qty: 1}, api.ErrArg},
		{buy(0, 5, 1), api.ErrArg}, // and full
		{buy(1025, 0, 1), api.ErrArg},
		{sell(1025, 5, 0), api.ErrArg},
		{order.Order{ID: 1025, Side: 3, Price: 5, Qty: 1}, api.ErrArg},
		{buy(5, 5, 1), api.ErrTwice}, // and full
		{sell(5, 6, 1), api.ErrTwice},
		{buy(1024, 5, 1), api.ErrTwice},
		{sell(1025, 5, 1), api.ErrFull},
	} {
		checkInsert(t, b, c.o, c.want)
	}
	few := made(t, buy(5, 10, 5))
	for _, o := range []order.Order{buy(5, 0, 5), sell(5, 10, 0), {ID: 5, Side: 3, Price: 10, Qty: 5}} {
		checkInsert(t, few, o, api.ErrArg) // and twice
	}
}

// waiting tells orders of both sides, those ahead first; time goes by number, and not by who came first.
func waiting() (buys, sells []order.Order) {
	buys = []order.Order{
		buy(20, 1000000, 3), buyc(8, 11, 4), buyc(12, 11, 1), buy(3, 11, 9), buy(4, 11, 2), buy(most, 11, 5), buyc(1, 10, 7), buy(2, 9, 1000000), buyc(6, 1, 1),
	}
	sells = []order.Order{
		sell(19, 1, 2), sellc(13, 9, 6), sell(5, 9, 1), sellc(7, 12, 8), sellc(9, 12, 3), sell(10, 12, 1000000), sell(11, 12, 4), sell(15, 13, 5), sellc(14, 1000000, 1),
	}
	return buys, sells
}

func TestP1201WhoIsAheadWhoeverCameFirst(t *testing.T) {
	buys, sells := waiting()
	all := slices.Concat(buys, sells)
	state := uint32(7)
	for range 200 {
		for i := range all {
			state = state*1664525 + 1013904223
			k := i + int(state>>8)%(len(all)-i)
			all[i], all[k] = all[k], all[i]
		}
		checkBook(t, made(t, all...), buys, sells)
	}
}

// eachOrder calls f with every order of l.
func eachOrder(l []order.Order, n int, f func([]order.Order)) {
	if n == len(l) {
		f(slices.Clone(l))
		return
	}
	for i := n; i < len(l); i++ {
		l[n], l[i] = l[i], l[n]
		eachOrder(l, n+1, f)
		l[n], l[i] = l[i], l[n]
	}
}

func TestP1201EveryOrderOfComingAndGoing(t *testing.T) {
	for side, want := range map[int][]order.Order{
		api.Buy:  {buyc(5, 11, 1), buy(1, 11, 2), buyc(2, 10, 3), buy(3, 10, 4), buy(4, 10, 5)},
		api.Sell: {sellc(5, 10, 1), sell(1, 10, 2), sellc(2, 11, 3), sell(3, 11, 4), sell(4, 11, 5)},
	} {
		other := order.Order{ID: 99, Side: 3 - side, Price: 10, Qty: 1}
		eachOrder(slices.Clone(want), 0, func(l []order.Order) {
			b := made(t, append(slices.Clone(l), other)...)
			checkSide(t, b, side, want...)
			left := slices.Clone(want)
			for _, o := range l {
				checkRemove(t, b, o)
				left = slices.DeleteFunc(left, func(x order.Order) bool { return x == o })
				checkSide(t, b, side, left...)
				checkSide(t, b, 3-side, other)
			}
			for _, o := range l { // anew: nothing is left of what was there
				checkInsert(t, b, o, api.OK)
			}
			checkSide(t, b, side, want...)
			checkSide(t, b, 3-side, other)
		})
	}
}

func TestP1201ReduceAtItsBounds(t *testing.T) {
	b := made(t, buy(1, 10, 5), buyc(3, 10, 7), sell(2, 12, 1), sell(4, 12, 1000000))
	for id, qty := range map[int64]int64{1: 5, 3: 7, 2: 1, 4: 1000000} {
		for _, n := range []int64{qty, qty + 1, 0, -1, -qty, least, 1000001, 1<<32 + 1, most} {
			checkRefused(t, b, id, n, api.ErrArg)
		}
	}
	for _, id := range append(strange(), 5, 10, 12) {
		checkNone(t, b, id)
	}
	checkReduce(t, b, 4, buy(1, 10, 1)) // all but one
	checkReduce(t, b, 1, buyc(3, 10, 6))
	checkReduce(t, b, 2, buyc(3, 10, 4))
	checkReduce(t, b, 999999, sell(4, 12, 1))
	for _, id := range []int64{1, 2, 4} { // what is one alone can't be less
		for _, n := range []int64{1, 2, 0, -1} {
			checkRefused(t, b, id, n, api.ErrArg)
		}
	}
	checkRefused(t, b, 3, 4, api.ErrArg) // by what it has now
	checkBook(t, b, []order.Order{buyc(3, 10, 4), buy(1, 10, 1)}, []order.Order{sell(2, 12, 1), sell(4, 12, 1)})
	checkRemove(t, b, buyc(3, 10, 4)) // as it is now
	checkRemove(t, b, sell(4, 12, 1))
	checkBook(t, b, []order.Order{buy(1, 10, 1)}, []order.Order{sell(2, 12, 1)})
}

func TestP1201ReduceKeepsThePlace(t *testing.T) {
	buys, sells := waiting()
	b := made(t, slices.Concat(buys, sells)...)
	for _, row := range [][]order.Order{buys, sells} {
		for i := range row {
			for row[i].Qty > 1 {
				n := (row[i].Qty + 1) / 2
				row[i].Qty -= n
				checkReduce(t, b, n, row[i])
				checkBook(t, b, buys, sells)
			}
		}
	}
}

func TestP1201ReduceOfItsOwnerCustomerLife(t *testing.T) {
	o := order.Order{ID: 7, Owner: 5, Side: api.Sell, Price: 10, Qty: 9, Cust: true, Life: order.Post}
	b := made(t, o)
	o.Qty = 6
	checkReduce(t, b, 3, o)
	checkRemove(t, b, o)
}

func TestP1201BestIsTheWholeLevel(t *testing.T) {
	b := made(t, buy(1, 10, 5), buy(2, 11, 6), buyc(3, 11, 7), sell(4, 13, 1), sellc(5, 13, 2), sell(6, 12, 9))
	for _, c := range []struct {
		side int
		want ladder.Level
		cust bool
	}{{api.Buy, ladder.Level{Price: 11, Qty: 13, N: 2}, true}, {api.Sell, ladder.Level{Price: 12, Qty: 9, N: 1}, false}} {
		if got, ok := b.Best(c.side); got != c.want || !ok || b.Cust(c.side) != c.cust {
			t.Errorf("Best(%d): %v, %v; Cust: %v", c.side, got, ok, b.Cust(c.side))
		}
	}
	checkRemove(t, b, buyc(3, 11, 7))
	checkRemove(t, b, sell(6, 12, 9))
	if b.Cust(api.Buy) || !b.Cust(api.Sell) {
		t.Errorf("Cust: %v, %v", b.Cust(api.Buy), b.Cust(api.Sell))
	}
	checkBook(t, b, []order.Order{buy(2, 11, 6), buy(1, 10, 5)}, []order.Order{sellc(5, 13, 2), sell(4, 13, 1)})
	checkInsert(t, b, buyc(9, 10, 1), api.OK) // a customer's, but not ahead of all
	if b.Cust(api.Buy) {
		t.Error("Cust of one who is not Front")
	}
}

// changes are calls that change a book of buy(1, 10, 5), buyc(3, 10, 7), sell(2, 12, 8), each in another way.
func changes() map[string]func(*Book) {
	return map[string]func(*Book){
		"an Insert ahead":    func(b *Book) { b.Insert(buyc(9, 11, 1)) },
		"an Insert between":  func(b *Book) { b.Insert(buyc(9, 10, 1)) },
		"an Insert behind":   func(b *Book) { b.Insert(buy(9, 9, 1)) },
		"an Insert to sell":  func(b *Book) { b.Insert(sell(9, 12, 1)) },
		"a Remove ahead":     func(b *Book) { b.Remove(3) },
		"a Remove behind":    func(b *Book) { b.Remove(1) },
		"a Remove of all":    func(b *Book) { b.Remove(2) },
		"a Reduce ahead":     func(b *Book) { b.Reduce(3, 2) },
		"a Reduce behind":    func(b *Book) { b.Reduce(1, 4) },
		"a Reduce of a Sell": func(b *Book) { b.Reduce(2, 7) },
	}
}

func TestP1201TwinsGoTheirOwnWays(t *testing.T) {
	for what, change := range changes() {
		b := made(t, buy(1, 10, 5), buyc(3, 10, 7), buy(4, 8, 1), sell(2, 12, 8))
		checkRemove(t, b, buy(4, 8, 1)) // so that there is spare room
		w := b.Twin()
		was := look(b)
		if w == b || look(w) != was {
			t.Errorf("a twin is another one: %s; want %s", look(w), was)
		}
		change(w)
		now := look(w)
		if now == was || look(b) != was {
			t.Errorf("%s, called on a twin, changed nothing, or what has it", what)
		}
		change(b)
		if look(b) != now || look(w) != now {
			t.Errorf("%s, called on both, left them unlike", what)
		}
		v := w.Twin().Twin()
		v.Insert(buy(15, 1, 1))
		w.Insert(buy(16, 1, 2)) // in the place where the twin's twin put its own
		_, ok := v.Get(16)
		_, found := w.Get(15)
		if ok || found || look(b) != now {
			t.Errorf("%s: what came to one came to its twin's twin", what)
		}
	}
	w := made(t).Twin()
	checkBook(t, w, nil, nil)
	checkInsert(t, w, sell(1, 5, 5), api.OK)
	checkInsert(t, w, sell(2, 4, 5), api.OK)
	checkBook(t, w, nil, []order.Order{sell(2, 4, 5), sell(1, 5, 5)})
}

func TestP1201ATwinOfMany(t *testing.T) {
	buys, sells := waiting()
	b := made(t, slices.Concat(sells, buys)...)
	checkReduce(t, b, 2, buyc(8, 11, 2))
	checkRemove(t, b, sellc(7, 12, 8))
	buys[1].Qty -= 2
	sells = slices.Delete(sells, 3, 4)
	w := b.Twin()
	checkBook(t, w, buys, sells)
	for _, o := range slices.Concat(buys, sells) {
		checkInsert(t, w, o, api.ErrTwice)
		checkRemove(t, w, o)
	}
	checkBook(t, w, nil, nil)
	checkBook(t, b, buys, sells)
}

// plain is a book as the promise tells it: orders by number, in no row.
type plain map[int64]order.Order

func (m plain) insert(o order.Order) api.Errno {
	switch {
	case o.ID < 1, o.Side != 1 && o.Side != 2, o.Price < 1, o.Price > 1000000, o.Qty < 1, o.Qty > 1000000:
		return api.ErrArg
	case m[o.ID].ID != 0:
		return api.ErrTwice
	case len(m) == 1024:
		return api.ErrFull
	}
	m[o.ID] = o
	return api.OK
}

func (m plain) remove(id int64) (order.Order, bool) {
	o, ok := m[id]
	delete(m, id)
	return o, ok
}

func (m plain) reduce(id, qty int64) (order.Order, api.Errno) {
	o, ok := m[id]
	switch {
	case !ok:
		return order.Order{}, api.ErrName
	case qty < 1 || qty >= o.Qty:
		return order.Order{}, api.ErrArg
	}
	o.Qty -= qty
	m[id] = o
	return o, api.OK
}

// row tells a side's orders, sorted by price, customers first, then by number.
func (m plain) row(side int) []order.Order {
	var l []order.Order
	for _, o := range m {
		if o.Side == side {
			l = append(l, o)
		}
	}
	sort.Slice(l, func(i, k int) bool {
		a, b := l[i], l[k]
		switch {
		case a.Price != b.Price:
			return (a.Price > b.Price) == (side == 1)
		case a.Cust != b.Cust:
			return a.Cust
		}
		return a.ID < b.ID
	})
	return l
}

func TestP1201IsThePlainReading(t *testing.T) {
	state := uint32(1)
	next := func(n int) int64 {
		state = state*1664525 + 1013904223
		return int64(state>>8) % int64(n)
	}
	found := map[string]int{}
	for range 300 {
		b, m := made(t), plain{}
		ids, prices := 4+int(next(40)), 2+int(next(9))
		for range 120 {
			id, qty := next(ids), next(7)-1
			switch next(4) {
			case 0, 1:
				o := order.Order{ID: id, Owner: int(next(9)) - 4, Side: int(next(20)+11) / 10, Price: next(prices), Qty: qty, Cust: next(3) == 0, Life: int(next(6))}
				got, want := b.Insert(o), m.insert(o)
				if got != want {
					t.Fatalf("Insert(%+v): %v; want %v", o, got, want)
				}
				found["insert "+got.Error()]++
			case 2:
				got, ok := b.Remove(id)
				want, was := m.remove(id)
				if got != want || ok != was {
					t.Fatalf("Remove(%d): %+v, %v; want %+v, %v", id, got, ok, want, was)
				}
				found[fmt.Sprint("remove ", ok)]++
			default:
				got, err := b.Reduce(id, qty)
				want, wrong := m.reduce(id, qty)
				if got != want || err != wrong {
					t.Fatalf("Reduce(%d, %d): %+v, %v; want %+v, %v", id, qty, got, err, want, wrong)
				}
				found["reduce "+err.Error()]++
			}
			checkBook(t, b, m.row(api.Buy), m.row(api.Sell))
			if t.Failed() { // enough is told
				return
			}
		}
		checkBook(t, b.Twin(), m.row(api.Buy), m.row(api.Sell))
	}
	for _, what := range []string{"insert ok", "insert arg", "insert twice", "remove true", "remove false", "reduce ok", "reduce arg", "reduce name"} {
		if found[what] < 500 {
			t.Errorf("only %d of %s", found[what], what)
		}
	}
}

func TestP1201ManyAtManyPrices(t *testing.T) {
	b, m := made(t), plain{}
	for n := range int64(1500) { // the last ones are too many
		o := order.Order{ID: 1 + n*7919%1501, Side: int(1 + n*31%2), Price: 1 + n*104729%1000*999, Qty: 1 + n, Cust: n%3 == 0}
		if got, want := b.Insert(o), m.insert(o); got != want {
			t.Fatalf("Insert(%+v): %v; want %v", o, got, want)
		}
	}
	checkBook(t, b, m.row(api.Buy), m.row(api.Sell))
	w := b.Twin()
	for id := int64(1); id <= 1501; id += 2 {
		got, ok := b.Remove(id)
		if want, was := m.remove(id); got != want || ok != was {
			t.Fatalf("Remove(%d): %+v, %v; want %+v, %v", id, got, ok, want, was)
		}
		got, err := b.Reduce(id+1, 1)
		if want, wrong := m.reduce(id+1, 1); got != want || err != wrong {
			t.Fatalf("Reduce(%d, 1): %+v, %v; want %+v, %v", id+1, got, err, want, wrong)
		}
	}
	checkBook(t, b, m.row(api.Buy), m.row(api.Sell))
	if w.Len() != 1024 {
		t.Errorf("a twin's Len: %d", w.Len())
	}
}

func TestP1AnyNumbersAreAnswered(t *testing.T) {
	wide := append(strange(), 1, 2, 5, 999999, 1000000)
	b := made(t)
	for _, side := range sides() {
		for _, x := range wide {
			for _, y := range wide {
				for _, z := range []int64{least, -1, 0, 1, most} {
					b.Insert(order.Order{ID: x, Owner: int(y), Side: side, Price: y, Qty: x, Life: int(z)})
					b.Insert(order.Order{ID: y, Owner: int(x), Side: side, Price: 5, Qty: 1 + z, Cust: true, Life: int(x)})
					b.Reduce(x, y)
				}
			}
		}
		look(b.Twin())
		for _, x := range wide {
			b.Remove(x)
		}
		checkBook(t, b, nil, nil)
	}
}

// spoil writes over all of a list, its spare room too.
func spoil[T any](l []T, bad T) {
	whole := l[:cap(l)]
	for i := range whole {
		whole[i] = bad
	}
}

func TestP2AnswersAreNewMemory(t *testing.T) {
	buys, sells := waiting()
	b := made(t, slices.Concat(buys, sells, []order.Order{buy(16, 5, 5), sell(17, 5, 5)})...)
	checkRemove(t, b, buy(16, 5, 5)) // so that there is spare room
	checkRemove(t, b, sell(17, 5, 5))
	was := look(b)
	rows := [][]order.Order{b.Row(api.Buy), b.Row(api.Sell), b.Row(api.Buy), b.Row(0), b.Row(api.Sell), b.Twin().Row(api.Buy)}
	levels := [][]ladder.Level{b.Levels(api.Buy), b.Levels(api.Sell), b.Levels(api.Buy), b.Levels(0), b.Levels(api.Sell)}
	for i, l := range rows {
		before := fmt.Sprint(rows[:i], rows[i+1:], levels)
		spoil(l, order.Order{ID: -9})
		if after := fmt.Sprint(rows[:i], rows[i+1:], levels); after != before {
			t.Errorf("two lists share memory: %s; was %s", after, before)
		}
	}
	for i, l := range levels {
		before := fmt.Sprint(levels[:i], levels[i+1:])
		spoil(l, ladder.Level{N: -9})
		if after := fmt.Sprint(levels[:i], levels[i+1:]); after != before {
			t.Errorf("two lists share memory: %s; was %s", after, before)
		}
	}
	if look(b) != was {
		t.Errorf("what is kept changes with what was answered: %s; was %s", look(b), was)
	}
	row, level := b.Row(api.Buy), b.Levels(api.Buy)
	keptRow, keptLevel := slices.Clone(row), slices.Clone(level)
	checkInsert(t, b, buyc(18, 11, 5), api.OK)
	checkReduce(t, b, 2, buy(20, 1000000, 1))
	checkRemove(t, b, buyc(6, 1, 1))
	if !slices.Equal(row, keptRow) || !slices.Equal(level, keptLevel) {
		t.Errorf("what was answered changes with what is kept: %v, %v", row, level)
	}
}

// run tells what a book answers to some calls, with something else ahead of each.
func run(ahead func(b *Book)) string {
	var s strings.Builder
	b := New()
	for n := range int64(60) {
		ahead(b)
		o := order.Order{ID: 1 + n*7%15, Owner: int(n), Side: int(1 + n%2), Price: 1 + n*5%7, Qty: 2 + n%4, Cust: n%3 == 0}
		fmt.Fprintln(&s, b.Insert(o), look(b))
		ahead(b)
		if n%2 == 1 {
			got, err := b.Reduce(1+n*4%15, n%3)
			fmt.Fprintln(&s, got, err, look(b))
		}
		ahead(b)
		if n%5 > 2 {
			got, ok := b.Remove(1 + n*11%15)
			fmt.Fprintln(&s, got, ok, look(b))
		}
	}
	return s.String()
}

func TestP3TheSameCallsAnswerTheSame(t *testing.T) {
	first := run(func(*Book) {})
	for range 3 {
		if told := run(func(*Book) {}); told != first {
			t.Fatalf("%s; the first time %s", told, first)
		}
	}
}

func TestP5WhatIsRefusedOrAskedChangesNothing(t *testing.T) {
	want := run(func(*Book) {})
	for what, ahead := range map[string]func(b *Book){
		"an Insert of what may not be": func(b *Book) {
			b.Insert(buy(0, 5, 5))
			b.Insert(buy(16, 0, 5))
			b.Insert(sell(16, 5, 1000001))
			b.Insert(order.Order{ID: 16, Side: 3, Price: 5, Qty: 5})
		},
		"an Insert of what is there": func(b *Book) {
			for _, o := range slices.Concat(b.Row(api.Buy), b.Row(api.Sell)) {
				b.Insert(buy(o.ID, 6, 1))
				b.Insert(sell(o.ID, 6, 1))
			}
		},
		"a Reduce of none, too much, too little": func(b *Book) {
			b.Reduce(16, 1)
			b.Reduce(0, 1)
			for _, o := range slices.Concat(b.Row(api.Buy), b.Row(api.Sell)) {
				b.Reduce(o.ID, 0)
				b.Reduce(o.ID, -1)
				b.Reduce(o.ID, o.Qty)
				b.Reduce(o.ID, most)
			}
		},
		"a Remove of none": func(b *Book) { b.Remove(16); b.Remove(0); b.Remove(least) },
		"asking":           func(b *Book) { look(b) },
		"a New, a Twin": func(b *Book) {
			New().Insert(buy(5, 5, 5))
			w := b.Twin()
			w.Insert(sell(16, 1, 5))
			for id := range int64(16) {
				w.Reduce(id, 1)
				w.Remove(id)
			}
		},
	} {
		if got := run(ahead); got != want {
			t.Errorf("%s changed something", what)
		}
	}
}

func TestP7BooksAreTheCallersOwn(t *testing.T) {
	b, other := made(t), made(t)
	if b == other {
		t.Error("one book for two")
	}
	checkInsert(t, b, buy(1, 10, 5), api.OK)
	checkBook(t, other, nil, nil)
	checkInsert(t, other, buy(1, 11, 6), api.OK)
	checkBook(t, b, []order.Order{buy(1, 10, 5)}, nil)
	checkBook(t, other, []order.Order{buy(1, 11, 6)}, nil)
	if b.Twin() == b.Twin() {
		t.Error("one twin for two")
	}
}
