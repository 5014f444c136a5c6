package cbook

import (
	"fmt"
	"math"
	"slices"
	"sort"
	"strings"
	"testing"

	"straddle/api"
)

const (
	most  = math.MaxInt64
	least = math.MinInt64
)

// others are numbers that are no side.
func others() []int { return []int{0, -1, -2, 3, 4, 1 << 32, 1<<32 + 1, 1<<32 + 2, least, most} }

// sides are Buy, Sell, and numbers that are no side.
func sides() []int { return append([]int{api.Buy, api.Sell}, others()...) }

// strange are numbers that are neither nets nor units.
func strange() []int64 {
	return []int64{least, least + 1, -(1 << 32), -16000001, 16000001, 1 << 32, 1<<32 + 5, 1 << 62, most - 1, most}
}

// none are numbers below the first one that may be.
func none() []int64 { return []int64{0, -1, -2, -7, -16000000, -(1 << 32), least + 1, least} }

// buy and sell tell orders.
func buy(id, net, units int64) Order {
	return Order{ID: id, Owner: 3, Side: api.Buy, Net: net, Units: units}
}

func sell(id, net, units int64) Order {
	return Order{ID: id, Owner: 4, Side: api.Sell, Net: net, Units: units}
}

// walk tells numbers below n, each time the same row of them.
func walk(seed uint32) func(n int) int64 {
	return func(n int) int64 {
		seed = seed*1664525 + 1013904223
		return int64(seed>>8) % int64(n)
	}
}

// look tells all that can be asked of a book, of a few numbers beyond 20 alone.
func look(b *Book) string {
	var s strings.Builder
	fmt.Fprintln(&s, "len", b.Len())
	for _, side := range sides() {
		front, ok := b.Front(side)
		fmt.Fprintln(&s, "side", side, front, ok, b.Row(side))
	}
	for _, id := range slices.Concat(strange(), none(), []int64{256, 257, 2000}) {
		o, ok := b.Get(id)
		fmt.Fprintln(&s, "id", id, o, ok)
	}
	for id := range int64(21) {
		o, ok := b.Get(id)
		fmt.Fprintln(&s, "id", id, o, ok)
	}
	return s.String()
}

// made tells a book in which these wait, that came in this order.
func made(t *testing.T, orders ...Order) *Book {
	t.Helper()
	b := New()
	if b == nil {
		t.Fatal("New: nil")
	}
	for _, o := range orders {
		checkInsert(t, b, o, api.OK)
	}
	return b
}

// checkInsert asks whether Insert answers so; if it refuses, whether it changes nothing.
func checkInsert(t *testing.T, b *Book, o Order, want api.Errno) {
	t.Helper()
	was, n := "", b.Len()
	if want != api.OK {
		was = look(b)
	}
	if err := b.Insert(o); err != want {
		t.Errorf("Insert(%+v): %v; want %v", o, err, want)
	}
	if want != api.OK {
		if look(b) != was {
			t.Errorf("Insert(%+v), refused, changed something: %s; was %s", o, look(b), was)
		}
		return
	}
	if got, ok := b.Get(o.ID); got != o || !ok || b.Len() != n+1 {
		t.Errorf("Get(%d) behind its Insert: %+v, %v; want %+v; of %d, ahead of it %d", o.ID, got, ok, o, b.Len(), n)
	}
}

// checkRemove asks whether Remove tells this order, and it is gone.
func checkRemove(t *testing.T, b *Book, want Order) {
	t.Helper()
	n := b.Len()
	if got, ok := b.Remove(want.ID); got != want || !ok || b.Len() != n-1 {
		t.Errorf("Remove(%d): %+v, %v; want %+v; of %d, ahead of it %d", want.ID, got, ok, want, b.Len(), n)
	}
	checkNone(t, b, want.ID)
}

// checkNone asks whether none of that number waits, and asking for it changes nothing.
func checkNone(t *testing.T, b *Book, id int64) {
	t.Helper()
	was := look(b)
	if got, ok := b.Remove(id); got != (Order{}) || ok {
		t.Errorf("Remove(%d): %+v, %v; none is there", id, got, ok)
	}
	if got, ok := b.Get(id); got != (Order{}) || ok {
		t.Errorf("Get(%d): %+v, %v; none is there", id, got, ok)
	}
	for _, units := range slices.Concat(strange(), none(), []int64{1, 2, 1000000}) { // the number goes ahead of the units
		if got, err := b.Reduce(id, units); got != (Order{}) || err != api.ErrName {
			t.Errorf("Reduce(%d, %d): %+v, %v; none is there", id, units, got, err)
		}
	}
	if look(b) != was {
		t.Errorf("asking for %d changed something: %s; was %s", id, look(b), was)
	}
}

// checkReduce asks whether Reduce tells this order, of whose number so many units are taken, and it is gone if that was all.
func checkReduce(t *testing.T, b *Book, units int64, want Order) {
	t.Helper()
	n := b.Len()
	if got, err := b.Reduce(want.ID, units); got != want || err != api.OK {
		t.Errorf("Reduce(%d, %d): %+v, %v; want %+v", want.ID, units, got, err, want)
	}
	if want.Units == 0 {
		if b.Len() != n-1 {
			t.Errorf("Reduce(%d, %d), used up: of %d, ahead of it %d", want.ID, units, b.Len(), n)
		}
		checkNone(t, b, want.ID)
		return
	}
	if got, ok := b.Get(want.ID); got != want || !ok || b.Len() != n {
		t.Errorf("Get(%d) behind its Reduce: %+v, %v; want %+v; of %d, ahead of it %d", want.ID, got, ok, want, b.Len(), n)
	}
}

// checkRefused asks whether Reduce refuses so, and changes nothing.
func checkRefused(t *testing.T, b *Book, id, units int64, want api.Errno) {
	t.Helper()
	was := look(b)
	if got, err := b.Reduce(id, units); got != (Order{}) || err != want {
		t.Errorf("Reduce(%d, %d): %+v, %v; want %v", id, units, got, err, want)
	}
	if look(b) != was {
		t.Errorf("Reduce(%d, %d), refused, changed something: %s; was %s", id, units, look(b), was)
	}
}

// checkSide asks whether these, in this order, are what waits on a side.
func checkSide(t *testing.T, b *Book, side int, want ...Order) {
	t.Helper()
	if got := b.Row(side); !slices.Equal(got, want) {
		t.Errorf("Row(%d): %+v; want %+v", side, got, want)
	}
	first := Order{}
	if len(want) > 0 {
		first = want[0]
	}
	if got, ok := b.Front(side); got != first || ok != (len(want) > 0) {
		t.Errorf("Front(%d): %+v, %v; want %+v", side, got, ok, first)
	}
}

// checkBook asks whether these wait, Buy's and Sell's, and nobody else.
func checkBook(t *testing.T, b *Book, buys, sells []Order) {
	t.Helper()
	checkSide(t, b, api.Buy, buys...)
	checkSide(t, b, api.Sell, sells...)
	for _, side := range others() {
		checkSide(t, b, side)
	}
	if b.Len() != len(buys)+len(sells) {
		t.Errorf("Len: %d; want %d and %d", b.Len(), len(buys), len(sells))
	}
	for _, o := range slices.Concat(buys, sells) {
		if got, ok := b.Get(o.ID); got != o || !ok {
			t.Errorf("Get(%d): %+v, %v; want %+v", o.ID, got, ok, o)
		}
	}
}

func TestP2101Takes(t *testing.T) {
	for _, c := range []struct {
		side    int
		own, at int64
		want    bool
		why     string
	}{
		{api.Buy, 10, 9, true, "cheaper than it would pay"},
		{api.Buy, 10, 10, true, "its own"},
		{api.Buy, 10, 11, false, "dearer"},
		{api.Sell, 10, 9, false, "less than it would have"},
		{api.Sell, 10, 10, true, "its own"},
		{api.Sell, 10, 11, true, "more"},
		{api.Buy, -10, -11, true, "it is given more for buying"},
		{api.Buy, -10, -10, true, "its own, below nothing"},
		{api.Buy, -10, -9, false, "it is given less"},
		{api.Buy, -10, 10, false, "it would pay"},
		{api.Buy, 10, -10, true, "it is given what it would pay"},
		{api.Sell, -10, -11, false, "it would give more"},
		{api.Sell, -10, -10, true, "its own, below nothing"},
		{api.Sell, -10, -9, true, "it would give less"},
		{api.Sell, -10, 10, true, "it is paid"},
		{api.Sell, 10, -10, false, "it would have to give"},
		{api.Buy, 0, 0, true, "nothing for nothing"},
		{api.Sell, 0, 0, true, "nothing for nothing"},
		{api.Buy, 0, 1, false, "something for nothing"},
		{api.Sell, 0, -1, false, "nothing for something"},
		{api.Buy, -16000000, 16000000, false, "the ends of nets"},
		{api.Buy, 16000000, -16000000, true, "the ends of nets"},
		{api.Sell, -16000000, 16000000, true, "the ends of nets"},
		{api.Sell, 16000000, -16000000, false, "the ends of nets"},
		{api.Buy, least, most, false, "the ends of numbers"},
		{api.Buy, most, least, true, "the ends of numbers"},
		{api.Sell, least, most, true, "the ends of numbers"},
		{api.Sell, most, least, false, "the ends of numbers"},
	} {
		o := Order{ID: 7, Owner: 3, Side: c.side, Net: c.own, Units: 5}
		if got := Takes(o, c.at); got != c.want {
			t.Errorf("Takes of side %d at %d, %d (%s): %v", c.side, c.own, c.at, c.why, got)
		}
	}
}

func TestP2101TakesIsThePlainReading(t *testing.T) {
	nets := slices.Concat(strange(), none(), []int64{1, 2, 3, 16000000})
	for _, own := range nets {
		for _, net := range nets {
			for _, n := range nets { // which has no say, as all but Side and Net
				if got := Takes(Order{ID: n, Owner: int(net), Side: api.Buy, Net: own, Units: -n}, net); got != (net <= own) {
					t.Errorf("Takes of a Buy at %d, %d: %v", own, net, got)
				}
				if got := Takes(Order{ID: -n, Owner: int(own), Side: api.Sell, Net: own, Units: n}, net); got != (net >= own) {
					t.Errorf("Takes of a Sell at %d, %d: %v", own, net, got)
				}
			}
		}
	}
}

// rows tells orders of both sides, those ahead first.
func rows() map[int][]Order {
	return map[int][]Order{
		api.Buy: {
			{ID: 9, Net: most},
			{ID: 90, Net: 16000000},
			{ID: 9, Net: 1},
			{ID: least, Net: 0},
			{ID: -1, Net: 0},
			{ID: 0, Net: 0},
			{ID: 3, Net: 0},
			{ID: 4, Net: 0},
			{ID: most, Net: 0},
			{ID: 2, Net: -1},
			{ID: 1, Net: -5},
			{ID: 5, Net: -5},
			{ID: 1, Net: -16000000},
			{ID: 1, Net: least},
		},
		api.Sell: {
			{ID: 7, Net: least},
			{ID: 70, Net: -16000000},
			{ID: 7, Net: -5},
			{ID: 1, Net: -1},
			{ID: 2, Net: -1},
			{ID: least, Net: 0},
			{ID: 0, Net: 0},
			{ID: 30, Net: 0},
			{ID: 1 << 32, Net: 0},
			{ID: most, Net: 0},
			{ID: 5, Net: 1},
			{ID: 1, Net: 16000000},
			{ID: 1, Net: most},
		},
	}
}

func TestP2101AheadGoesByNetThenTime(t *testing.T) {
	for side, row := range rows() {
		for i, a := range row {
			for k, b := range row {
				for _, more := range []Order{{}, {Owner: 5, Units: 7}, {Owner: -5, Units: most}} { // which has no say
					a.Side, b.Side = side, side
					a.Owner, b.Units = more.Owner, more.Units
					if got := Ahead(a, b); got != (i < k) {
						t.Errorf("Ahead of %+v, %+v: %v", a, b, got)
					}
				}
			}
		}
	}
}

func TestP2101AheadSortsARow(t *testing.T) {
	next := walk(3)
	for side, want := range rows() {
		for i := range want {
			want[i].Side = side
		}
		for range 50 {
			got := slices.Clone(want)
			for i := range got {
				k := i + int(next(len(got)-i))
				got[i], got[k] = got[k], got[i]
			}
			sort.Slice(got, func(i, k int) bool { return Ahead(got[i], got[k]) })
			if !slices.Equal(got, want) {
				t.Errorf("side %d: %+v; want %+v", side, got, want)
			}
		}
	}
}

func TestP2101ANewOneIsEmpty(t *testing.T) {
	b := made(t)
	checkBook(t, b, nil, nil)
	for _, id := range slices.Concat(strange(), none(), []int64{1, 2, 256}) {
		checkNone(t, b, id)
	}
}

func TestP2101InsertAtItsBounds(t *testing.T) {
	for _, o := range []Order{
		{ID: 1, Side: api.Buy, Net: -16000000, Units: 1},
		{ID: 1, Side: api.Sell, Net: -16000000, Units: 1},
		{ID: most, Side: api.Buy, Net: 16000000, Units: 1000000},
		{ID: most, Side: api.Sell, Net: 16000000, Units: 1000000},
		{ID: 7, Side: api.Buy, Net: 15999999, Units: 999999},
		{ID: 7, Side: api.Sell, Net: -15999999, Units: 2},
		{ID: 1 << 32, Side: api.Buy, Net: 0, Units: 3},
		{ID: 2, Side: api.Sell, Net: 0, Units: 3},
	} {
		b := made(t, o)
		if o.Side == api.Buy {
			checkBook(t, b, []Order{o}, nil)
		} else {
			checkBook(t, b, nil, []Order{o})
		}
	}
}

func TestP2101InsertOfWhatMayNotBe(t *testing.T) {
	for _, side := range []int{api.Buy, api.Sell} {
		for _, b := range []*Book{made(t), made(t, buy(1, 10, 5), sell(2, 11, 5))} {
			for _, id := range none() {
				checkInsert(t, b, Order{ID: id, Side: side, Net: 10, Units: 5}, api.ErrArg)
			}
			for _, n := range strange() {
				checkInsert(t, b, Order{ID: 7, Side: side, Net: n, Units: 5}, api.ErrArg)
			}
			for _, n := range slices.Concat(strange(), none(), []int64{1000001, 1000002}) {
				checkInsert(t, b, Order{ID: 7, Side: side, Net: 10, Units: n}, api.ErrArg)
			}
			for _, other := range others() {
				checkInsert(t, b, Order{ID: 7, Side: other, Net: 10, Units: 5}, api.ErrArg)
			}
			checkInsert(t, b, Order{}, api.ErrArg)
			checkInsert(t, b, Order{ID: 7, Side: side, Net: 10, Units: 5}, api.OK) // nothing of it is there yet
		}
	}
}

func TestP2101InsertAsksForNoOwner(t *testing.T) {
	b := made(t)
	var want []Order
	for i, owner := range []int{0, 1, 64, 65, -1, 1 << 32, least, most} {
		o := Order{ID: int64(i + 1), Owner: owner, Side: api.Sell, Net: 10, Units: 5}
		checkInsert(t, b, o, api.OK)
		want = append(want, o)
	}
	checkBook(t, b, nil, want)
	for _, o := range want {
		checkRemove(t, b, o)
	}
}

func TestP2101InsertOfWhatWouldTradeWaits(t *testing.T) { // who trades is not asked here
	b := made(t, buy(1, 10, 5), sell(2, -9, 5), sell(3, 10, 5), buy(4, 16000000, 1))
	checkBook(t, b, []Order{buy(4, 16000000, 1), buy(1, 10, 5)}, []Order{sell(2, -9, 5), sell(3, 10, 5)})
}

func TestP2101InsertTwice(t *testing.T) {
	b := made(t, buy(1, 10, 5), sell(2, 11, 5), buy(3, 10, 5))
	for _, id := range []int64{1, 2, 3} {
		for _, o := range []Order{buy(id, 10, 5), buy(id, -9, 1), sell(id, 11, 5), sell(id, 8, 2)} {
			checkInsert(t, b, o, api.ErrTwice)
		}
	}
	checkReduce(t, b, 4, buy(1, 10, 1)) // what is less is there as before
	checkInsert(t, b, buy(1, 10, 5), api.ErrTwice)
	checkRemove(t, b, buy(1, 10, 1)) // what is gone is not
	checkInsert(t, b, sell(1, 11, 6), api.OK)
	checkInsert(t, b, buy(1, 10, 5), api.ErrTwice)
	checkReduce(t, b, 6, sell(1, 11, 0)) // nor what is used up
	checkInsert(t, b, buy(1, 9, 5), api.OK)
	checkBook(t, b, []Order{buy(3, 10, 5), buy(1, 9, 5)}, []Order{sell(2, 11, 5)})
}

// filled tells a book of 256 orders, 1, 2, .., each on the side that side tells.
func filled(t *testing.T, side func(i int) int) *Book {
	t.Helper()
	b := made(t)
	for i := range 256 {
		if b.Len() != i {
			t.Fatalf("Len: %d; want %d", b.Len(), i)
		}
		if err := b.Insert(Order{ID: int64(i + 1), Side: side(i), Net: 5, Units: 1000000}); err != api.OK {
			t.Fatalf("Insert of %d: %v", i+1, err)
		}
	}
	return b
}

func TestP2101InsertIsFullOfBothSidesTogether(t *testing.T) {
	for what, side := range map[string]func(i int) int{
		"buys":  func(int) int { return api.Buy },
		"sells": func(int) int { return api.Sell },
		"both":  func(i int) int { return 1 + i%2 },
		"one":   func(i int) int { return 1 + i/255 },
	} {
		b := filled(t, side)
		full := func() {
			for _, o := range []Order{buy(1000, 5, 1), sell(1000, 6, 1), buy(most, 16000000, 1), sell(5000, -1, 1)} {
				checkInsert(t, b, o, api.ErrFull)
			}
			if b.Len() != 256 {
				t.Errorf("%s: Len: %d", what, b.Len())
			}
		}
		full()
		checkReduce(t, b, 999999, Order{ID: 5, Side: side(4), Net: 5, Units: 1}) // makes no room
		full()
		checkRemove(t, b, Order{ID: 6, Side: side(5), Net: 5, Units: 1000000})
		checkInsert(t, b, sell(257, 5, 1), api.OK)
		full()
		checkReduce(t, b, 1, Order{ID: 5, Side: side(4), Net: 5}) // used up: that makes room
		checkInsert(t, b, buy(258, 5, 1), api.OK)
		full()
	}
}

func TestP2101InsertRefusesInOrder(t *testing.T) {
	b := filled(t, func(i int) int { return 1 + i%2 })
	for _, c := range []struct {
		o    Order
		want api.Errno
	}{
		{buy(5, 16000001, 1), api.ErrArg}, // and twice, and full
		{buy(5, -16000001, 1), api.ErrArg},
		{buy(5, 5, 0), api.ErrArg},
		{sell(5, 5, 1000001), api.ErrArg},
		{Order{ID: 5, Net: 5, Units: 1}, api.ErrArg},
		{buy(0, 5, 1), api.ErrArg}, // and full
		{buy(257, 16000001, 1), api.ErrArg},
		{sell(257, 5, 0), api.ErrArg},
		{Order{ID: 257, Side: 3, Net: 5, Units: 1}, api.ErrArg},
		{buy(5, 5, 1), api.ErrTwice}, // and full
		{sell(5, 6, 1), api.ErrTwice},
		{buy(256, 5, 1), api.ErrTwice},
		{sell(257, 5, 1), api.ErrFull},
	} {
		checkInsert(t, b, c.o, c.want)
	}
	few := made(t, buy(5, 10, 5))
	for _, o := range []Order{buy(5, 16000001, 5), sell(5, 10, 0), {ID: 5, Side: 3, Net: 10, Units: 5}} {
		checkInsert(t, few, o, api.ErrArg) // and twice
	}
}

// waiting tells orders of both sides, those ahead first; time goes by number, and not by who came first.
func waiting() (buys, sells []Order) {
	buys = []Order{
		buy(20, 16000000, 3), buy(8, 11, 4), buy(12, 11, 1), buy(most, 11, 9), buy(3, 1, 2), buy(4, 0, 5), buy(6, 0, 1000000), buy(1, -1, 7), buy(2, -11, 3), buy(10, -11, 1), buy(13, -16000000, 6),
	}
	sells = []Order{
		sell(19, -16000000, 2), sell(5, -9, 6), sell(14, -9, 1), sell(9, -1, 8), sell(7, 0, 3), sell(11, 0, 1000000), sell(1<<32, 0, 4), sell(15, 1, 5), sell(16, 12, 1), sell(17, 12, 9), sell(18, 16000000, 2),
	}
	return buys, sells
}

func TestP2101WhoIsAheadWhoeverCameFirst(t *testing.T) {
	buys, sells := waiting()
	all := slices.Concat(buys, sells)
	next := walk(7)
	for range 200 {
		for i := range all {
			k := i + int(next(len(all)-i))
			all[i], all[k] = all[k], all[i]
		}
		checkBook(t, made(t, all...), buys, sells)
	}
}

// eachOrder calls f with every order of l.
func eachOrder(l []Order, n int, f func([]Order)) {
	if n == len(l) {
		f(slices.Clone(l))
		return
	}
	for i := n; i < len(l); i++ {
		l[n], l[i] = l[i], l[n]
		eachOrder(l, n+1, f)
		l[n], l[i] = l[i], l[n]
	}
}

func TestP2101EveryOrderOfComingAndGoing(t *testing.T) {
	for side, want := range map[int][]Order{
		api.Buy:  {buy(5, 1, 1), buy(1, 0, 2), buy(2, 0, 3), buy(3, -1, 4), buy(4, -1, 5)},
		api.Sell: {sell(5, -1, 1), sell(1, 0, 2), sell(2, 0, 3), sell(3, 1, 4), sell(4, 1, 5)},
	} {
		other := Order{ID: 99, Side: 3 - side, Net: 0, Units: 1}
		eachOrder(slices.Clone(want), 0, func(l []Order) {
			b := made(t, append(slices.Clone(l), other)...)
			checkSide(t, b, side, want...)
			left := slices.Clone(want)
			for i, o := range l { // by turns taken out and used up
				if i%2 == 0 {
					checkRemove(t, b, o)
				} else {
					gone := o
					gone.Units = 0
					checkReduce(t, b, o.Units, gone)
				}
				left = slices.DeleteFunc(left, func(x Order) bool { return x == o })
				checkSide(t, b, side, left...)
				checkSide(t, b, 3-side, other)
			}
			for _, o := range l { // anew: nothing is left of what was there
				checkInsert(t, b, o, api.OK)
			}
			checkSide(t, b, side, want...)
			checkSide(t, b, 3-side, other)
		})
	}
}

func TestP2101ReduceAtItsBounds(t *testing.T) {
	b := made(t, buy(1, 10, 5), buy(3, 11, 7), sell(2, -12, 1), sell(4, -12, 1000000))
	for id, units := range map[int64]int64{1: 5, 3: 7, 2: 1, 4: 1000000} {
		for _, n := range slices.Concat(none(), []int64{units + 1, -units, 1000001, 1<<32 + 1, most}) {
			checkRefused(t, b, id, n, api.ErrArg)
		}
	}
	for _, id := range slices.Concat(strange(), none(), []int64{5, 10, 12}) {
		checkNone(t, b, id)
	}
	checkReduce(t, b, 4, buy(1, 10, 1)) // all but one
	checkReduce(t, b, 1, buy(3, 11, 6))
	checkReduce(t, b, 2, buy(3, 11, 4))
	checkReduce(t, b, 999999, sell(4, -12, 1))
	checkRefused(t, b, 3, 5, api.ErrArg) // by what it has now
	checkRefused(t, b, 4, 2, api.ErrArg)
	checkBook(t, b, []Order{buy(3, 11, 4), buy(1, 10, 1)}, []Order{sell(2, -12, 1), sell(4, -12, 1)})
	checkReduce(t, b, 1, sell(2, -12, 0)) // all of it
	checkReduce(t, b, 4, buy(3, 11, 0))
	checkBook(t, b, []Order{buy(1, 10, 1)}, []Order{sell(4, -12, 1)})
	checkRemove(t, b, sell(4, -12, 1)) // as it is now
	checkReduce(t, b, 1, buy(1, 10, 0))
	checkBook(t, b, nil, nil)
}

func TestP2101ReduceKeepsThePlace(t *testing.T) {
	buys, sells := waiting()
	b := made(t, slices.Concat(buys, sells)...)
	for _, row := range [][]Order{buys, sells} {
		for i := range row {
			for row[i].Units > 1 {
				n := (row[i].Units + 1) / 2
				row[i].Units -= n
				checkReduce(t, b, n, row[i])
				checkBook(t, b, buys, sells)
			}
		}
	}
}

func TestP2101ReduceTellsAllOfWhatIsUsedUp(t *testing.T) {
	for _, o := range []Order{{ID: 7, Owner: 5, Side: api.Sell, Net: -10, Units: 9}, {ID: most, Owner: -5, Side: api.Buy, Net: 3, Units: 1000000}} {
		b := made(t, o)
		left := o
		left.Units = 0
		checkReduce(t, b, o.Units, left)
		checkBook(t, b, nil, nil)
		checkInsert(t, b, o, api.OK)
		left.Units = 1
		checkReduce(t, b, o.Units-1, left)
		checkRemove(t, b, left)
	}
}

// plain is a book as the promise tells it: orders by number, in no row.
type plain map[int64]Order

func (m plain) insert(o Order) api.Errno {
	switch {
	case o.ID < 1, o.Side != 1 && o.Side != 2, o.Units < 1, o.Units > 1000000, o.Net < -16000000, o.Net > 16000000:
		return api.ErrArg
	case m[o.ID].ID != 0:
		return api.ErrTwice
	case len(m) == 256:
		return api.ErrFull
	}
	m[o.ID] = o
	return api.OK
}

func (m plain) remove(id int64) (Order, bool) {
	o, ok := m[id]
	delete(m, id)
	return o, ok
}

func (m plain) reduce(id, units int64) (Order, api.Errno) {
	o, ok := m[id]
	switch {
	case !ok:
		return Order{}, api.ErrName
	case units < 1, units > o.Units:
		return Order{}, api.ErrArg
	}
	o.Units -= units
	m[id] = o
	if o.Units == 0 {
		delete(m, id)
	}
	return o, api.OK
}

// row tells a side's orders by net, then by number.
func (m plain) row(side int) []Order {
	var l []Order
	for _, o := range m {
		if o.Side == side {
			l = append(l, o)
		}
	}
	sort.Slice(l, func(i, k int) bool {
		if l[i].Net == l[k].Net {
			return l[i].ID < l[k].ID
		}
		return side == 1 && l[i].Net > l[k].Net || side == 2 && l[i].Net < l[k].Net
	})
	return l
}

func TestP2101IsThePlainReading(t *testing.T) {
	found := map[string]int{}
	next := walk(11)
	for range 40 {
		b, m := made(t), plain{}
		for range 400 {
			id, units := next(24)-1, next(9)-1
			switch next(5) {
			case 0, 1:
				o := Order{ID: id, Owner: int(next(5)) - 1, Side: int(next(9)+1)/2%3 + int(next(20))/19, Net: next(7) - 3, Units: units}
				got, want := b.Insert(o), m.insert(o)
				if got != want {
					t.Fatalf("Insert(%+v): %v; want %v", o, got, want)
				}
				found["insert "+got.Error()]++
			case 2:
				got, ok := b.Remove(id)
				if want, was := m.remove(id); got != want || ok != was {
					t.Fatalf("Remove(%d): %+v, %v; want %+v, %v", id, got, ok, want, was)
				}
				found[fmt.Sprint("remove ", ok)]++
			default:
				got, err := b.Reduce(id, units)
				if want, wrong := m.reduce(id, units); got != want || err != wrong {
					t.Fatalf("Reduce(%d, %d): %+v, %v; want %+v, %v", id, units, got, err, want, wrong)
				}
				found["reduce "+err.Error()]++
				if err == api.OK && got.Units == 0 {
					found["used up"]++
				}
			}
			checkBook(t, b, m.row(api.Buy), m.row(api.Sell))
			if t.Failed() { // enough is told
				return
			}
		}
	}
	for _, what := range []string{"insert ok", "insert arg", "insert twice", "remove true", "remove false", "reduce ok", "reduce arg", "reduce name", "used up"} {
		if found[what] < 200 {
			t.Errorf("only %d of %s", found[what], what)
		}
	}
}

func TestP2101ManyAtManyNets(t *testing.T) {
	b, m := made(t), plain{}
	for n := range int64(400) { // the last ones are too many
		o := Order{ID: 1 + n*7919%401, Side: int(1 + n*31%2), Net: n*104729%1001*31968 - 16000000, Units: 1 + n}
		if got, want := b.Insert(o), m.insert(o); got != want {
			t.Fatalf("Insert(%+v): %v; want %v", o, got, want)
		}
	}
	if b.Len() != 256 {
		t.Errorf("Len: %d", b.Len())
	}
	checkBook(t, b, m.row(api.Buy), m.row(api.Sell))
	for id := int64(1); id <= 401; id += 3 {
		got, ok := b.Remove(id)
		if want, was := m.remove(id); got != want || ok != was {
			t.Fatalf("Remove(%d): %+v, %v; want %+v, %v", id, got, ok, want, was)
		}
		for _, units := range []int64{1, 100} {
			got, err := b.Reduce(id+1, units)
			if want, wrong := m.reduce(id+1, units); got != want || err != wrong {
				t.Fatalf("Reduce(%d, %d): %+v, %v; want %+v, %v", id+1, units, got, err, want, wrong)
			}
		}
	}
	checkBook(t, b, m.row(api.Buy), m.row(api.Sell))
}

// TestW4NetsGoByTheirSigns: a net is what one unit costs him who buys it, so that below 0 he is given it.
func TestW4NetsGoByTheirSigns(t *testing.T) {
	b := made(t, buy(1, -16000000, 1), buy(2, 0, 1), buy(3, -1, 1), buy(4, 1, 1), sell(5, 1, 1), sell(6, -1, 1), sell(7, 16000000, 1), sell(8, 0, 1))
	checkBook(t, b, []Order{buy(4, 1, 1), buy(2, 0, 1), buy(3, -1, 1), buy(1, -16000000, 1)}, []Order{sell(6, -1, 1), sell(8, 0, 1), sell(5, 1, 1), sell(7, 16000000, 1)})
	for _, c := range []struct {
		o    Order
		want int // how many of the other side it takes, the front ones
	}{{buy(9, -2, 1), 0}, {buy(9, -1, 1), 1}, {buy(9, 0, 1), 2}, {buy(9, 16000000, 1), 4}, {sell(9, 2, 1), 0}, {sell(9, 1, 1), 1}, {sell(9, 0, 1), 2}, {sell(9, -16000000, 1), 4}} {
		for i, rest := range b.Row(3 - c.o.Side) {
			if got := Takes(c.o, rest.Net); got != (i < c.want) {
				t.Errorf("Takes of %+v, %d: %v", c.o, rest.Net, got)
			}
		}
	}
}

func TestP1AnyNumbersAreAnswered(t *testing.T) {
	wide := slices.Concat(strange(), none(), []int64{1, 2, 5, 999999, 1000000, 16000000})
	b := made(t)
	for _, side := range sides() {
		for _, x := range wide {
			for _, y := range wide {
				b.Insert(Order{ID: x, Owner: int(y), Side: side, Net: y, Units: x})
				b.Insert(Order{ID: y, Owner: int(x), Side: side, Net: x, Units: 1})
				b.Reduce(x, y)
				for _, other := range sides() {
					Ahead(Order{ID: x, Side: side, Net: y}, Order{ID: y, Side: other, Net: x})
				}
				Takes(Order{ID: x, Side: side, Net: x, Units: y}, y)
			}
		}
		look(b)
		for _, x := range wide {
			b.Remove(x)
		}
		checkBook(t, b, nil, nil)
	}
}

// spoil writes over all of a list, its spare room too.
func spoil(l []Order) {
	whole := l[:cap(l)]
	for i := range whole {
		whole[i] = Order{ID: -9}
	}
}

func TestP2AnswersAreNewMemory(t *testing.T) {
	buys, sells := waiting()
	b := made(t, slices.Concat(buys, sells, []Order{buy(100, 5, 5), sell(101, 5, 5)})...)
	checkRemove(t, b, buy(100, 5, 5)) // so that there is spare room
	checkReduce(t, b, 5, sell(101, 5, 0))
	was := look(b)
	rows := [][]Order{b.Row(api.Buy), b.Row(api.Sell), b.Row(api.Buy), b.Row(0), b.Row(api.Sell), b.Row(3)}
	for i, l := range rows {
		before := fmt.Sprint(rows[:i], rows[i+1:])
		spoil(l)
		if after := fmt.Sprint(rows[:i], rows[i+1:]); after != before {
			t.Errorf("two lists share memory: %s; was %s", after, before)
		}
	}
	if look(b) != was {
		t.Errorf("what is kept changes with what was answered: %s; was %s", look(b), was)
	}
	row := b.Row(api.Buy)
	kept := slices.Clone(row)
	spare := slices.Clone(row[len(row):cap(row)])
	checkInsert(t, b, buy(102, 11, 5), api.OK)
	checkReduce(t, b, 2, buy(20, 16000000, 1))
	checkRemove(t, b, buy(13, -16000000, 6))
	checkReduce(t, b, 7, buy(1, -1, 0))
	if !slices.Equal(row, kept) || !slices.Equal(row[len(row):cap(row)], spare) {
		t.Errorf("what was answered changes with what is kept: %v", row)
	}
}

// run tells what a book answers to some calls, with something else ahead of each.
func run(ahead func(b *Book)) string {
	var s strings.Builder
	b := New()
	for n := range int64(60) {
		ahead(b)
		o := Order{ID: 1 + n*7%15, Owner: int(n), Side: int(1 + n%2), Net: n*5%7 - 3, Units: 2 + n%4}
		fmt.Fprintln(&s, b.Insert(o), look(b))
		ahead(b)
		if n%2 == 1 {
			got, err := b.Reduce(1+n*4%15, n%5)
			fmt.Fprintln(&s, got, err, look(b))
		}
		ahead(b)
		if n%5 > 2 {
			got, ok := b.Remove(1 + n*11%15)
			fmt.Fprintln(&s, got, ok, look(b))
		}
	}
	return s.String()
}

func TestP3TheSameCallsAnswerTheSame(t *testing.T) {
	first := run(func(*Book) {})
	for range 3 {
		if told := run(func(*Book) {}); told != first {
			t.Fatalf("%s; the first time %s", told, first)
		}
	}
}

func TestP4WhatIsNotThereIsZero(t *testing.T) {
	b := made(t, buy(1, 10, 5))
	for _, side := range append(others(), api.Sell) {
		if o, ok := b.Front(side); o != (Order{}) || ok || len(b.Row(side)) != 0 {
			t.Errorf("Front(%d): %+v, %v; Row: %v", side, o, ok, b.Row(side))
		}
	}
	checkNone(t, b, 2)
	checkRefused(t, b, 1, 6, api.ErrArg) // not the order beside the error
	checkRefused(t, b, 1, 0, api.ErrArg)
}

func TestP5WhatIsRefusedOrAskedChangesNothing(t *testing.T) {
	want := run(func(*Book) {})
	for what, ahead := range map[string]func(b *Book){
		"an Insert of what may not be": func(b *Book) {
			b.Insert(buy(0, 5, 5))
			b.Insert(buy(16, 16000001, 5))
			b.Insert(sell(16, -16000001, 5))
			b.Insert(sell(16, 5, 1000001))
			b.Insert(sell(16, 5, 0))
			b.Insert(Order{ID: 16, Side: 3, Net: 5, Units: 5})
		},
		"an Insert of what is there": func(b *Book) {
			for _, o := range slices.Concat(b.Row(api.Buy), b.Row(api.Sell)) {
				b.Insert(buy(o.ID, 6, 1))
				b.Insert(sell(o.ID, 6, 1))
			}
		},
		"a Reduce of none, too much, too little": func(b *Book) {
			b.Reduce(16, 1)
			b.Reduce(0, 1)
			for _, o := range slices.Concat(b.Row(api.Buy), b.Row(api.Sell)) {
				b.Reduce(o.ID, 0)
				b.Reduce(o.ID, -1)
				b.Reduce(o.ID, o.Units+1)
				b.Reduce(o.ID, most)
			}
		},
		"a Remove of none": func(b *Book) { b.Remove(16); b.Remove(0); b.Remove(least) },
		"asking":           func(b *Book) { look(b) },
		"a New":            func(b *Book) { New().Insert(buy(5, 5, 5)) },
	} {
		if got := run(ahead); got != want {
			t.Errorf("%s changed something", what)
		}
	}
}

func TestP7BooksAreTheCallersOwn(t *testing.T) {
	b, other := made(t), made(t)
	if b == other {
		t.Error("one book for two")
	}
	checkInsert(t, b, buy(1, 10, 5), api.OK)
	checkBook(t, other, nil, nil)
	checkInsert(t, other, buy(1, 11, 6), api.OK)
	checkBook(t, b, []Order{buy(1, 10, 5)}, nil)
	checkBook(t, other, []Order{buy(1, 11, 6)}, nil)
}
