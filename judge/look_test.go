package judge

import (
	"fmt"
	"math"
	"slices"
	"strings"
	"testing"

	"straddle/api"
	"straddle/book"
	"straddle/cbook"
	"straddle/dir"
	"straddle/feed"
	"straddle/ladder"
	"straddle/life"
	"straddle/msg"
	"straddle/order"
	"straddle/series"
	"straddle/venue"
)

// bent is a venue of which something is told otherwise than it is.
type bent struct {
	*venue.Venue
	states  map[int]int
	books   map[int]*book.Book
	views   map[int]feed.View
	feeds   map[int][]msg.Msg
	volumes map[int][2]int64
	waiting map[int][]cbook.Order
	entries map[int64]life.Entry
}

func bentOf(v *venue.Venue) *bent {
	return &bent{v, map[int]int{}, map[int]*book.Book{}, map[int]feed.View{}, map[int][]msg.Msg{}, map[int][2]int64{}, map[int][]cbook.Order{}, map[int64]life.Entry{}}
}

func (b *bent) State(n int) int {
	if x, ok := b.states[n]; ok {
		return x
	}
	return b.Venue.State(n)
}

func (b *bent) Book(n int) *book.Book {
	if x, ok := b.books[n]; ok {
		return x
	}
	return b.Venue.Book(n)
}

func (b *bent) View(n int) feed.View {
	if x, ok := b.views[n]; ok {
		return x
	}
	return b.Venue.View(n)
}

func (b *bent) Feed(n int) []msg.Msg {
	if x, ok := b.feeds[n]; ok {
		return x
	}
	return b.Venue.Feed(n)
}

func (b *bent) Volume(n int) (int64, int64) {
	if x, ok := b.volumes[n]; ok {
		return x[0], x[1]
	}
	return b.Venue.Volume(n)
}

func (b *bent) Complex(n int) []cbook.Order {
	if x, ok := b.waiting[n]; ok {
		return x
	}
	return b.Venue.Complex(n)
}

func (b *bent) Entry(id int64) (life.Entry, bool) {
	if x, ok := b.entries[id]; ok {
		return x, true
	}
	return b.Venue.Entry(id)
}

// stand lets a series have a book, and a feed that tells it.
func (b *bent) stand(n int, l ...order.Order) {
	c := book.New()
	for _, o := range l {
		c.Insert(o)
	}
	v := b.Venue.View(n)
	v.Bids, v.Asks = c.Levels(api.Buy), c.Levels(api.Sell)
	b.books[n], b.views[n] = c, v
}

func buy(id, price, qty int64) order.Order {
	return order.Order{ID: id, Side: api.Buy, Price: price, Qty: qty}
}

func sell(id, price, qty int64) order.Order {
	return order.Order{ID: id, Side: api.Sell, Price: price, Qty: qty}
}

// finds asks what is found of the first series and strategies.
func (b *bent) finds(t *testing.T, what, want string, series, strats int) {
	t.Helper()
	if got := strings.Join(look(b, series, strats), " "); got != want {
		t.Errorf("%s: of %d series, %d strategies %q is found; want %q", what, series, strats, got, want)
	}
}

// market tells a venue where four series of six are Open, and two strategies of them are there, with somebody who waits in all of it:
//
//	1: bids 10 x 3 (order 1), asks 13 x 2 (order 2); 2: bids 4 x 5 (order 3), asks 6 x 9 (order 4); 3: asks 20 x 2 (order 5); 4: none
//	strategy 1, one of 1 less one of 2: who buys at 5 (order 6), who sells at 10 (order 7)
//	strategy 2, one of 2 and one of 3: who buys at 20 (order 8)
func market(t *testing.T) *venue.Venue {
	t.Helper()
	v, err := venue.New(wide())
	if err != nil {
		t.Fatal(err)
	}
	seq := int64(0)
	do := func(kind int, l []msg.Row, a ...int64) {
		seq++
		m := msg.Msg{Kind: kind, Seq: seq, L: l}
		copy(m.A[:], a)
		if out := v.Do(1, m); len(out) != 1 || out[0].M.Kind != msg.Accept {
			t.Fatalf("%s: %s", msg.Text(m), outs(out))
		}
	}
	do(msg.Login, nil)
	for i := range int64(4) {
		do(msg.State, nil, i+1, dir.Open)
	}
	do(msg.New, nil, 1, 1, 10, 3, 1)
	do(msg.New, nil, 1, 2, 13, 2, 1)
	do(msg.New, nil, 2, 1, 4, 5, 1)
	do(msg.New, nil, 2, 2, 6, 9, 1)
	do(msg.New, nil, 3, 2, 20, 2, 1)
	do(msg.Strat, []msg.Row{{1, 1, 1}, {2, -1, 1}})
	do(msg.Strat, []msg.Row{{2, 1, 1}, {3, 1, 1}})
	do(msg.Complex, nil, 1, 1, 3, 4, 1)
	do(msg.Complex, nil, 1, 2, 10, 2, 1)
	do(msg.Complex, nil, 2, 1, 20, 1, 1)
	return v
}

// TestNothing (P2802): of a venue as it should be nothing is found, up to any number.
func TestNothing(t *testing.T) {
	v := market(t)
	numbers := []int{math.MinInt, -5, 0, 1, 2, 4, 6, 7, 64, 65, 1 << 32, 1 << 62, math.MaxInt}
	for _, series := range numbers {
		for _, strats := range numbers {
			if l := Look(v, series, strats); l != nil {
				t.Errorf("P2802: up to %d, %d: %v", series, strats, l)
			}
			if !Fair(v, int64(strats), series) {
				t.Errorf("P2802: up to %d, %d: not Fair", series, strats)
			}
		}
	}
	none := &venue.Venue{}
	if Look(none, 64, 32) != nil || Look(none, math.MaxInt, math.MaxInt) != nil || !Fair(none, math.MaxInt64, math.MaxInt) {
		t.Error("P1: of a venue that lists nothing something is found")
	}
	bentOf(v).finds(t, "P2802: nothing is bent", "", 6, 2)
}

// TestCrossed (P2802): a Bid not below its Ask, where the series is Open.
func TestCrossed(t *testing.T) {
	for _, x := range []struct {
		what string
		l    []order.Order
		want string
	}{
		{"nobody", nil, ""},
		{"one who buys", []order.Order{buy(1, 10, 1)}, ""},
		{"one who sells", []order.Order{sell(1, 10, 1)}, ""},
		{"below", []order.Order{buy(1, 9, 1), sell(2, 10, 1)}, ""},
		{"at", []order.Order{buy(1, 10, 1), sell(2, 10, 1)}, "crossed"},
		{"above", []order.Order{buy(1, 11, 1), sell(2, 10, 1)}, "crossed"},
		{"far above", []order.Order{buy(1, api.MaxPrice, 1), sell(2, 1, 1)}, "crossed"},
		{"at the first price", []order.Order{buy(1, 1, 1), sell(2, 1, 1)}, "crossed"},
		{"the best are asked", []order.Order{buy(1, 5, 1), buy(2, 10, 1), sell(3, 30, 1), sell(4, 10, 1)}, "crossed"},
		{"of many", []order.Order{buy(1, 5, 1), buy(2, 9, 1), sell(3, 30, 1), sell(4, 10, 1)}, ""},
	} {
		for n := 1; n <= 6; n++ {
			b := bentOf(market(t))
			b.stand(n, x.l...)
			want := x.want
			if n > 4 { // Closed
				want = ""
			}
			b.finds(t, fmt.Sprint("P2802: ", x.what, " in ", n), want, 6, 0)
			b.finds(t, fmt.Sprint("P2802: ", x.what, " in ", n, " ahead of it"), "", n-1, 0)
			b.finds(t, fmt.Sprint("P2802: ", x.what, " in ", n, " up to it"), want, n, 0)
			b.finds(t, fmt.Sprint("P2802: ", x.what, " in ", n, " past the end"), want, math.MaxInt, 0)
			for state := dir.Closed; state <= dir.Expired; state++ {
				b.states[n] = state
				want := x.want
				if state != dir.Open {
					want = ""
				}
				b.finds(t, fmt.Sprint("P2802: ", x.what, " in ", n, ", state ", state), want, 6, 0)
			}
		}
	}
}

// TestIdle (P2802): one who waits for a strategy and can trade, where all of its series are Open.
func TestIdle(t *testing.T) {
	waits := func(id int64, side int, net, units int64) cbook.Order {
		return cbook.Order{ID: id, Owner: 1, Side: side, Net: net, Units: units}
	}
	for _, x := range []struct {
		what string
		l    []cbook.Order
		want string
	}{
		{"nobody", nil, ""},
		{"who buys for less than the legs cost", []cbook.Order{waits(6, api.Buy, 8, 1)}, ""},
		{"who buys for what the legs cost", []cbook.Order{waits(6, api.Buy, 9, 1)}, "idle"},
		{"who sells for more than the legs bring", []cbook.Order{waits(6, api.Sell, 5, 1)}, ""},
		{"who sells for what the legs bring", []cbook.Order{waits(6, api.Sell, 4, 1)}, "idle"},
		{"two who are apart", []cbook.Order{waits(6, api.Buy, 6, 1), waits(7, api.Sell, 7, 1)}, ""},
		{"two who meet", []cbook.Order{waits(6, api.Buy, 7, 1), waits(7, api.Sell, 7, 1)}, "idle"},
		{"two who pass", []cbook.Order{waits(6, api.Buy, 8, 1), waits(7, api.Sell, 6, 1)}, "idle"},
		{"those ahead meet", []cbook.Order{waits(6, api.Buy, 5, 1), waits(7, api.Buy, 7, 1), waits(8, api.Sell, 8, 1), waits(9, api.Sell, 7, 1)}, "idle"},
		{"two who meet where no legs do", []cbook.Order{waits(6, api.Buy, 3, 1), waits(7, api.Sell, 3, 1)}, "idle"}, // who sells takes the legs' 4
		{"of one side", []cbook.Order{waits(6, api.Buy, 7, 1), waits(7, api.Buy, 7, 1)}, ""},
	} {
		b := bentOf(market(t))
		b.waiting[1] = x.l
		b.finds(t, "P2802: "+x.what, x.want, 6, 2)
		b.finds(t, "P2802: "+x.what+", whatever series are asked", x.want, 0, 2)
		b.finds(t, "P2802: "+x.what+", up to it", x.want, 6, 1)
		b.finds(t, "P2802: "+x.what+", ahead of it", "", 6, 0)
		b.finds(t, "P2802: "+x.what+", below all", "", 6, math.MinInt)
		b.finds(t, "P2802: "+x.what+", past the end", x.want, 6, math.MaxInt)
		for n := 1; n <= 3; n++ {
			for state := dir.Closed; state <= dir.Expired; state++ {
				b.states = map[int]int{n: state}
				want := x.want
				if n < 3 && state != dir.Open { // 3 is no leg of strategy 1
					want = ""
				}
				b.finds(t, fmt.Sprint("P2802: ", x.what, ", ", n, " in state ", state), want, 6, 2)
			}
		}
	}
	b := bentOf(market(t))
	b.waiting[2] = []cbook.Order{waits(8, api.Buy, 26, 1)}
	b.finds(t, "P2802: the second one", "idle", 6, 2)
	b.finds(t, "P2802: ahead of the second one", "", 6, 1)
	b.waiting[2] = []cbook.Order{waits(8, api.Buy, 25, 1)}
	b.finds(t, "P2802: the second one, for less", "", 6, 2)
	b.stand(3, sell(5, 19, 2))
	b.finds(t, "P2802: the second one, where a leg costs less", "idle", 6, 2)
	b.books[3] = book.New()
	b.views[3] = feed.View{}
	b.finds(t, "P2802: the second one, where a leg is not to be had", "", 6, 2)
}

// TestFeed (P2802): a View that is not of its book's Levels, and Seqs that are not 1, 2, ..
func TestFeed(t *testing.T) {
	v := market(t)
	for n := 1; n <= 6; n++ {
		was := v.View(n)
		ask := func(what, want string, w feed.View) {
			t.Helper()
			b := bentOf(v)
			b.views[n] = w
			what = fmt.Sprint("P2802: ", what, " in ", n)
			b.finds(t, what, want, 6, 2)
			b.finds(t, what+", up to it", want, n, 0)
			b.finds(t, what+", ahead of it", "", n-1, 2)
			b.finds(t, what+", past the end", want, math.MaxInt, 0)
			for state := dir.Closed; state <= dir.Expired; state++ {
				b.states[n] = state
				b.finds(t, fmt.Sprint(what, ", state ", state), want, 6, 0)
			}
		}
		ask("as it was", "", was)
		w := was
		w.Seq, w.Last, w.LastN, w.Phase = 99, 98, 97, 96 // only its levels are asked
		ask("another turn, trade, phase", "", w)
		w = was
		w.Bids, w.Asks = append([]ladder.Level{}, was.Bids...), append([]ladder.Level{}, was.Asks...)
		ask("empty rows for none", "", w)
		for _, side := range []int{api.Buy, api.Sell} {
			levels := func(l []ladder.Level) feed.View {
				w := was
				if side == api.Buy {
					w.Bids = l
				} else {
					w.Asks = l
				}
				return w
			}
			l := v.Book(n).Levels(side)
			ask("a level more", "feed", levels(append(slices.Clone(l), ladder.Level{Price: 99, Qty: 1, N: 1})))
			if len(l) == 0 {
				continue
			}
			ask("a level less", "feed", levels(l[1:]))
			ask("none", "feed", levels(nil))
			for i, bend := range []func(x *ladder.Level){func(x *ladder.Level) { x.Price++ }, func(x *ladder.Level) { x.Qty-- }, func(x *ladder.Level) { x.N++ }} {
				bad := slices.Clone(l)
				bend(&bad[0])
				ask(fmt.Sprint("another number at ", i), "feed", levels(bad))
			}
		}
	}
	b := bentOf(v)
	b.stand(1, buy(1, 8, 1), buy(2, 7, 1), sell(3, 20, 1), sell(4, 22, 1))
	b.finds(t, "P2802: two levels", "", 1, 0)
	w := b.views[1]
	slices.Reverse(w.Bids)
	b.views[1] = w
	b.finds(t, "P2802: two levels, the other way round", "feed", 1, 0)
	b = bentOf(v)
	w = b.View(1)
	w.Bids, w.Asks = w.Asks, w.Bids
	b.views[1] = w
	b.finds(t, "P2802: the other side's", "feed", 1, 0)
}

// TestSeqs (P2802): the Seqs of a feed are 1, 2, ..
func TestSeqs(t *testing.T) {
	v := market(t)
	for _, x := range []struct {
		want string
		seqs []int64
	}{
		{"", nil}, {"", []int64{1}}, {"", []int64{1, 2, 3}},
		{"feed", []int64{0}}, {"feed", []int64{2}}, {"feed", []int64{-1}}, {"feed", []int64{0, 1}}, {"feed", []int64{1, 3}}, {"feed", []int64{1, 1}},
		{"feed", []int64{2, 1}}, {"feed", []int64{1, 2, 3, 5}}, {"feed", []int64{1, 2, 3, 3}}, {"feed", []int64{2, 3, 4}}, {"feed", []int64{1, math.MaxInt64}},
	} {
		for n := 1; n <= 6; n++ {
			b := bentOf(v)
			l := []msg.Msg{}
			for _, seq := range x.seqs {
				l = append(l, msg.Msg{Kind: msg.Trade, Seq: seq})
			}
			b.feeds[n] = l
			what := fmt.Sprint("P2802: Seqs ", x.seqs, " in ", n)
			b.finds(t, what, x.want, 6, 2)
			b.finds(t, what+", up to it", x.want, n, 0)
			b.finds(t, what+", ahead of it", "", n-1, 2)
			b.states[n] = dir.Halted
			b.finds(t, what+", Halted", x.want, 6, 2)
		}
	}
}

// TestSum (P2802): a Volume that is not the same on both sides.
func TestSum(t *testing.T) {
	v := market(t)
	for _, x := range []struct {
		bought, sold int64
		want         string
	}{
		{0, 0, ""}, {7, 7, ""}, {1 << 40, 1 << 40, ""}, {1, 0, "sum"}, {0, 1, "sum"}, {7, 8, "sum"}, {8, 7, "sum"}, {1 << 32, 0, "sum"},
	} {
		for n := 1; n <= 6; n++ {
			b := bentOf(v)
			b.volumes[n] = [2]int64{x.bought, x.sold}
			what := fmt.Sprint("P2802: Volume ", x.bought, ", ", x.sold, " in ", n)
			b.finds(t, what, x.want, 6, 2)
			b.finds(t, what+", up to it", x.want, n, 0)
			b.finds(t, what+", ahead of it", "", n-1, 2)
			for state := dir.Closed; state <= dir.Expired; state++ {
				b.states[n] = state
				b.finds(t, fmt.Sprint(what, ", state ", state), x.want, 6, 2)
			}
		}
	}
}

// TestOrder (P2802): all words of what does not hold, in their order, each once.
func TestOrder(t *testing.T) {
	v := market(t)
	for some := range 16 {
		for _, both := range []bool{false, true} {
			b := bentOf(v)
			var want []string
			for n := 4; n >= 3 || both && n >= 1; n-- { // 3 and 4, or all that are Open
				if some&8 > 0 {
					b.volumes[n] = [2]int64{1, 2}
				}
				if some&1 > 0 {
					b.stand(n, buy(90, 12, 1), sell(91, 12, 1))
				}
				if some&4 > 0 {
					w := b.View(n)
					w.Bids = append(slices.Clone(w.Bids), ladder.Level{Price: 1, Qty: 1, N: 1})
					b.views[n] = w
				}
			}
			for n := 1; n <= 2; n++ {
				if b.waiting[n] = nil; some&2 > 0 {
					b.waiting[n] = []cbook.Order{{ID: 1, Side: api.Buy, Net: 50, Units: 1}, {ID: 2, Side: api.Sell, Net: -50, Units: 1}}
				}
			}
			for i, word := range []string{"crossed", "idle", "feed", "sum"} {
				if some&(1<<i) > 0 {
					want = append(want, word)
				}
			}
			b.finds(t, fmt.Sprint("P2802: ", some, both), strings.Join(want, " "), 6, 2)
		}
	}
}

// TestMost (P2802): the 64th series and the 32nd strategy are asked, too.
func TestMost(t *testing.T) {
	c := wide()
	c.Series = nil
	for i := range api.MaxSeries {
		c.Series = append(c.Series, series.Series{Class: "AB", Expiry: 10, Strike: int64(i + 1), Right: series.Put})
	}
	v, err := venue.New(c)
	if err != nil {
		t.Fatal(err)
	}
	v.Do(1, msg.Msg{Kind: msg.Login, Seq: 1})
	for i := range int64(api.MaxSeries) {
		v.Do(1, msg.Msg{Kind: msg.State, Seq: i + 2, A: [6]int64{i + 1, dir.Open}})
	}
	for i := range int64(api.MaxStrats) {
		v.Do(1, msg.Msg{Kind: msg.Strat, Seq: i + 66, L: []msg.Row{{2*i + 1, 1, 1}, {2*i + 2, -1, 1}}})
	}
	b := bentOf(v)
	b.finds(t, "P2802: all", "", api.MaxSeries, api.MaxStrats)
	b.stand(63, buy(1, 9, 1), sell(2, 10, 1))
	b.stand(64, buy(1, 9, 1), sell(2, 10, 1))
	b.waiting[32] = []cbook.Order{{ID: 1, Side: api.Buy, Net: 1, Units: 1}}
	b.finds(t, "P2802: the last strategy", "idle", api.MaxSeries, api.MaxStrats)
	b.finds(t, "P2802: the last but one", "", api.MaxSeries, api.MaxStrats-1)
	b.volumes[64] = [2]int64{1, 0}
	b.finds(t, "P2802: the last series", "idle sum", api.MaxSeries, api.MaxStrats)
	b.finds(t, "P2802: the last series but one", "idle", api.MaxSeries-1, api.MaxStrats)
}

// TestFair (P2802, T4): of each order Entered is Filled, Cancelled and Open; an Open one of a series rests in its book with as much.
func TestFair(t *testing.T) {
	v := market(t)
	ask := func(what string, want bool, b *bent, orders int64, series int) {
		t.Helper()
		if got := fair(b, orders, series); got != want {
			t.Errorf("P2802: %s, up to %d in %d series: %v", what, orders, series, got)
		}
	}
	for id := int64(1); id <= 8; id++ {
		was, _ := v.Entry(id)
		for i, bend := range []func(e *life.Entry){
			func(e *life.Entry) { e.Entered++ },
			func(e *life.Entry) { e.Entered-- },
			func(e *life.Entry) { e.Filled++ },
			func(e *life.Entry) { e.Cancelled++ },
			func(e *life.Entry) { e.Filled, e.Cancelled = e.Filled+1, e.Cancelled+1 },
			func(e *life.Entry) { e.Open-- },
			func(e *life.Entry) { *e = life.Entry{Open: -1, Filled: -1, Series: e.Series} },
		} {
			e, b := was, bentOf(v)
			bend(&e)
			b.entries[id] = e
			what := fmt.Sprint("order ", id, " bent by ", i)
			for _, series := range []int{0, 6, math.MaxInt} { // in whatever series
				ask(what, false, b, 8, series)
				ask(what, false, b, id, series)
				ask(what, false, b, math.MaxInt64, series)
				ask(what, true, b, id-1, series)
				ask(what, true, b, math.MinInt64, series)
			}
		}
		// nothing is wrong with its sum, but with what rests
		e, b := was, bentOf(v)
		e.Open, e.Filled = e.Open-1, 1
		b.entries[id] = e
		what := fmt.Sprint("order ", id, " that rests with one more")
		held := e.Series > 0 && e.Open > 0
		ask(what, !held, b, 8, 6)
		ask(what, !held, b, id, max(e.Series, 1))
		ask(what, !held, b, math.MaxInt64, math.MaxInt)
		ask(what, true, b, id-1, 6)
		ask(what, true, b, 8, e.Series-1)
		e, b = was, bentOf(v)
		e.Open, e.Entered = e.Open+1, e.Entered+1
		b.entries[id] = e
		ask(fmt.Sprint("order ", id, " that rests with one less"), e.Series == 0, b, 8, 6)
		e, b = was, bentOf(v)
		e.Open, e.Cancelled = 0, e.Entered
		b.entries[id] = e
		ask(fmt.Sprint("order ", id, " that rests with nothing open"), true, b, 8, 6)
		if was.Series == 0 {
			continue
		}
		b = bentOf(v)
		x := b.Book(was.Series)
		x.Remove(id)
		b.books[was.Series] = x
		ask(fmt.Sprint("order ", id, " that rests nowhere"), false, b, 8, 6)
		ask(fmt.Sprint("order ", id, " that rests nowhere"), false, b, id, was.Series)
		ask(fmt.Sprint("order ", id, " that rests nowhere"), true, b, 8, was.Series-1)
		y := b.Venue.Book(was.Series%6 + 1)
		y.Insert(order.Order{ID: id, Side: was.Side, Price: 50, Qty: was.Open})
		b.books[was.Series%6+1] = y
		ask(fmt.Sprint("order ", id, " that rests elsewhere"), false, b, 8, 6)
	}
	b := bentOf(v)
	b.entries[9] = life.Entry{Entered: 3, Open: 3, Series: 7}
	ask("an order of no series", true, b, 9, 6)
	b.entries[9] = life.Entry{Entered: 3, Open: 3, Series: -1}
	ask("an order of a series below all", true, b, 9, 6)
	b.entries[9] = life.Entry{Entered: 3, Open: 3, Series: 1}
	ask("an order more that rests nowhere", false, b, 9, 6)
	ask("an order more that rests nowhere", true, b, 8, 6)
}

// TestLookAgain (P2, P3): what is told is new memory, and nothing is another by being asked.
func TestLookAgain(t *testing.T) {
	b := bentOf(market(t))
	b.volumes[1], b.volumes[2] = [2]int64{1, 0}, [2]int64{1, 0}
	b.waiting[1] = []cbook.Order{{ID: 1, Side: api.Buy, Net: 50, Units: 1}}
	first := look(b, 6, 2)
	all := first[:cap(first)]
	for i := range all {
		all[i] = "another"
	}
	b.finds(t, "P2: behind another one", "idle sum", 6, 2)
	c := crowdOf(t, conf(), 21)
	d := crowdOf(t, conf(), 21)
	c.asked = func() { Look(c.v, 6, 4); Fair(c.v, 1000, 6) }
	for _, x := range []*crowd{c, d} {
		x.opened()
		for range 150 {
			x.step()
		}
	}
	if outs(c.told) != outs(d.told) {
		t.Error("P3: a venue that is looked at tells others than one that isn't")
	}
}

// TestFull (P2802): books that are full are looked at, too.
func TestFull(t *testing.T) {
	v, err := venue.New(wide())
	if err != nil {
		t.Fatal(err)
	}
	v.Do(1, msg.Msg{Kind: msg.Login, Seq: 1})
	seq := int64(1)
	do := func(kind int, l []msg.Row, a ...int64) {
		seq++
		m := msg.Msg{Kind: kind, Seq: seq, L: l}
		copy(m.A[:], a)
		v.Do(1, m)
	}
	do(msg.State, nil, 1, 2)
	do(msg.State, nil, 2, 2)
	do(msg.Strat, []msg.Row{{1, 1, 1}, {2, 1, 1}})
	for i := range int64(1030) {
		do(msg.New, nil, 1+i%2, 1, 1+i%500, 1, 1)
		do(msg.New, nil, 1+i%2, 2, 600+i%500, 1, 1)
	}
	for i := range int64(300) {
		do(msg.Complex, nil, 1, 1+i%2, 900+i%2*200, 1, 1)
	}
	if n := v.Book(1).Len(); n != 1024 || len(v.Complex(1)) != 256 {
		t.Fatalf("%d, %d", n, len(v.Complex(1)))
	}
	if l := Look(v, 6, 1); l != nil || !Fair(v, 5000, 6) {
		t.Errorf("P2802: %v", l)
	}
}
