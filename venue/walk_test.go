package venue

import (
	"fmt"
	"math"
	"slices"
	"strings"
	"testing"

	"straddle/api"
	"straddle/cross"
	"straddle/feed"
	"straddle/grid"
	"straddle/legs"
	"straddle/msg"
	"straddle/order"
	"straddle/risk"
	"straddle/series"
)

// walk tells numbers below n, each time the same row of them.
func walk(seed uint32) func(n int) int64 {
	return func(n int) int64 {
		seed = seed*1664525 + 1013904223
		return int64(seed>>8) % int64(n)
	}
}

// crowd is a venue, the plain one beside it, and who trades there.
type crowd struct {
	t     *testing.T
	r     func(n int) int64
	v     *Venue
	p     *plain
	told  []Out               // all that was told
	keen  bool                // for strategies above all
	ended map[int64]bool      // orders of which nothing was open behind the last call
	legs  map[int64][]msg.Msg // what the orders for strategies were told of legs, and not yet of a Fill
}

// small tells a venue of six series in two classes, with limits by seed.
func small(seed int) Config {
	c := Config{
		Classes: []string{"AB", "C"},
		Grids:   []grid.Table{{{From: 1, By: 1}}, {{From: 1, By: 1}, {From: 9, By: 2}}},
		Limits:  risk.Limits{Qty: []int64{6, 9, 1000}[seed%3], Notional: []int64{150, 1000, 1 << 50}[seed/3%3], Orders: []int64{4, 12, 4096}[seed/9%3]},
		Fills:   1 + seed%4, Window: int64(1 + seed%3), Timeout: int64(2 + seed%5*8),
	}
	for i := range 6 {
		s := series.Series{Class: "AB", Expiry: int64(4 + i*i), Strike: int64(100 + i), Right: series.Call}
		if i > 3 {
			s.Class, s.Strike = "C", 11
		}
		c.Series = append(c.Series, s)
	}
	return c
}

func crowdOf(t *testing.T, c Config, seed uint32) *crowd {
	t.Helper()
	v, err := New(c)
	if err != nil {
		t.Fatal(err)
	}
	return &crowd{t: t, r: walk(seed), v: v, p: plainOf(c), ended: map[int64]bool{}, legs: map[int64][]msg.Msg{}}
}

// opened lets four sessions come, and all series be open, with three strategies of the first four.
func (c *crowd) opened() {
	for s := 1; s <= 4; s++ {
		c.do(s, msg.Login, nil)
	}
	for i := range c.p.c.Series {
		c.do(1, msg.State, nil, int64(i+1), 2)
	}
	c.do(1, msg.Strat, []msg.Row{{1, 1, 1}, {2, -1, 1}})
	c.do(1, msg.Strat, []msg.Row{{2, -1, 3}, {3, 1, 2}})
	c.do(1, msg.Strat, []msg.Row{{1, 1, 1}, {2, 1, 1}, {4, -1, 1}})
	c.do(1, msg.Strat, []msg.Row{{5, 1, 1}, {6, -1, 1}})
}

// do lets a session send a message in its turn.
func (c *crowd) do(sess, kind int, l []msg.Row, a ...int64) []Out {
	c.t.Helper()
	m := msg.Msg{Kind: kind, L: l}
	if x := c.p.lines[sess]; x != nil {
		m.Seq = x.in + 1
	}
	copy(m.A[:], a)
	return c.send(sess, m)
}

func (c *crowd) send(sess int, m msg.Msg) []Out {
	c.t.Helper()
	was := c.look()
	want, got := c.p.Do(sess, m), c.v.Do(sess, m)
	c.same(fmt.Sprintf("Do(%d, %s)", sess, msg.Text(m)), got, want)
	if len(got) == 1 && got[0].M.Kind == msg.Reject && c.look() != was {
		c.t.Fatalf("T5: Do(%d, %s) is refused, and changes\n%s\nto\n%s", sess, msg.Text(m), was, c.look())
	}
	return got
}

func (c *crowd) tick() {
	c.t.Helper()
	want, got := c.p.Tick(), c.v.Tick()
	c.same("Tick()", got, want)
}

func text(l []Out) string {
	var w strings.Builder
	for _, o := range l {
		fmt.Fprintf(&w, "%d: %s\n", o.Sess, msg.Text(o.M))
	}
	return w.String()
}

func texts(l []msg.Msg) string {
	var w strings.Builder
	for _, m := range l {
		w.WriteString(msg.Text(m) + "\n")
	}
	return w.String()
}

// look tells all that the faces of the venue tell.
func (c *crowd) look() string {
	var w strings.Builder
	fmt.Fprintln(&w, c.v.Now(), c.v.Live(), c.v.Strats())
	for i := range len(c.p.c.Series) + 2 {
		bought, sold := c.v.Volume(i)
		fmt.Fprintln(&w, i, c.v.State(i), c.v.Grid(i), bought, sold, c.v.View(i), len(c.v.Feed(i)))
		if b := c.v.Book(i); b != nil {
			fmt.Fprintln(&w, b.Row(api.Buy), b.Row(api.Sell))
		}
	}
	for i := range c.v.Strats() + 2 {
		fmt.Fprintln(&w, i, legs.Text(c.v.Legs(i)), c.v.Complex(i))
	}
	for id := range int64(len(c.p.orders) + 2) {
		e, ok := c.v.Entry(id)
		fmt.Fprintln(&w, id, e, ok)
	}
	return w.String()
}

// plainLook tells the same of the plain venue.
func (c *crowd) plainLook() string {
	var w strings.Builder
	p := c.p
	fmt.Fprintln(&w, p.now, p.on(), len(p.strats))
	for i := range len(p.c.Series) + 2 {
		if i < 1 || i > len(p.c.Series) {
			fmt.Fprintln(&w, i, 0, grid.Table(nil), 0, 0, feed.View{}, 0)
			continue
		}
		fmt.Fprintln(&w, i, p.state[i], p.grid(i), p.bought[i], p.sold[i], p.view(i), len(p.feed[i]))
		var rows [2][]order.Order
		for k, side := range []int{api.Buy, api.Sell} {
			for _, o := range p.row(i, side) {
				rows[k] = append(rows[k], order.Order{ID: o.id, Owner: o.owner, Side: o.side, Price: o.price, Qty: o.open(), Cust: o.cust, Life: c.life(o)})
			}
		}
		fmt.Fprintln(&w, rows[0], rows[1])
	}
	for i := range len(p.strats) + 2 {
		if i < 1 || i > len(p.strats) {
			fmt.Fprintln(&w, i, "", "[]")
			continue
		}
		fmt.Fprintln(&w, i, legs.Text(p.strats[i-1]), p.waiting(i))
	}
	for id := range int64(len(p.orders) + 2) {
		if id < 1 || id > int64(len(p.orders)) {
			fmt.Fprintln(&w, id, "{0 0 0 0 0 0 0} false")
			continue
		}
		fmt.Fprintln(&w, id, p.entry(p.orders[id-1]), true)
	}
	return w.String()
}

// life tells how long an order that rests was meant to live; the plain venue does not keep it, so only a quote's is asked.
func (c *crowd) life(o *paper) int {
	if o.quoted {
		return order.Post
	}
	x, _ := c.v.Book(o.series).Get(o.id)
	return x.Life
}

// same asks whether a call was told what it should be, and has left what it should.
func (c *crowd) same(what string, got, want []Out) {
	c.t.Helper()
	if text(got) != text(want) {
		c.t.Fatalf("T1: %s tells\n%swant\n%s", what, text(got), text(want))
	}
	if is, should := c.look(), c.plainLook(); is != should {
		c.t.Fatalf("T1: behind %s is\n%s\nwant\n%s", what, is, should)
	}
	for i := 1; i <= len(c.p.c.Series); i++ {
		if is, should := texts(c.v.Feed(i)), texts(c.p.feed[i]); is != should {
			c.t.Fatalf("T1: behind %s the feed of %d is\n%s\nwant\n%s", what, i, is, should)
		}
	}
	c.told = append(c.told, got...)
	for _, o := range got {
		c.trade(what, o.M)
	}
	for id := range int64(len(c.p.orders)) {
		if e, ok := c.v.Entry(id + 1); !ok || e.Entered != e.Filled+e.Cancelled+e.Open {
			c.t.Fatalf("T4: behind %s order %d is %+v", what, id+1, e)
		} else if e.Open == 0 {
			c.ended[id+1] = true
		}
	}
	c.holds(what)
}

// holds asks what must hold behind each call, whatever was done: T2 and T4.
func (c *crowd) holds(what string) {
	c.t.Helper()
	for i := 1; i <= len(c.p.c.Series); i++ {
		bought, sold := c.v.Volume(i)
		if bought != sold {
			c.t.Fatalf("T4: behind %s %d was bought of %d and %d sold", what, bought, i, sold)
		}
		view, err := feed.All(feed.View{}, c.v.Feed(i))
		b := c.v.Book(i)
		if err != nil || !feed.Same(view, c.v.View(i)) || !slices.Equal(view.Bids, b.Levels(api.Buy)) || !slices.Equal(view.Asks, b.Levels(api.Sell)) {
			c.t.Fatalf("T4: behind %s the feed of %d is not its book: %v, %v", what, i, view, err)
		}
		if bid, ok := b.Best(api.Buy); ok {
			if ask, ok := b.Best(api.Sell); ok && bid.Price >= ask.Price {
				c.t.Fatalf("T2: behind %s series %d could trade", what, i)
			}
		}
	}
	slots := map[[2]int]bool{}
	for _, o := range c.p.orders {
		if o.quoted && o.open() > 0 {
			slots[[2]int{o.owner, o.series}] = true
			if _, ok := c.v.quotes.Whose(o.id); !ok {
				c.t.Fatalf("T1: behind %s order %d is no quote's", what, o.id)
			}
		} else if _, ok := c.v.quotes.Whose(o.id); ok {
			c.t.Fatalf("T3: behind %s order %d is kept as a quote's", what, o.id)
		}
	}
	if n := c.v.quotes.Len(); n != len(slots) {
		c.t.Fatalf("T3: behind %s %d quotes are kept; want %d", what, n, len(slots))
	}
	for i := 1; i <= c.v.Strats(); i++ {
		if c.p.live(i) && !c.idle(i) {
			c.t.Fatalf("T2: behind %s strategy %d could trade", what, i)
		}
	}
}

// trade asks what must hold of each trade that is told: T3, that nothing trades which was ended by an earlier call; T2 and W4,
// that a strategy trades in all of its legs, by their ratios, on their grids, at prices that make up its net.
func (c *crowd) trade(what string, m msg.Msg) {
	c.t.Helper()
	id := m.A[0]
	if m.Kind != msg.Fill && m.Kind != msg.Leg {
		return
	}
	if c.ended[id] {
		c.t.Fatalf("T3: %s lets %d trade, which was ended", what, id)
	}
	if m.Kind == msg.Leg {
		c.legs[id] = append(c.legs[id], m)
		return
	}
	o := c.p.orders[id-1]
	if o.strat == 0 {
		return
	}
	l, was := c.p.strats[o.strat-1], c.legs[id]
	delete(c.legs, id)
	var net int64
	for i, leg := range l {
		if len(was) != len(l) {
			c.t.Fatalf("T2: %s lets %d trade in %d legs", what, id, len(was))
		}
		a := was[i].A
		bought := (leg.Sign == 1) == (o.side == api.Buy)
		if a[1] != int64(leg.Series) || a[3] != m.A[2]*leg.Ratio || a[4] != int64(sideOf(bought)) || a[5] != m.A[1] || !c.p.grid(leg.Series).On(a[2]) {
			c.t.Fatalf("T2: %s lets %d trade %v; %s", what, id, leg, msg.Text(was[i]))
		}
		net += int64(leg.Sign) * leg.Ratio * a[2]
	}
	if net != m.A[1] || !takes(o.side, o.price, net) {
		c.t.Fatalf("W4: %s lets %d trade at %d, and tells %d", what, id, net, m.A[1])
	}
}

// idle tells whether nobody who waits for a strategy can trade, by twins of all books.
func (c *crowd) idle(strat int) bool {
	s := sceneOf(c.v, strat)
	return cross.Idle(s.l, s.b, s.g, s.c)
}

// some tells one of these.
func (c *crowd) some(l ...int64) int64 { return l[c.r(len(l))] }

// near tells a number from lo to hi, seldom one that may not be.
func (c *crowd) near(lo, hi int64) int64 {
	if c.r(60) == 0 {
		return c.some(0, -1, 99, math.MaxInt64, math.MinInt64, api.MaxPrice, api.MaxPrice+1, 1<<32+1)
	}
	return lo + c.r(int(hi-lo+1))
}

// id tells an order's number, most often one with something open.
func (c *crowd) id(sess int) int64 {
	var ids []int64
	for _, o := range c.p.orders {
		if o.open() > 0 && (o.owner == sess || c.r(20) == 0) {
			ids = append(ids, o.id)
		}
	}
	if len(ids) == 0 || c.r(20) == 0 {
		return c.near(0, int64(len(c.p.orders)+1))
	}
	return ids[c.r(len(ids))]
}

// turn lets somebody do something.
func (c *crowd) turn() {
	c.t.Helper()
	sess := int(1 + c.r(4))
	if c.r(200) == 0 {
		sess = int(c.some(0, -1, 65, 64, 9))
	}
	series := c.near(1, 6)
	if c.r(3) > 0 {
		series = 1 + c.r(2)
	}
	if c.keen && c.r(3) > 0 {
		c.bid(sess)
		return
	}
	switch k := c.r(100); {
	case k < 28:
		c.do(sess, msg.New, nil, series, c.near(1, 2), c.near(8, 13), c.near(1, 6), c.some(1, 1, 1, 2, 3, 4), c.r(3))
	case k < 33:
		c.do(sess, msg.Cancel, nil, c.id(sess))
	case k < 37:
		c.do(sess, msg.Reduce, nil, c.id(sess), c.near(1, 3))
	case k < 42:
		c.do(sess, msg.Replace, nil, c.id(sess), c.near(8, 13), c.near(1, 6))
	case k < 56:
		c.mass(sess)
	case k < 58:
		c.do(sess, msg.Purge, nil, c.near(0, 3))
	case k < 62:
		c.do(sess, msg.Enable, nil)
	case k < 63:
		c.do(sess, msg.Strat, c.newLegs())
	case k < 81:
		c.do(sess, msg.Complex, nil, c.near(1, 4), c.near(1, 2), c.near(-8, 8), c.near(1, 4), c.some(1, 1, 1, 2))
	case k < 84:
		c.do(sess, msg.Drop, nil, c.id(sess))
	case k < 86:
		c.do(sess, msg.State, nil, c.near(1, 6), c.some(2, 2, 2, 3, 1, 4, 0))
	case k < 87:
		c.do(sess, msg.Day, nil, c.some(1, 2, 3, 4, 5, 8, 13, 0, -1))
	case k < 88:
		c.do(sess, int(c.some(msg.Logout, msg.Accept, msg.Trade, 0, -1, 16, 255, math.MaxInt64)), nil, c.id(sess))
	case k < 89:
		c.send(sess, msg.Msg{Kind: int(c.some(msg.New, msg.Beat, msg.Login)), Seq: c.near(0, 3)})
	case k < 96:
		c.do(sess, msg.Beat, nil)
		if !c.v.sessions.On(sess) {
			c.do(sess, msg.Login, nil)
		}
	default:
		c.tick()
	}
}

// bid bids for a strategy, about what it costs in the books, or gives them a little of one of its legs.
func (c *crowd) bid(sess int) {
	c.t.Helper()
	strat := 1 + c.r(len(c.p.strats))
	l := c.p.strats[strat-1]
	leg := l[c.r(len(l))]
	top := c.p.tops(l)
	switch c.r(4) {
	case 0:
		c.do(sess, msg.New, nil, int64(leg.Series), 1, 9+c.r(2), 1, 1, c.r(2))
		c.do(sess, msg.New, nil, int64(leg.Series), 2, 11+c.r(2), 1, 1, c.r(2))
		return
	case 1:
		c.do(sess, msg.Mass, []msg.Row{{int64(leg.Series), 9 + c.r(2), 1 + c.r(2), 11 + c.r(2), 1 + c.r(2)}})
		return
	}
	net := c.r(5) - 2
	for i, leg := range l {
		net += int64(leg.Sign) * leg.Ratio * (top[i].Bid + top[i].Ask) / 2
	}
	c.do(sess, msg.Complex, nil, strat, 1+c.r(2), net, 1+c.r(3), 1)
}

// mass quotes around a middle that goes up and down.
func (c *crowd) mass(sess int) {
	c.t.Helper()
	var l []msg.Row
	for range 1 + c.r(3) {
		mid := 9 + c.r(3)
		l = append(l, msg.Row{c.near(1, 6), mid - c.r(2), c.near(0, 5), mid + c.r(3), c.near(0, 5)})
	}
	c.do(sess, msg.Mass, l)
}

func (c *crowd) newLegs() []msg.Row {
	var l []msg.Row
	for range 1 + c.r(5) {
		l = append(l, msg.Row{c.near(1, 5), c.some(1, -1, 1, -1, 0), c.near(1, 4), c.r(3)})
	}
	return l
}

// TestWalks (T1 to T5, and all promises): what is told, and all that is behind it, is what the plain venue tells.
func TestWalks(t *testing.T) {
	for seed := range 108 {
		c := crowdOf(t, small(seed), uint32(seed))
		c.opened()
		c.keen = seed%2 == 1
		for range 150 {
			c.turn()
		}
	}
}

// TestTwice (P3): the same calls in the same order tell the same.
func TestTwice(t *testing.T) {
	for seed := range 6 {
		var told []string
		for range 2 {
			c := crowdOf(t, small(seed*7), uint32(seed))
			c.opened()
			for range 200 {
				c.turn()
			}
			told = append(told, text(c.told)+c.look())
		}
		if told[0] != told[1] {
			t.Errorf("P3: %s\nand\n%s", told[0], told[1])
		}
	}
}
