package venue

import (
	"cmp"
	"slices"

	"straddle/alloc"
	"straddle/api"
	"straddle/cbook"
	"straddle/dir"
	"straddle/feed"
	"straddle/grid"
	"straddle/ladder"
	"straddle/legs"
	"straddle/life"
	"straddle/msg"
	"straddle/order"
	"straddle/tops"
)

// plain is a venue that is read off the document: one row of all orders there ever were, gone through and sorted
// whenever something is asked. Of the layers below it leans on what tells prices of legs and forms of strategies alone.
type plain struct {
	c      Config
	now    int64
	day    int64
	state  []int // of series n at n
	lines  map[int]*line
	orders []*paper // of number n at n - 1
	strats [][]legs.Leg
	hits   map[int][]int64 // of makers: times of fills since they were put on
	off    map[int]bool
	feed   map[int][]msg.Msg
	seen   map[int]levels // what the feed was told of
	bought map[int]int64
	sold   map[int]int64
	out    []Out
	from   int
	went   []int // makers that went off and were not told yet
}

// line is a session.
type line struct {
	on             bool
	heard, in, out int64
}

// paper is one order.
type paper struct {
	id                         int64
	owner, series, strat, side int
	price                      int64 // or net
	entered, filled, cancelled int64
	cust, quoted, rests        bool
}

type levels [2]map[int64]ladder.Level

func (p *paper) open() int64 { return p.entered - p.filled - p.cancelled }

func (p *paper) risky() int64 {
	if p.series == 0 {
		return 0
	}
	return p.price
}

func plainOf(c Config) *plain {
	p := &plain{c: c, state: make([]int, len(c.Series)+1), lines: map[int]*line{}, hits: map[int][]int64{}, off: map[int]bool{}, feed: map[int][]msg.Msg{}, seen: map[int]levels{}, bought: map[int]int64{}, sold: map[int]int64{}}
	for i := range c.Series {
		p.state[i+1] = dir.Closed
	}
	for s := 1; s <= api.MaxSess; s++ {
		p.lines[s] = &line{}
	}
	return p
}

func (p *plain) grid(series int) grid.Table {
	return p.c.Grids[slices.Index(p.c.Classes, p.c.Series[series-1].Class)]
}

func (p *plain) has(series int64) bool { return series >= 1 && series <= int64(len(p.c.Series)) }

// send and tell tell out of hand, and him who is on.
func (p *plain) send(to, kind int, l []msg.Row, a ...int64) {
	p.lines[to].out++
	m := msg.Msg{Kind: kind, Seq: p.lines[to].out, L: l}
	copy(m.A[:], a)
	p.out = append(p.out, Out{to, m})
}

func (p *plain) tell(to, kind int, a ...int64) {
	if p.lines[to].on || to == p.from {
		p.send(to, kind, nil, a...)
	}
}

func (p *plain) publish(series, kind int, a ...int64) {
	m := msg.Msg{Kind: kind, Seq: int64(len(p.feed[series]) + 1)}
	m.A[0] = int64(series)
	copy(m.A[1:], a)
	p.feed[series] = append(p.feed[series], m)
}

// row tells who waits in a series, rowC who waits for a strategy.
func (p *plain) row(series, side int) []*paper {
	return p.sorted(side, func(o *paper) bool { return o.series == series && o.strat == 0 })
}

func (p *plain) rowC(strat, side int) []*paper {
	return p.sorted(side, func(o *paper) bool { return o.strat == strat })
}

func (p *plain) sorted(side int, wanted func(o *paper) bool) []*paper {
	var l []*paper
	for _, o := range p.orders {
		if o.rests && o.open() > 0 && o.side == side && wanted(o) {
			l = append(l, o)
		}
	}
	slices.SortFunc(l, func(a, b *paper) int {
		dear := cmp.Compare(a.price, b.price)
		if side == api.Buy {
			dear = -dear
		}
		first := 0
		if a.cust != b.cust {
			first = 1
			if a.cust {
				first = -1
			}
		}
		return cmp.Or(dear, first, cmp.Compare(a.id, b.id))
	})
	return l
}

func across(side int) int { return 3 - side }

func takes(side int, own, price int64) bool {
	if side == api.Buy {
		return price <= own
	}
	return price >= own
}

// ask is risk's answer, where those that are left out are open no more and others are more.
func (p *plain) ask(owner int, price, qty int64, without, with []*paper) api.Errno {
	var n, sum int64
	for _, o := range append(slices.Clone(p.orders), with...) {
		if o.owner == owner && o.open() > 0 && !slices.Contains(without, o) {
			n++
			sum += o.risky() * o.open()
		}
	}
	switch {
	case qty > p.c.Limits.Qty || sum+price*qty > p.c.Limits.Notional:
		return api.ErrRange
	case n >= p.c.Limits.Orders:
		return api.ErrFull
	}
	return api.OK
}

// Do is what a message is answered.
func (p *plain) Do(sess int, m msg.Msg) []Out {
	p.out, p.from = nil, sess
	x := p.lines[sess]
	if x == nil {
		return nil
	}
	wrong := api.OK
	switch {
	case x.on && m.Kind == msg.Login || !x.on && m.Kind != msg.Login:
		wrong = api.ErrState
	case m.Seq != x.in+1:
		wrong = api.ErrSeq
	default:
		x.in++
		x.heard = p.now
		x.on = m.Kind != msg.Logout
		wrong = p.take(sess, m)
	}
	if wrong != api.OK {
		p.send(sess, msg.Reject, nil, m.Seq, int64(wrong))
	}
	p.behind()
	return p.out
}

func (p *plain) Tick() []Out {
	p.out, p.from = nil, 0
	p.now++
	var late []int
	for s := 1; s <= api.MaxSess; s++ {
		if x := p.lines[s]; x.on && x.heard <= p.now-p.c.Timeout {
			x.on = false
			late = append(late, s)
		}
	}
	for _, s := range late {
		var n int64
		for _, o := range p.orders {
			if o.owner == s && o.open() > 0 {
				o.cancelled += o.open()
				n++
			}
		}
		p.send(s, msg.Told, nil, 1, n)
	}
	p.behind()
	return p.out
}

func (p *plain) take(sess int, m msg.Msg) api.Errno {
	a := m.A
	switch m.Kind {
	case msg.Login, msg.Beat:
		p.tell(sess, msg.Accept, m.Seq)
	case msg.Logout:
		for _, o := range p.orders {
			if o.owner == sess && o.open() > 0 {
				p.done(o)
			}
		}
		p.tell(sess, msg.Accept, m.Seq)
	case msg.New:
		return p.enter(sess, m.Seq, a[0], &paper{owner: sess, side: int(a[1]), price: a[2], entered: a[3], cust: a[5] == 1}, a[4], nil)
	case msg.Cancel, msg.Drop:
		o := p.own(sess, a[0])
		if o == nil || (o.strat > 0) != (m.Kind == msg.Drop) {
			return api.ErrName
		}
		p.tell(sess, msg.Accept, m.Seq)
		p.done(o)
	case msg.Reduce:
		o := p.own(sess, a[0])
		if o == nil || o.strat > 0 || o.quoted {
			return api.ErrName
		}
		if a[1] < 1 || a[1] >= o.open() {
			return api.ErrArg
		}
		o.cancelled += a[1]
		p.tell(sess, msg.Accept, m.Seq, o.id)
	case msg.Replace:
		o := p.own(sess, a[0])
		if o == nil || o.strat > 0 || o.quoted {
			return api.ErrName
		}
		return p.enter(sess, m.Seq, int64(o.series), &paper{owner: sess, side: o.side, price: a[1], entered: a[2], cust: o.cust}, order.Day, o)
	case msg.Mass:
		if p.off[sess] {
			return api.ErrKill
		}
		var l []msg.Row
		for _, row := range m.L {
			l = append(l, p.quote(sess, row))
		}
		p.send(sess, msg.Told, l, m.Seq)
	case msg.Purge:
		p.tell(sess, msg.Told, m.Seq, p.purge(sess, a[0]))
	case msg.Enable:
		if !p.off[sess] {
			return api.ErrState
		}
		p.off[sess] = false
		p.tell(sess, msg.Accept, m.Seq)
	case msg.Strat:
		return p.strat(sess, m)
	case msg.Complex:
		return p.complex(sess, m)
	case msg.State:
		switch {
		case !p.has(a[0]):
			return api.ErrName
		case a[1] < dir.Closed || a[1] > dir.Halted:
			return api.ErrArg
		case p.state[a[0]] == dir.Expired:
			return api.ErrState
		}
		p.state[a[0]] = int(a[1])
		p.tell(sess, msg.Accept, m.Seq)
		p.publish(int(a[0]), msg.Phase, a[1])
	case msg.Day:
		p.expire(a[0])
		p.tell(sess, msg.Accept, m.Seq)
	default:
		return api.ErrName
	}
	return api.OK
}

func (p *plain) expire(day int64) {
	if day <= p.day {
		return
	}
	p.day = day
	for i, s := range p.c.Series {
		series := i + 1
		if s.Expiry > day || p.state[series] == dir.Expired {
			continue
		}
		p.state[series] = dir.Expired
		for _, o := range p.orders {
			if o.series == series && o.open() > 0 {
				p.done(o)
			}
		}
		for _, o := range p.orders {
			if o.strat > 0 && o.open() > 0 && slices.ContainsFunc(p.strats[o.strat-1], func(l legs.Leg) bool { return l.Series == series }) {
				p.done(o)
			}
		}
		p.publish(series, msg.Phase, dir.Expired)
	}
}

// own is an order of a session with something open; nil: none.
func (p *plain) own(sess int, id int64) *paper {
	if id < 1 || id > int64(len(p.orders)) || p.orders[id-1].owner != sess || p.orders[id-1].open() == 0 {
		return nil
	}
	return p.orders[id-1]
}

// done cancels an order, and tells its owner.
func (p *plain) done(o *paper) {
	n := o.open()
	o.cancelled += n
	p.tell(o.owner, msg.Done, o.id, n)
}

// add gives an order its number.
func (p *plain) add(o *paper) {
	o.id = int64(len(p.orders) + 1)
	p.orders = append(p.orders, o)
}

func (p *plain) enter(sess int, seq, series int64, o *paper, lives int64, old *paper) api.Errno {
	if !p.has(series) {
		return api.ErrName
	}
	if p.state[series] != dir.Open {
		return api.ErrState
	}
	o.series = int(series)
	switch {
	case o.side != api.Buy && o.side != api.Sell || o.price < 1 || o.price > api.MaxPrice:
		return api.ErrArg
	case !p.grid(o.series).On(o.price):
		return api.ErrGrid
	case o.entered < 1 || o.entered > api.MaxQty || lives < order.Day || lives > order.Post:
		return api.ErrArg
	}
	if e := p.ask(sess, o.price, o.entered, []*paper{old}, nil); e != api.OK {
		return e
	}
	var would, waiting int64
	for _, x := range p.row(o.series, across(o.side)) {
		if takes(o.side, o.price, x.price) {
			would += x.open()
		}
	}
	for _, side := range []int{api.Buy, api.Sell} {
		waiting += int64(len(p.row(o.series, side)))
	}
	if old != nil {
		waiting--
	}
	switch {
	case lives == order.Post && would > 0:
		return api.ErrCross
	case (lives == order.Post || lives == order.Day) && would == 0 && waiting >= api.MaxOrders:
		return api.ErrFull
	}
	p.add(o)
	p.tell(sess, msg.Accept, seq, o.id)
	if old != nil {
		p.done(old)
	}
	if lives != order.FOK || would >= o.entered {
		for _, x := range p.row(o.series, across(o.side)) {
			if o.open() > 0 && takes(o.side, o.price, x.price) {
				n := min(x.open(), o.open())
				p.hit(x, n)
				p.fill(o, x.price, n, 1)
			}
		}
	}
	switch {
	case o.open() == 0:
	case lives == order.Day || lives == order.Post:
		o.rests = true
	default:
		p.done(o)
	}
	p.cut()
	return api.OK
}

// fill fills so much of an order, and tells its owner.
func (p *plain) fill(o *paper, price, n, came int64) {
	o.filled += n
	p.tell(o.owner, msg.Fill, o.id, price, n, o.open(), came, int64(o.series))
	if o.series > 0 {
		p.volume(o.series, o.side, n)
	}
}

func (p *plain) volume(series, side int, n int64) {
	if side == api.Buy {
		p.bought[series] += n
	} else {
		p.sold[series] += n
	}
}

// hit fills so much of who waits in a series; a quote counts.
func (p *plain) hit(o *paper, n int64) {
	p.fill(o, o.price, n, 0)
	p.publish(o.series, msg.Trade, o.price, n)
	if !o.quoted || p.off[o.owner] {
		return
	}
	p.hits[o.owner] = append(p.hits[o.owner], p.now)
	in := 0
	for _, t := range p.hits[o.owner] {
		if t > p.now-p.c.Window {
			in++
		}
	}
	if in >= p.c.Fills {
		p.off[o.owner] = true
		p.hits[o.owner] = nil
		p.went = append(p.went, o.owner)
	}
}

// cut takes the quotes of those who went off.
func (p *plain) cut() {
	for _, s := range p.went {
		p.tell(s, msg.Told, 2, p.purge(s, 0))
	}
	p.went = nil
}

func (p *plain) purge(sess int, series int64) int64 {
	var n int64
	for _, o := range p.orders {
		if o.owner == sess && o.quoted && o.open() > 0 && (series == 0 || int64(o.series) == series) {
			o.cancelled += o.open()
			n++
		}
	}
	return n
}

func (p *plain) quote(sess int, row msg.Row) msg.Row {
	refuse := func(e api.Errno) msg.Row { return msg.Row{int64(e)} }
	if !p.has(row[0]) {
		return refuse(api.ErrName)
	}
	series := int(row[0])
	if p.state[series] != dir.Open {
		return refuse(api.ErrState)
	}
	bid := &paper{owner: sess, series: series, side: api.Buy, price: row[1], entered: row[2], quoted: true, rests: true}
	ask := &paper{owner: sess, series: series, side: api.Sell, price: row[3], entered: row[4], quoted: true, rests: true}
	var sides, old []*paper
	for _, o := range []*paper{bid, ask} {
		switch {
		case o.entered > 0 && (o.price < 1 || o.price > api.MaxPrice):
			return refuse(api.ErrArg)
		case o.entered > 0 && !p.grid(series).On(o.price):
			return refuse(api.ErrGrid)
		case o.entered < 0 || o.entered > api.MaxQty:
			return refuse(api.ErrArg)
		case o.entered > 0:
			sides = append(sides, o)
		}
	}
	if len(sides) == 2 && bid.price >= ask.price {
		return refuse(api.ErrCross)
	}
	for _, o := range p.orders {
		if o.owner == sess && o.quoted && o.series == series && o.open() > 0 {
			old = append(old, o)
		}
	}
	for _, o := range sides {
		for _, x := range p.row(series, across(o.side)) {
			if takes(o.side, o.price, x.price) && !slices.Contains(old, x) {
				return refuse(api.ErrCross)
			}
		}
	}
	for i, o := range sides {
		if e := p.ask(sess, o.price, o.entered, old, sides[:i]); e != api.OK {
			return refuse(e)
		}
	}
	if len(p.row(series, api.Buy))+len(p.row(series, api.Sell))-len(old)+len(sides) > api.MaxOrders {
		return refuse(api.ErrFull)
	}
	for _, o := range old {
		o.cancelled += o.open()
	}
	for _, o := range sides {
		p.add(o)
	}
	return msg.Row{0, bid.id, ask.id}
}

func (p *plain) strat(sess int, m msg.Msg) api.Errno {
	var l []legs.Leg
	classes := map[string]bool{}
	for _, row := range m.L {
		if !p.has(row[0]) {
			return api.ErrName
		}
		classes[p.c.Series[row[0]-1].Class] = true
		l = append(l, legs.Leg{Series: int(row[0]), Sign: int(row[1]), Ratio: row[2]})
	}
	if len(classes) > 1 {
		return api.ErrArg
	}
	form, turned, err := legs.Canon(l)
	if err != nil {
		return number(err)
	}
	id := slices.IndexFunc(p.strats, func(x []legs.Leg) bool { return slices.Equal(x, form) }) + 1
	if id == 0 {
		if len(p.strats) == api.MaxStrats {
			return api.ErrFull
		}
		p.strats = append(p.strats, form)
		id = len(p.strats)
	}
	var n int64
	if turned {
		n = 1
	}
	p.tell(sess, msg.Accept, m.Seq, int64(id), n)
	return api.OK
}

func (p *plain) live(strat int) bool {
	return !slices.ContainsFunc(p.strats[strat-1], func(l legs.Leg) bool { return p.state[l.Series] != dir.Open })
}

func (p *plain) complex(sess int, m msg.Msg) api.Errno {
	a := m.A
	if a[0] < 1 || a[0] > int64(len(p.strats)) {
		return api.ErrName
	}
	strat := int(a[0])
	switch {
	case !p.live(strat):
		return api.ErrState
	case a[1] != api.Buy && a[1] != api.Sell, a[3] < 1 || a[3] > api.MaxQty, a[2] < -16000000 || a[2] > 16000000, a[4] != order.Day && a[4] != order.IOC:
		return api.ErrArg
	case a[4] == order.Day && len(p.rowC(strat, api.Buy))+len(p.rowC(strat, api.Sell)) >= 256:
		return api.ErrFull
	}
	if e := p.ask(sess, 0, a[3], nil, nil); e != api.OK {
		return e
	}
	o := &paper{owner: sess, strat: strat, side: int(a[1]), price: a[2], entered: a[3]}
	p.add(o)
	p.tell(sess, msg.Accept, m.Seq, o.id)
	for o.open() > 0 && p.step(o) {
	}
	switch {
	case o.open() == 0:
	case a[4] == order.Day:
		o.rests = true
	default:
		p.done(o)
	}
	return api.OK
}

// tops tells the tops of legs, as the rows have them.
func (p *plain) tops(l []legs.Leg) []tops.Top {
	var t []tops.Top
	for _, leg := range l {
		var x tops.Top
		for i, o := range p.row(leg.Series, api.Buy) {
			if i == 0 {
				x.Bid, x.BidCust = o.price, o.cust
			}
			if o.price == x.Bid {
				x.BidQty += o.open()
			}
		}
		for i, o := range p.row(leg.Series, api.Sell) {
			if i == 0 {
				x.Ask, x.AskCust = o.price, o.cust
			}
			if o.price == x.Ask {
				x.AskQty += o.open()
			}
		}
		t = append(t, x)
	}
	return t
}

// step lets an order for a strategy trade once, if it can.
func (p *plain) step(o *paper) bool {
	l := p.strats[o.strat-1]
	t := p.tops(l)
	var g []grid.Table
	units, net, in := o.open(), int64(0), true
	prices, bought := make([]int64, len(l)), make([]bool, len(l))
	for i, leg := range l {
		g = append(g, p.grid(leg.Series))
		bought[i] = (leg.Sign == 1) == (o.side == api.Buy)
		price, qty := t[i].Bid, t[i].BidQty
		if bought[i] {
			price, qty = t[i].Ask, t[i].AskQty
		}
		in = in && price > 0
		units = min(units, qty/leg.Ratio)
		net += int64(leg.Sign) * leg.Ratio * price
		prices[i] = price
	}
	in = in && units > 0 && takes(o.side, o.price, net)
	for i, x := range p.rowC(o.strat, across(o.side)) {
		if i == 64 || !takes(o.side, o.price, x.price) {
			break
		}
		at, ok := alloc.Prices(l, t, g, x.price)
		if !ok {
			continue
		}
		if in && takes(o.side, x.price, net) { // not better than in the books
			break
		}
		p.meet(o, x, l, at, bought)
		return true
	}
	if in {
		p.split(o, units, net, l, prices, bought)
	}
	return in
}

func sideOf(bought bool) int {
	if bought {
		return api.Buy
	}
	return api.Sell
}

// leg tells of what an order for a strategy traded in a leg.
func (p *plain) leg(o *paper, series int, price, n int64, bought bool, net int64) {
	p.tell(o.owner, msg.Leg, o.id, int64(series), price, n, int64(sideOf(bought)), net)
	p.volume(series, sideOf(bought), n)
}

// meet lets o trade with one who waits for the strategy.
func (p *plain) meet(o, x *paper, l []legs.Leg, at []int64, bought []bool) {
	n, net := min(o.open(), x.open()), x.price
	for i, leg := range l {
		p.publish(leg.Series, msg.Trade, at[i], n*leg.Ratio)
		p.leg(x, leg.Series, at[i], n*leg.Ratio, !bought[i], net)
		p.leg(o, leg.Series, at[i], n*leg.Ratio, bought[i], net)
	}
	p.fill(x, net, n, 0)
	p.fill(o, net, n, 1)
}

// split lets o trade in the books of the legs.
func (p *plain) split(o *paper, n, net int64, l []legs.Leg, at []int64, bought []bool) {
	for i, leg := range l {
		left := n * leg.Ratio
		for _, x := range p.row(leg.Series, across(sideOf(bought[i]))) {
			if k := min(left, x.open()); k > 0 {
				p.hit(x, k)
				left -= k
			}
		}
		p.leg(o, leg.Series, at[i], n*leg.Ratio, bought[i], net)
	}
	p.fill(o, net, n, 1)
	p.cut()
}

// behind is what is done behind each call.
func (p *plain) behind() {
	for p.stir() {
	}
	for series := 1; series <= len(p.c.Series); series++ {
		for side := api.Buy; side <= api.Sell; side++ {
			p.level(series, side)
		}
	}
}

func (p *plain) stir() bool {
	for strat := 1; strat <= len(p.strats); strat++ {
		if !p.live(strat) {
			continue
		}
		for _, o := range append(p.rowC(strat, api.Buy), p.rowC(strat, api.Sell)...) {
			if p.step(o) {
				return true
			}
		}
	}
	return false
}

// ranks tells the levels of a side, the best first.
func (p *plain) ranks(series, side int) []ladder.Level {
	var l []ladder.Level
	for _, o := range p.row(series, side) {
		if len(l) == 0 || l[len(l)-1].Price != o.price {
			l = append(l, ladder.Level{Price: o.price})
		}
		l[len(l)-1].Qty += o.open()
		l[len(l)-1].N++
	}
	return l
}

// level tells the feed of each level that is another one.
func (p *plain) level(series, side int) {
	is, was := map[int64]ladder.Level{}, p.seen[series][side-1]
	var prices []int64
	for _, x := range p.ranks(series, side) {
		is[x.Price] = x
		prices = append(prices, x.Price)
	}
	for price := range was {
		prices = append(prices, price)
	}
	slices.Sort(prices)
	prices = slices.Compact(prices)
	if side == api.Buy {
		slices.Reverse(prices)
	}
	for _, price := range prices {
		if is[price] != was[price] {
			p.publish(series, msg.Level, int64(side), price, is[price].Qty, int64(is[price].N))
		}
	}
	x := p.seen[series]
	x[side-1] = is
	p.seen[series] = x
}

// What is behind it all, as the faces tell it.

func (p *plain) view(series int) feed.View {
	v := feed.View{Seq: int64(len(p.feed[series])), Bids: p.ranks(series, api.Buy), Asks: p.ranks(series, api.Sell)}
	for _, m := range p.feed[series] {
		switch m.Kind {
		case msg.Trade:
			v.Last, v.LastN = m.A[1], m.A[2]
		case msg.Phase:
			v.Phase = int(m.A[1])
		}
	}
	return v
}

func (p *plain) entry(o *paper) life.Entry {
	return life.Entry{Entered: o.entered, Filled: o.filled, Cancelled: o.cancelled, Open: o.open(), Owner: o.owner, Series: o.series, Side: o.side}
}

func (p *plain) waiting(strat int) []cbook.Order {
	var l []cbook.Order
	for _, o := range append(p.rowC(strat, api.Buy), p.rowC(strat, api.Sell)...) {
		l = append(l, cbook.Order{ID: o.id, Owner: o.owner, Side: o.side, Net: o.price, Units: o.open()})
	}
	return l
}

func (p *plain) on() []int {
	var l []int
	for s := 1; s <= api.MaxSess; s++ {
		if p.lines[s].on {
			l = append(l, s)
		}
	}
	return l
}
