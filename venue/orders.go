package venue

import (
	"straddle/api"
	"straddle/match"
	"straddle/msg"
	"straddle/order"
)

// takeNew lets an order in.
func (c *call) takeNew(m msg.Msg) api.Errno {
	o := order.Order{Side: int(m.A[1]), Price: m.A[2], Qty: m.A[3], Life: int(m.A[4]), Cust: m.A[5] == 1}
	return c.place(m, int(m.A[0]), o)
}

// takeCancel ends an order: Cancel one of a series, Drop one for a strategy.
func (c *call) takeCancel(m msg.Msg) api.Errno {
	id := m.A[0]
	e, ok := c.mine(id)
	if !ok || (e.Series == 0) != (m.Kind == msg.Drop) {
		return api.ErrName
	}
	c.accept(m)
	c.cancelAloud(id)
	return api.OK
}

// takeReduce lets an order rest with so much less.
func (c *call) takeReduce(m msg.Msg) api.Errno {
	id, less := m.A[0], m.A[1]
	series, ok := c.single(id)
	if !ok {
		return api.ErrName
	}
	o, wrong := c.touch(series).book.Reduce(id, less)
	if wrong != api.OK {
		return wrong
	}
	c.ledger.Cancel(id, less)
	c.risk.Close(c.from, o.Price, less, false)
	return c.accept(m, id)
}

// takeReplace lets an order in, and another one go for it.
func (c *call) takeReplace(m msg.Msg) api.Errno {
	series, ok := c.single(m.A[0])
	if !ok {
		return api.ErrName
	}
	old, _ := c.market(series).book.Get(m.A[0])
	o := order.Order{Side: old.Side, Price: m.A[1], Qty: m.A[2], Life: order.Day, Cust: old.Cust}
	return c.place(m, series, o, old)
}

// single tells in which series an order of who called rests that is no quote's; false if there is none of that number.
func (c *call) single(id int64) (int, bool) {
	e, ok := c.mine(id)
	_, quoted := c.quotes.Whose(id)
	if !ok || quoted || e.Series == 0 {
		return 0, false
	}
	return e.Series, true
}

// place lets an order of who called in, in the place of an old one, if there is one.
func (c *call) place(m msg.Msg, series int, o order.Order, old ...order.Order) api.Errno {
	o.ID, o.Owner = c.next(), c.from
	if wrong := c.wrongOrder(series, o, old); wrong != api.OK {
		return wrong
	}
	for _, x := range old {
		c.cancel(x.ID)
	}
	r, wrong := match.Run(c.touch(series).book, o)
	if wrong != api.OK { // of no order that replaces another: it is a Day, and there is room for it where that one was
		return wrong
	}
	c.enter(o.Owner, series, o.Side, o.Price, o.Qty)
	c.accept(m, o.ID)
	for _, x := range old {
		c.tellDone(x.ID, x.Qty)
	}
	c.tellRun(series, o, r)
	return api.OK
}

// wrongOrder tells what refuses an order ahead of its book; OK if nothing does.
func (c *call) wrongOrder(series int, o order.Order, old []order.Order) api.Errno {
	if wrong := c.wrongSeries(series); wrong != api.OK {
		return wrong
	}
	if err := order.Check(o, c.dir.Grid(series)); err != nil {
		return number(err)
	}
	return c.wrongRisk(old, []order.Order{o})
}

// wrongRisk tells what risk would say to fresh orders, one by one, in the place of old ones; it counts as it did then.
func (v *Venue) wrongRisk(old, fresh []order.Order) api.Errno {
	v.release(old)
	opened, wrong := v.commit(fresh)
	v.release(fresh[:opened])
	v.commit(old)
	return wrong
}

// commit lets risk count orders, up to the first that it refuses, and tells how many these are.
func (v *Venue) commit(l []order.Order) (int, api.Errno) {
	for i, o := range l {
		if err := v.risk.Open(o.Owner, o.Price, o.Qty); err != nil {
			return i, number(err)
		}
	}
	return len(l), api.OK
}

// release lets risk count orders no more.
func (v *Venue) release(l []order.Order) {
	for _, o := range l {
		v.risk.Close(o.Owner, o.Price, o.Qty, true)
	}
}

// tellRun tells all that is to know of what an order that came has traded, and ends what neither traded nor rests of it.
func (c *call) tellRun(series int, o order.Order, r match.Result) {
	for _, f := range r.Fills {
		c.hit(series, f)
		c.fill(o.ID, f.Price, f.Qty, o.Price, 1)
	}
	if r.Left > 0 && !r.Rests {
		c.tellDone(o.ID, c.end(o.ID, o.Price))
	}
	c.cutOff()
}

// hit lets an order that waited in a series trade, and all know it; who waited had the price by which risk counts it.
func (c *call) hit(series int, f match.Fill) {
	c.fill(f.Maker, f.Price, f.Qty, f.Price, 0)
	c.publishTrade(series, f.Price, f.Qty)
	c.count(f.Maker)
}
