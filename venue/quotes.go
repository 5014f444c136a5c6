package venue

import (
	"slices"

	"straddle/api"
	"straddle/book"
	"straddle/msg"
	"straddle/order"
	"straddle/quote"
)

// takeMass quotes row by row.
func (c *call) takeMass(m msg.Msg) api.Errno {
	if c.kill.Off(c.from) {
		return api.ErrKill
	}
	answer := told(msg.Told, m.Seq)
	for _, row := range m.L {
		answer.L = append(answer.L, c.quoteRow(row))
	}
	c.tell(c.from, answer)
	return api.OK
}

// takePurge takes quotes of who called, of one series or of all.
func (c *call) takePurge(m msg.Msg) api.Errno {
	gone := c.purge(c.from, func(series int) bool { return m.A[0] == 0 || m.A[0] == int64(series) })
	c.tell(c.from, told(msg.Told, m.Seq, gone))
	return api.OK
}

// takeEnable lets who called quote again.
func (c *call) takeEnable(m msg.Msg) api.Errno {
	if !c.kill.Enable(c.from) {
		return api.ErrState
	}
	return c.accept(m)
}

// quoteRow lets a quote of who called take the place of the one that it has there, and tells what became of it.
func (c *call) quoteRow(row msg.Row) msg.Row {
	slot := quote.Slot{Maker: c.from, Series: int(row[0])}
	q := quote.Quote{Bid: row[1], BidQty: row[2], Ask: row[3], AskQty: row[4]}
	if wrong := c.wrongQuote(slot, q); wrong != api.OK {
		return msg.Row{int64(wrong)}
	}
	for _, o := range c.quoted(slot) {
		c.cancel(o.ID)
	}
	var ids [api.Sell + 1]int64 // by side
	for _, o := range sides(slot, q) {
		o.ID = c.next()
		c.enter(o.Owner, slot.Series, o.Side, o.Price, o.Qty)
		c.touch(slot.Series).book.Insert(o)
		ids[o.Side] = o.ID
	}
	c.quotes.Set(slot, ids[api.Buy], ids[api.Sell])
	return msg.Row{0, ids[api.Buy], ids[api.Sell]}
}

// wrongQuote tells what refuses a quote; OK if nothing does.
func (v *Venue) wrongQuote(slot quote.Slot, q quote.Quote) api.Errno {
	if wrong := v.wrongSeries(slot.Series); wrong != api.OK {
		return wrong
	}
	if err := quote.Check(q, v.dir.Grid(slot.Series)); err != nil {
		return number(err)
	}
	b, old, fresh := v.market(slot.Series).book, v.quoted(slot), sides(slot, q)
	if slices.ContainsFunc(fresh, func(o order.Order) bool { return crosses(b, o, old) }) {
		return api.ErrCross
	}
	if wrong := v.wrongRisk(old, fresh); wrong != api.OK {
		return wrong
	}
	if b.Len()-len(old)+len(fresh) > api.MaxOrders {
		return api.ErrFull
	}
	return api.OK
}

// quoted tells the orders that rest of a quote, the bid first.
func (v *Venue) quoted(slot quote.Slot) []order.Order {
	bid, ask, ok := v.quotes.Get(slot)
	if !ok {
		return nil
	}
	var l []order.Order
	for _, id := range [2]int64{bid, ask} {
		if o, rests := v.market(slot.Series).book.Get(id); rests { // of a side that is none no order does
			l = append(l, o)
		}
	}
	return l
}

// sides tells the orders that a quote is made of, the bid first; they have no numbers yet.
func sides(slot quote.Slot, q quote.Quote) []order.Order {
	both := []order.Order{
		{Owner: slot.Maker, Side: api.Buy, Price: q.Bid, Qty: q.BidQty, Life: order.Post},
		{Owner: slot.Maker, Side: api.Sell, Price: q.Ask, Qty: q.AskQty, Life: order.Post},
	}
	return slices.DeleteFunc(both, func(o order.Order) bool { return o.Qty == 0 })
}

// crosses tells whether o would trade with who waits in b, but for the old orders.
func crosses(b *book.Book, o order.Order, old []order.Order) bool {
	return slices.ContainsFunc(b.Row(order.Opposite(o.Side)), func(rest order.Order) bool {
		return order.Takes(o, rest.Price) && !slices.Contains(old, rest)
	})
}

// purge ends the quotes of a maker in the series that are wanted, and tells how many orders these were.
func (c *call) purge(maker int, wanted func(series int) bool) int64 {
	var gone int64
	for _, slot := range c.quotes.Of(maker) {
		if !wanted(slot.Series) {
			continue
		}
		for _, o := range c.quoted(slot) {
			c.cancel(o.ID)
			gone++
		}
	}
	return gone
}

// count counts a fill for the maker whose quote's order had it, if it is one.
func (c *call) count(id int64) {
	slot, ok := c.quotes.Whose(id)
	if !ok {
		return
	}
	if c.kill.Fill(slot.Maker, c.now) {
		c.off = append(c.off, slot.Maker)
	}
	if e, _ := c.ledger.Get(id); e.Open == 0 {
		c.quotes.Forget(id)
	}
}

// cutOff ends the quotes of those who went off, and tells them.
func (c *call) cutOff() {
	for _, maker := range c.off {
		gone := c.purge(maker, func(int) bool { return true })
		c.tell(maker, told(msg.Told, wasHit, gone))
	}
	c.off = nil
}
