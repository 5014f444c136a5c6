package venue

import (
	"straddle/api"
	"straddle/book"
	"straddle/cbook"
	"straddle/cross"
	"straddle/grid"
	"straddle/legs"
	"straddle/msg"
	"straddle/order"
)

// takeStrat lists a strategy.
func (c *call) takeStrat(m msg.Msg) api.Errno {
	var l []legs.Leg
	for _, row := range m.L {
		if c.market(int(row[0])) == nil {
			return api.ErrName
		}
		l = append(l, legs.Leg{Series: int(row[0]), Sign: int(row[1]), Ratio: row[2]})
	}
	if !c.ofOneClass(l) {
		return api.ErrArg
	}
	id, turned, fresh, err := c.strats.Add(l)
	if err != nil {
		return number(err)
	}
	if fresh {
		c.waiting = append(c.waiting, cbook.New())
	}
	return c.accept(m, int64(id), flag(turned))
}

// takeComplex lets an order for a strategy in.
func (c *call) takeComplex(m msg.Msg) api.Errno {
	strat, life := int(m.A[0]), int(m.A[4])
	o := cbook.Order{ID: c.next(), Owner: c.from, Side: int(m.A[1]), Net: m.A[2], Units: m.A[3]}
	if wrong := c.wrongComplex(strat, o, life); wrong != api.OK {
		return wrong
	}
	c.enter(o.Owner, 0, o.Side, 0, o.Units)
	c.accept(m, o.ID)
	for o.Units > 0 {
		units, ok := c.step(strat, o)
		if !ok {
			break
		}
		o.Units -= units
	}
	switch {
	case o.Units == 0:
	case life == order.Day:
		c.rest(strat).Insert(o)
		c.stirred[strat] = true // others may take its net, though it takes none of theirs
	default:
		c.tellDone(o.ID, c.end(o.ID, 0))
	}
	return api.OK
}

// wrongComplex tells what refuses an order for a strategy; OK if nothing does.
func (v *Venue) wrongComplex(strat int, o cbook.Order, life int) api.Errno {
	rest := v.rest(strat)
	switch {
	case rest == nil:
		return api.ErrName
	case !v.allOpen(strat):
		return api.ErrState
	}
	if wrong := wrongRest(rest, o, life); wrong != api.OK {
		return wrong
	}
	return number(v.risk.Ask(o.Owner, 0, o.Units))
}

// wrongRest tells why an order of that life can't come where these rest; OK if it can.
func wrongRest(rest *cbook.Book, o cbook.Order, life int) api.Errno {
	switch life {
	case order.IOC: // it never rests: so it needs no room, and is asked where nobody does
		rest = cbook.New()
		fallthrough
	case order.Day:
		wrong := rest.Insert(o)
		rest.Remove(o.ID) // it comes first, and rests then
		return wrong
	}
	return api.ErrArg
}

// ofOneClass tells whether all series of legs are.
func (v *Venue) ofOneClass(l []legs.Leg) bool {
	for _, leg := range l {
		first, _ := v.dir.Series(l[0].Series)
		if s, _ := v.dir.Series(leg.Series); s.Class != first.Class {
			return false
		}
	}
	return true
}

// allOpen tells whether all series of a strategy are Open.
func (v *Venue) allOpen(strat int) bool {
	for _, leg := range v.Legs(strat) {
		if v.wrongSeries(leg.Series) != api.OK {
			return false
		}
	}
	return true
}

// stir lets the first one who waits for a strategy and can trade do so once; false if nobody can.
// Only who is ahead is asked: he takes each net that those behind him take, and nothing else of theirs counts.
func (c *call) stir(strat int) bool {
	c.stirred[strat] = false // what trades stirs it again
	if !c.allOpen(strat) {
		return false
	}
	rest := c.rest(strat)
	for _, side := range [2]int{api.Buy, api.Sell} {
		o, waits := rest.Front(side)
		if !waits {
			continue
		}
		if units, ok := c.step(strat, o); ok {
			rest.Reduce(o.ID, units)
			return true
		}
	}
	return false
}

// step lets o trade once against those who rest, and tells of it and for how many units; false if it can't.
func (c *call) step(strat int, o cbook.Order) (int64, bool) {
	l := c.Legs(strat)
	var b []*book.Book
	var g []grid.Table
	for _, leg := range l {
		b = append(b, c.market(leg.Series).book)
		g = append(g, c.dir.Grid(leg.Series))
	}
	t, ok := cross.Step(l, b, g, c.rest(strat), o)
	if !ok {
		return 0, false
	}
	c.tellStep(l, o, t)
	c.cutOff()
	return t.Units, true
}

// tellStep tells all that is to know of a trade of o: with who waited in the legs' books, or with one who waited for the strategy.
func (c *call) tellStep(l []legs.Leg, o cbook.Order, t cross.Trade) {
	crossed := t.Rest > 0
	for i, leg := range l {
		price, qty := t.Prices[i], t.Units*leg.Ratio
		if crossed {
			c.publishTrade(leg.Series, price, qty)
			c.tellLeg(t.Rest, leg, price, qty, t.Net)
		} else {
			for _, f := range t.Legs[i] {
				c.hit(leg.Series, f)
			}
		}
		c.tellLeg(o.ID, leg, price, qty, t.Net)
	}
	if crossed {
		c.fill(t.Rest, t.Net, t.Units, 0, 0)
	}
	c.fill(o.ID, t.Net, t.Units, 0, 1)
}

// tellLeg tells the owner of an order for a strategy what it bought or sold of a leg.
func (c *call) tellLeg(id int64, leg legs.Leg, price, qty, net int64) {
	e, _ := c.ledger.Get(id)
	side, m := api.Sell, c.market(leg.Series)
	if (leg.Sign == 1) == (e.Side == api.Buy) {
		side = api.Buy
		m.bought += qty
	} else {
		m.sold += qty
	}
	c.tell(e.Owner, told(msg.Leg, id, int64(leg.Series), price, qty, int64(side), net))
}
