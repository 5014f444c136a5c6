package venue

import (
	"straddle/api"
	"straddle/life"
	"straddle/msg"
)

// What a Told says first where it answers no message.
const (
	wasLate = 1 // the session is off
	wasHit  = 2 // the session's quotes are off
)

// call is one call of a venue: who made it, what is told by it, and what is to be seen to behind it.
type call struct {
	*Venue
	from    int // 0: nobody
	out     []Out
	off     []int                   // makers, in the order in which they went off; their quotes are there yet
	touched [api.MaxSeries + 1]bool // by series: its feed is told what its book has by now
	stirred [api.MaxStrats + 1]bool // by strategy: one who waits for it may be able to trade; of all others nobody is
}

// take does what a message asks for, or tells why not.
func (c *call) take(m msg.Msg) api.Errno {
	switch m.Kind {
	case msg.Logout:
		for _, id := range c.ledger.Open(c.from) {
			c.cancelAloud(id)
		}
		fallthrough // it is answered as what only says that the session is there
	case msg.Login, msg.Beat:
		return c.accept(m)
	case msg.New:
		return c.takeNew(m)
	case msg.Cancel, msg.Drop:
		return c.takeCancel(m)
	case msg.Reduce:
		return c.takeReduce(m)
	case msg.Replace:
		return c.takeReplace(m)
	case msg.Mass:
		return c.takeMass(m)
	case msg.Purge:
		return c.takePurge(m)
	case msg.Enable:
		return c.takeEnable(m)
	case msg.Strat:
		return c.takeStrat(m)
	case msg.Complex:
		return c.takeComplex(m)
	case msg.State:
		return c.takeState(m)
	case msg.Day:
		return c.takeDay(m)
	}
	return api.ErrName
}

// accept tells who called that m is done, and what else is named there. It refuses nothing.
func (c *call) accept(m msg.Msg, more ...int64) api.Errno {
	c.tell(c.from, told(msg.Accept, append([]int64{m.Seq}, more...)...))
	return api.OK
}

// tell sends m to a session that is on; who called is told all of it, though it goes off by its call.
func (c *call) tell(to int, m msg.Msg) {
	if to == c.from || c.sessions.On(to) {
		c.send(to, m)
	}
}

// send sends m in a session's next turn; nobody has it where there is no such session.
func (c *call) send(to int, m msg.Msg) {
	if m.Seq = c.sessions.Out(to); m.Seq > 0 {
		c.out = append(c.out, Out{Sess: to, M: m})
	}
}

// touch tells what is of a series to one who changes it.
func (c *call) touch(series int) *market {
	c.touched[series] = true
	for _, strat := range c.strats.With(series) {
		c.stirred[strat] = true
	}
	return c.market(series)
}

// settle lets trade whoever waits for a strategy and can, and then tells the feeds what the books have.
func (c *call) settle() {
	for strat := 1; strat <= len(c.waiting); strat++ {
		if c.stirred[strat] && c.stir(strat) {
			strat = 0 // from the first one on again: what has traded may be what others waited for
		}
	}
	for series := 1; series <= len(c.markets); series++ {
		if c.touched[series] {
			c.market(series).publishLevels(series)
		}
	}
}

// mine tells an order of who called that has something open; false if there is none of that number.
func (c *call) mine(id int64) (life.Entry, bool) {
	e, ok := c.ledger.Get(id)
	return e, ok && e.Owner == c.from && e.Open > 0
}

// next tells the number of the order that is accepted next.
func (v *Venue) next() int64 { return int64(v.ledger.Len()) + 1 }

// enter lets the order of the next number be open, which nothing refuses; of one for a strategy series and price are 0.
func (v *Venue) enter(owner, series, side int, price, qty int64) {
	v.ledger.Enter(owner, series, side, qty)
	v.risk.Open(owner, price, qty)
}

// fill lets qty of an order trade at a price, or a net, and tells its owner; own is the price by which risk counts it.
func (c *call) fill(id, at, qty, own, came int64) {
	c.ledger.Fill(id, qty)
	e, _ := c.ledger.Get(id)
	c.risk.Close(e.Owner, own, qty, e.Open == 0)
	c.tell(e.Owner, told(msg.Fill, id, at, qty, e.Open, came, int64(e.Series)))
}

// cancelAloud ends an order that rests, and tells its owner.
func (c *call) cancelAloud(id int64) { c.tellDone(id, c.cancel(id)) }

// cancel ends an order that rests, and tells how much was open of it.
func (c *call) cancel(id int64) int64 { return c.end(id, c.takeOut(id)) }

// takeOut takes an order out of where it rests, and tells the price by which risk counts it.
func (c *call) takeOut(id int64) int64 {
	if e, _ := c.ledger.Get(id); e.Series > 0 {
		o, _ := c.touch(e.Series).book.Remove(id)
		return o.Price
	}
	for i, rest := range c.waiting {
		if _, ok := rest.Remove(id); ok {
			c.stirred[i+1] = true // those too far behind to be asked may not be so any more
		}
	}
	return 0
}

// end cancels what is open of an order that rests nowhere, and tells how much that was.
func (v *Venue) end(id, price int64) int64 {
	e, _ := v.ledger.Get(id)
	v.quotes.Forget(id)
	v.ledger.Cancel(id, e.Open)
	v.risk.Close(e.Owner, price, e.Open, true)
	return e.Open
}

// tellDone tells an order's owner how much of it was cancelled.
func (c *call) tellDone(id, qty int64) {
	e, _ := c.ledger.Get(id)
	c.tell(e.Owner, told(msg.Done, id, qty))
}

// told tells a message of a kind, its first numbers those of a; its turn is given by who sends it.
func told(kind int, a ...int64) msg.Msg {
	m := msg.Msg{Kind: kind}
	copy(m.A[:], a)
	return m
}

// flag tells a yes or no as a number.
func flag(yes bool) int64 {
	if yes {
		return 1
	}
	return 0
}
