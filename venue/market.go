package venue

import (
	"slices"

	"straddle/api"
	"straddle/book"
	"straddle/dir"
	"straddle/feed"
	"straddle/ladder"
	"straddle/msg"
)

// market is what is of one series.
type market struct {
	book   *book.Book
	feed   []msg.Msg
	view   feed.View // of the feed, as it was behind the last call
	bought int64     // by Legs; what orders bought is in the ledger
	sold   int64
}

// publish puts m into the feed, in its turn.
func (m *market) publish(p msg.Msg) {
	p.Seq = int64(len(m.feed)) + 1
	m.feed = append(m.feed, p)
}

// publishLevels tells the feed of a series what its book has by now.
func (m *market) publishLevels(series int) {
	m.publishSide(series, api.Buy, m.view.Bids)
	m.publishSide(series, api.Sell, m.view.Asks)
	m.view, _ = feed.All(m.view, m.feed[m.view.Seq:])
}

func (m *market) publishSide(series, side int, was []ladder.Level) {
	for _, p := range feed.Diff(series, was, m.book.Levels(side), side) {
		m.publish(p)
	}
}

// publishTrade tells the feed of a series that it traded.
func (c *call) publishTrade(series int, price, qty int64) {
	c.touch(series).publish(told(msg.Trade, int64(series), price, qty))
}

// publishPhase tells the feed of a series the state that it has now.
func (c *call) publishPhase(series int) {
	c.touch(series).publish(told(msg.Phase, int64(series), int64(c.dir.State(series))))
}

// wrongSeries tells why nothing may be entered in a series; OK if it may.
func (v *Venue) wrongSeries(series int) api.Errno {
	switch v.dir.State(series) {
	case 0:
		return api.ErrName
	case dir.Open:
		return api.OK
	}
	return api.ErrState
}

// takeState gives a series another state.
func (c *call) takeState(m msg.Msg) api.Errno {
	series, state := int(m.A[0]), int(m.A[1])
	if err := c.dir.Set(series, state); err != nil {
		return number(err)
	}
	c.publishPhase(series)
	return c.accept(m)
}

// takeDay lets series expire, and ends all that rests there.
func (c *call) takeDay(m msg.Msg) api.Errno {
	for _, series := range c.dir.Day(m.A[0]) {
		for _, id := range append(c.inBook(series), c.inStrats(series)...) {
			c.cancelAloud(id)
		}
		c.publishPhase(series)
	}
	return c.accept(m)
}

// inBook tells the orders that rest in a series, by their numbers.
func (v *Venue) inBook(series int) []int64 {
	var ids []int64
	for _, side := range [2]int{api.Buy, api.Sell} {
		for _, o := range v.market(series).book.Row(side) {
			ids = append(ids, o.ID)
		}
	}
	slices.Sort(ids)
	return ids
}

// inStrats tells the orders that rest for strategies with a series, by their numbers.
func (v *Venue) inStrats(series int) []int64 {
	var ids []int64
	for _, strat := range v.strats.With(series) {
		for _, o := range v.Complex(strat) {
			ids = append(ids, o.ID)
		}
	}
	slices.Sort(ids)
	return ids
}
