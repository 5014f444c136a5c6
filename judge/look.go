package judge

import (
	"slices"

	"straddle/api"
	"straddle/book"
	"straddle/cbook"
	"straddle/cross"
	"straddle/dir"
	"straddle/feed"
	"straddle/grid"
	"straddle/legs"
	"straddle/life"
	"straddle/msg"
)

// whole is what is asked of a venue: an interface, since nothing is found of a venue.Venue as it should be, and what is told
// of one that isn't must be tested, too.
type whole interface {
	State(series int) int
	Book(series int) *book.Book
	Grid(series int) grid.Table
	Feed(series int) []msg.Msg
	View(series int) feed.View
	Volume(series int) (bought, sold int64)
	Strats() int
	Legs(strat int) []legs.Leg
	Complex(strat int) []cbook.Order
	Entry(id int64) (life.Entry, bool)
}

// The words, by their places.
const (
	crossed = iota
	idle
	fed
	summed
	words // how many there are
)

// found is, word by word, whether it is to be told.
type found [words]bool

// look tells the words of what does not hold.
func look(v whole, series, strats int) []string {
	var f found
	for n := 1; n <= series && v.State(n) > 0; n++ { // numbers are without gaps: behind the first that is none is none
		f.ask(v, n)
	}
	for n := 1; n <= min(strats, v.Strats()); n++ {
		f[idle] = f[idle] || !rests(v, n)
	}
	return f.told()
}

// ask asks of a series all that must hold of it in its state.
func (f *found) ask(v whole, series int) {
	first, b := fed, v.Book(series)
	if v.State(series) == dir.Open {
		first = crossed
	}
	switch first {
	case crossed:
		f[crossed] = f[crossed] || meets(b)
		fallthrough // the others are asked whatever its state
	case fed:
		bought, sold := v.Volume(series)
		f[fed] = f[fed] || !inTurn(v.Feed(series)) || !shows(v.View(series), b)
		f[summed] = f[summed] || bought != sold
	}
}

// told tells the words that were found, in their order.
func (f *found) told() []string {
	var l []string
	for place, word := range [words]string{"crossed", "idle", "feed", "sum"} {
		if f[place] {
			l = append(l, word)
		}
	}
	return l
}

// meets tells whether one who buys in a book would trade with one who sells.
func meets(b *book.Book) bool {
	bid, buys := b.Best(api.Buy)
	ask, sells := b.Best(api.Sell)
	return buys && sells && bid.Price >= ask.Price
}

// inTurn tells whether the messages of a feed have turns 1, 2, ..
func inTurn(l []msg.Msg) bool {
	for i, m := range l {
		if m.Seq != int64(i)+1 {
			return false
		}
	}
	return true
}

// shows tells whether a view has the levels of a book.
func shows(view feed.View, b *book.Book) bool {
	return slices.Equal(view.Bids, b.Levels(api.Buy)) && slices.Equal(view.Asks, b.Levels(api.Sell))
}

// rests tells whether all who wait for a strategy must: nobody can trade, or not all of its series are Open.
func rests(v whole, strat int) bool {
	l := v.Legs(strat)
	var b []*book.Book
	var g []grid.Table
	for _, leg := range l {
		if v.State(leg.Series) != dir.Open {
			return true
		}
		b, g = append(b, v.Book(leg.Series)), append(g, v.Grid(leg.Series))
	}
	waiting := cbook.New()
	for _, o := range v.Complex(strat) {
		waiting.Insert(o)
	}
	return cross.Idle(l, b, g, waiting)
}

// fair tells whether nothing is lost of orders.
func fair(v whole, orders int64, series int) bool {
	books := booksOf(v, series)
	for id := int64(1); id <= orders; id++ {
		e, ok := v.Entry(id)
		if !ok { // numbers are without gaps: behind the first that is none is none
			break
		}
		if e.Entered != e.Filled+e.Cancelled+e.Open || !kept(books, id, e) {
			return false
		}
	}
	return true
}

// booksOf tells the books of series 1 up to a number.
func booksOf(v whole, series int) []*book.Book {
	var books []*book.Book
	for n := 1; n <= series && v.State(n) > 0; n++ {
		books = append(books, v.Book(n))
	}
	return books
}

// kept tells whether what is open of an order rests in its book, if it is one of these.
func kept(books []*book.Book, id int64, e life.Entry) bool {
	if e.Open == 0 || e.Series < 1 || e.Series > len(books) {
		return true
	}
	o, ok := books[e.Series-1].Get(id)
	return ok && o.Qty == e.Open
}
