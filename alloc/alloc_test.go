package alloc

import (
	"fmt"
	"math"
	"slices"
	"testing"

	"straddle/api"
	"straddle/grid"
	"straddle/legs"
	"straddle/tops"
)

const (
	most  = math.MaxInt64
	least = math.MinInt64
)

// made tells legs of series, sign and ratio, one leg behind the other.
func made(x ...int64) []legs.Leg {
	var l []legs.Leg
	for ; len(x) > 0; x = x[3:] {
		l = append(l, legs.Leg{Series: int(x[0]), Sign: int(x[1]), Ratio: x[2]})
	}
	return l
}

// by tells a grid of one Step.
func by(n int64) grid.Table { return grid.Table{{From: 1, By: n}} }

// fine tells n grids on which all prices are.
func fine(n int) []grid.Table {
	var g []grid.Table
	for range n {
		g = append(g, by(1))
	}
	return g
}

// span tells a top in which no customer rests.
func span(bid, ask int64) tops.Top { return tops.Top{Bid: bid, Ask: ask} }

// held tells a top in which customers rest at both sides.
func held(bid, ask int64) tops.Top {
	return tops.Top{Bid: bid, Ask: ask, BidCust: true, AskCust: true}
}

// walk tells numbers below n, each time the same row of them.
func walk(seed uint32) func(n int) int64 {
	return func(n int) int64 {
		seed = seed*1664525 + 1013904223
		return int64(seed>>8) % int64(n)
	}
}

// checkRight asks whether Right tells this.
func checkRight(t *testing.T, l []legs.Leg, tt []tops.Top, g []grid.Table, net int64, prices []int64, want bool) {
	t.Helper()
	if got := Right(l, tt, g, net, prices); got != want {
		t.Errorf("Right(%v, %v, %v, %d, %v): %v", l, tt, g, net, prices, got)
	}
}

// checkPrices asks whether Prices tells these; nil: that there are none.
func checkPrices(t *testing.T, l []legs.Leg, tt []tops.Top, g []grid.Table, net int64, want []int64) {
	t.Helper()
	got, ok := Prices(l, tt, g, net)
	if !slices.Equal(got, want) || ok != (want != nil) {
		t.Errorf("Prices(%v, %v, %v, %d): %v, %v; want %v", l, tt, g, net, got, ok, want)
	}
	if ok && !Right(l, tt, g, net, got) {
		t.Errorf("Prices(%v, %v, %v, %d): %v, which is not Right", l, tt, g, net, got)
	}
}

// plainOn tells whether a price is on a grid that may be, walking it from its beginning.
func plainOn(g grid.Table, p int64) bool {
	for i, s := range g {
		end := int64(1000001)
		if i+1 < len(g) {
			end = g[i+1].From
		}
		if p >= s.From && p < end {
			return (p-s.From)%s.By == 0
		}
	}
	return false
}

// plainRight tells the promise of Right, word by word, of legs, grids and counts that may be.
func plainRight(l []legs.Leg, tt []tops.Top, g []grid.Table, net int64, prices []int64) bool {
	sum := int64(0)
	for i, p := range prices {
		top := tt[i]
		if !plainOn(g[i], p) || top.Bid == 0 || top.Ask == 0 || p < top.Bid || p > top.Ask {
			return false
		}
		if top.AskCust && p == top.Ask || top.BidCust && p == top.Bid {
			return false
		}
		sum += int64(l[i].Sign) * l[i].Ratio * p
	}
	return sum == net
}

// plainMoves tells the prices that a leg comes to by 0, 1, .. moves, at most 12, looking at each price between.
func plainMoves(sign int, top tops.Top, g grid.Table) []int64 {
	p, other, by := top.Bid, top.Ask, int64(1)
	if sign == 1 {
		p, other, by = top.Ask, top.Bid, -1
	}
	moves := []int64{p}
	if !plainOn(g, p) {
		return moves
	}
	for len(moves) < 13 && p != other {
		p += by
		if plainOn(g, p) {
			moves = append(moves, p)
		}
	}
	return moves
}

// plainRows tells all rows of moves, in their order.
func plainRows(l []legs.Leg, tt []tops.Top, g []grid.Table) [][]int64 {
	rows := [][]int64{nil}
	for i := range l {
		var longer [][]int64
		for _, row := range rows {
			for _, p := range plainMoves(l[i].Sign, tt[i], g[i]) {
				longer = append(longer, append(slices.Clone(row), p))
			}
		}
		rows = longer
	}
	return rows
}

// plainPrices tells the first row of moves that is right; nil: there is none.
func plainPrices(l []legs.Leg, tt []tops.Top, g []grid.Table, net int64) []int64 {
	for i := range tt {
		if tt[i].Bid == 0 || tt[i].Ask == 0 || tt[i].Bid > tt[i].Ask {
			return nil
		}
	}
	for _, row := range plainRows(l, tt, g) {
		if plainRight(l, tt, g, net, row) {
			return row
		}
	}
	return nil
}

// drawnLegs tells n legs.
func drawnLegs(next func(n int) int64, n int) []legs.Leg {
	var l []legs.Leg
	for i := range n {
		l = append(l, legs.Leg{Series: 9 - 2*i, Sign: int(next(2))*2 - 1, Ratio: 1 + next(4)})
	}
	return l
}

// drawnTop tells a top of at most so many prices below each other, on a grid's or beside them; now and then a side is none.
func drawnTop(next func(n int) int64, wide int) tops.Top {
	bid := 1 + next(40)
	top := tops.Top{Bid: bid, Ask: bid + next(wide), BidCust: next(3) == 0, AskCust: next(3) == 0}
	switch next(40) {
	case 0:
		top.Bid = 0
	case 1:
		top.Ask = 0
	case 2:
		top.Bid, top.Ask = top.Ask, top.Bid
	}
	return top
}

// drawnGrid tells a grid that may be.
func drawnGrid(next func(n int) int64) grid.Table {
	switch next(6) {
	case 0:
		return by(2)
	case 1:
		return grid.Table{{From: 1, By: 1}, {From: 13, By: 3}, {From: 31, By: 6}}
	case 2:
		return grid.Table{{From: 1, By: 5}, {From: 21, By: 2}}
	}
	return by(1)
}

// drawn tells n legs, their tops and their grids.
func drawn(next func(n int) int64, n, wide int) (l []legs.Leg, tt []tops.Top, g []grid.Table) {
	for range n {
		tt, g = append(tt, drawnTop(next, wide)), append(g, drawnGrid(next))
	}
	return drawnLegs(next, n), tt, g
}

// drawnNet tells a net that prices near these tops may make.
func drawnNet(next func(n int) int64, l []legs.Leg, tt []tops.Top) int64 {
	net := next(3) - 1
	for i, leg := range l {
		bid, ask := min(tt[i].Bid, tt[i].Ask), max(tt[i].Bid, tt[i].Ask)
		net += int64(leg.Sign) * leg.Ratio * (bid + next(int(ask-bid)+1))
	}
	return net
}

func TestP2001RightIsEachOfItsWords(t *testing.T) {
	l, g := made(1, 1, 1, 2, -1, 1), fine(2)
	tt := []tops.Top{span(10, 13), span(4, 6)}
	for _, c := range []struct {
		net    int64
		prices []int64
		want   bool
	}{
		{9, []int64{13, 4}, true},
		{4, []int64{10, 6}, true},
		{6, []int64{11, 5}, true},
		{6, []int64{10, 4}, true}, // not the first row, yet right
		{10, []int64{14, 4}, false},
		{5, []int64{9, 4}, false},
		{10, []int64{13, 3}, false},
		{6, []int64{13, 7}, false},
		{9, []int64{13, 5}, false},
		{-9, []int64{13, 4}, false},
		{17, []int64{13, 4}, false},
		{0, []int64{13, 4}, false},
		{9, nil, false},
		{13, []int64{13}, false},
		{9, []int64{13, 4, 0}, false},
		{9, []int64{13, 4, 1}, false},
		{0, []int64{0, 0}, false},
		{-9, []int64{-13, -4}, false},
	} {
		checkRight(t, l, tt, g, c.net, c.prices, c.want)
	}
}

func TestP2001RightGoesByEachLegsGrid(t *testing.T) {
	l, tt := made(1, 1, 1, 2, -1, 1), []tops.Top{span(1, 40), span(1, 40)}
	steps := grid.Table{{From: 1, By: 5}, {From: 21, By: 2}}
	for p := int64(1); p <= 40; p++ {
		fives, stepped := p%5 == 1, p < 21 && p%5 == 1 || p >= 21 && p%2 == 1
		checkRight(t, l, tt, []grid.Table{by(5), by(1)}, p-7, []int64{p, 7}, fives)
		checkRight(t, l, tt, []grid.Table{by(1), by(5)}, 7-p, []int64{7, p}, fives)
		checkRight(t, l, tt, []grid.Table{steps, by(1)}, p-7, []int64{p, 7}, stepped)
		checkRight(t, l, tt, []grid.Table{by(1), steps}, 7-p, []int64{7, p}, stepped)
	}
}

// TestP2001CustomersAreNotPassedBy asks about both sides of each leg, whoever buys it.
func TestP2001CustomersAreNotPassedBy(t *testing.T) {
	for _, sign := range []int64{1, -1} {
		for cust := range 4 {
			top := tops.Top{Bid: 10, Ask: 14, BidCust: cust&1 != 0, AskCust: cust&2 != 0}
			for p := int64(8); p <= 16; p++ {
				ok := p > 10 && p < 14 || p == 10 && !top.BidCust || p == 14 && !top.AskCust
				l := made(3, sign, 1, 2, 1, 1)
				checkRight(t, l, []tops.Top{top, span(5, 7)}, fine(2), sign*p+6, []int64{p, 6}, ok)
				l = made(2, 1, 1, 3, sign, 1)
				checkRight(t, l, []tops.Top{span(5, 7), top}, fine(2), sign*p+6, []int64{6, p}, ok)
			}
		}
	}
}

func TestP2001PricesGoesRoundCustomers(t *testing.T) {
	l, g := made(1, 1, 1, 2, -1, 1), fine(2)
	ask, bid := tops.Top{Bid: 10, Ask: 13, AskCust: true}, tops.Top{Bid: 4, Ask: 6, BidCust: true}
	checkPrices(t, l, []tops.Top{ask, span(4, 6)}, g, 9, nil)
	checkPrices(t, l, []tops.Top{ask, span(4, 6)}, g, 8, []int64{12, 4})
	checkPrices(t, l, []tops.Top{ask, span(4, 6)}, g, 4, []int64{10, 6})
	checkPrices(t, l, []tops.Top{span(10, 13), bid}, g, 9, nil)
	checkPrices(t, l, []tops.Top{span(10, 13), bid}, g, 8, []int64{13, 5})
	checkPrices(t, l, []tops.Top{span(10, 13), bid}, g, 4, []int64{10, 6})
	both := []tops.Top{held(10, 13), held(4, 6)}
	for net, want := range map[int64][]int64{8: nil, 7: {12, 5}, 6: {11, 5}, 5: nil} {
		checkPrices(t, l, both, g, net, want)
	}
	// one price, or two, with customers at both: none is left
	for wide := range int64(2) {
		checkPrices(t, l, []tops.Top{held(10, 10+wide), span(4, 6)}, g, 5, nil)
		checkPrices(t, l, []tops.Top{span(10, 13), held(4, 4+wide)}, g, 8, nil)
	}
	checkPrices(t, l, []tops.Top{span(10, 10), span(4, 4)}, g, 6, []int64{10, 4})
}

func TestP2001TheFirstRowOfMoves(t *testing.T) {
	for _, c := range []struct {
		l    []legs.Leg
		tt   []tops.Top
		net  int64
		want []int64
	}{
		// the first leg's least moves, although one of its moves would do for two of the second's
		{made(1, 1, 2, 2, -1, 1), []tops.Top{span(10, 14), span(4, 8)}, 22, []int64{14, 6}},
		{made(2, -1, 1, 1, 1, 2), []tops.Top{span(4, 8), span(10, 14)}, 22, []int64{4, 13}},
		// all sell: each goes up from its Bid
		{made(1, -1, 1, 2, -1, 1), []tops.Top{span(10, 14), span(4, 8)}, -14, []int64{10, 4}},
		{made(1, -1, 1, 2, -1, 1), []tops.Top{span(10, 14), span(4, 8)}, -17, []int64{10, 7}},
		{made(1, -1, 1, 2, -1, 1), []tops.Top{span(10, 14), span(4, 8)}, -20, []int64{12, 8}},
		{made(1, -1, 1, 2, -1, 1), []tops.Top{span(10, 14), span(4, 8)}, -22, []int64{14, 8}},
		{made(1, -1, 1, 2, -1, 1), []tops.Top{span(10, 14), span(4, 8)}, -23, nil},
		{made(1, -1, 1, 2, -1, 1), []tops.Top{span(10, 14), span(4, 8)}, -13, nil},
		// all buy: each goes down from its Ask
		{made(1, 1, 1, 2, 1, 1, 3, 1, 1), []tops.Top{span(10, 14), span(4, 8), span(1, 3)}, 25, []int64{14, 8, 3}},
		{made(1, 1, 1, 2, 1, 1, 3, 1, 1), []tops.Top{span(10, 14), span(4, 8), span(1, 3)}, 24, []int64{14, 8, 2}},
		{made(1, 1, 1, 2, 1, 1, 3, 1, 1), []tops.Top{span(10, 14), span(4, 8), span(1, 3)}, 22, []int64{14, 7, 1}},
		{made(1, 1, 1, 2, 1, 1, 3, 1, 1), []tops.Top{span(10, 14), span(4, 8), span(1, 3)}, 17, []int64{12, 4, 1}},
		{made(1, 1, 1, 2, 1, 1, 3, 1, 1), []tops.Top{span(10, 14), span(4, 8), span(1, 3)}, 15, []int64{10, 4, 1}},
		{made(1, 1, 1, 2, 1, 1, 3, 1, 1), []tops.Top{span(10, 14), span(4, 8), span(1, 3)}, 14, nil},
		// what ratios can't make up is not there
		{made(1, 1, 2, 2, -1, 4), []tops.Top{span(10, 14), span(4, 8)}, 11, nil},
		{made(1, 1, 2, 2, -1, 4), []tops.Top{span(10, 14), span(4, 8)}, 10, []int64{13, 4}},
		{made(1, 1, 4, 2, -1, 3), []tops.Top{span(10, 14), span(4, 8)}, 43, nil},
		{made(1, 1, 4, 2, -1, 3), []tops.Top{span(10, 14), span(4, 8)}, 40, []int64{13, 4}},
		{made(1, 1, 1, 2, -1, 1, 3, 1, 2, 4, -1, 2), []tops.Top{span(10, 14), span(4, 8), span(3, 5), span(6, 9)}, 8, []int64{14, 4, 5, 6}},
		{made(1, 1, 1, 2, -1, 1, 3, 1, 2, 4, -1, 2), []tops.Top{span(10, 14), span(4, 8), span(3, 5), span(6, 9)}, 7, []int64{14, 5, 5, 6}},
		{made(1, 1, 1, 2, -1, 1, 3, 1, 2, 4, -1, 2), []tops.Top{span(10, 14), span(4, 8), span(3, 5), span(6, 9)}, 6, []int64{14, 4, 5, 7}},
	} {
		checkPrices(t, c.l, c.tt, fine(len(c.l)), c.net, c.want)
	}
}

// TestP2001MovesWithinTheirCap asks about tops wider than all moves, and one move narrower.
func TestP2001MovesWithinTheirCap(t *testing.T) {
	sold := []tops.Top{span(1, 400), span(1, 400)}
	for _, c := range []struct {
		step         int64
		low, high    int64 // where a leg starts that is sold, that is bought
		inner, outer int64 // twelve moves, and thirteen
	}{{1, 1, 400, 12, 13}, {3, 1, 400, 36, 39}, {7, 1, 400, 84, 91}, {21, 1, 400, 252, 273}} {
		g := []grid.Table{by(c.step), by(c.step)}
		buys, sells := made(1, 1, 1, 2, 1, 1), made(1, -1, 1, 2, -1, 1)
		checkPrices(t, buys, sold, g, 2*c.high-c.inner, []int64{c.high, c.high - c.inner})
		checkPrices(t, buys, sold, g, 2*c.high-c.outer, []int64{c.high - c.step, c.high - c.inner})
		checkPrices(t, buys, sold, g, 2*(c.high-c.inner), []int64{c.high - c.inner, c.high - c.inner})
		checkPrices(t, buys, sold, g, 2*(c.high-c.inner)-c.step, nil)
		checkRight(t, buys, sold, g, 2*c.high-c.inner-c.outer, []int64{c.high - c.outer, c.high - c.inner}, true)
		checkPrices(t, sells, sold, g, -2*c.low-c.inner, []int64{c.low, c.low + c.inner})
		checkPrices(t, sells, sold, g, -2*c.low-c.outer, []int64{c.low + c.step, c.low + c.inner})
		checkPrices(t, sells, sold, g, -2*(c.low+c.inner), []int64{c.low + c.inner, c.low + c.inner})
		checkPrices(t, sells, sold, g, -2*(c.low+c.inner)-c.step, nil)
		checkRight(t, sells, sold, g, -2*c.low-c.inner-c.outer, []int64{c.low + c.inner, c.low + c.outer}, true)
	}
}

// TestP2001ACustomersPriceIsAMoveToo asks about a start that is passed over: it takes one of the moves.
func TestP2001ACustomersPriceIsAMoveToo(t *testing.T) {
	tt, l := []tops.Top{held(1, 40), held(1, 40)}, made(1, 1, 1, 2, -1, 1)
	checkPrices(t, l, tt, fine(2), 37, []int64{39, 2})
	checkPrices(t, l, tt, fine(2), 15, []int64{28, 13})
	checkPrices(t, l, tt, fine(2), 14, nil)
}

// TestP2001MovesOverSteps asks about grids on which a move is more or less from Step to Step.
func TestP2001MovesOverSteps(t *testing.T) {
	g := []grid.Table{{{From: 1, By: 5}, {From: 21, By: 2}}, {{From: 1, By: 1}, {From: 5, By: 10}}}
	tt, l := []tops.Top{span(6, 25), span(3, 25)}, made(1, 1, 1, 2, -1, 1)
	row := []int64{25, 23, 21, 16, 11, 6}
	for _, first := range row {
		checkPrices(t, l, tt, g, first-25, []int64{first, 25})
	}
	for net, want := range map[int64][]int64{22: {25, 3}, 21: {25, 4}, 20: {25, 5}, 19: {23, 4}, 10: {25, 15}, 1: {16, 15}, 0: {25, 25}, -1: nil, -2: {23, 25}, 23: nil} {
		checkPrices(t, l, tt, g, net, want)
	}
}

// TestP2001AStartThatIsNotOnItsGridGoesNowhere asks about tops beside the grid.
func TestP2001AStartThatIsNotOnItsGridGoesNowhere(t *testing.T) {
	g := []grid.Table{by(5), by(5)}
	l := made(1, 1, 1, 2, -1, 1)
	checkPrices(t, l, []tops.Top{span(6, 16), span(1, 11)}, g, 10, []int64{16, 6})
	for p := int64(1); p <= 11; p++ {
		bought, sold := []tops.Top{span(1, 10+p), span(1, 11)}, []tops.Top{span(6, 16), span(p, 16)}
		if p%5 == 1 {
			checkPrices(t, l, bought, g, 0, []int64{11, 11})
			checkPrices(t, l, sold, g, 5, []int64{16, 11})
			continue
		}
		checkPrices(t, l, bought, g, 0, nil)
		checkPrices(t, l, sold, g, 5, nil)
		checkRight(t, l, bought, g, 5, []int64{11, 6}, true)
		checkRight(t, l, sold, g, 5, []int64{16, 11}, true)
	}
	// a side that a leg doesn't start from may lie beside it
	checkPrices(t, l, []tops.Top{span(4, 16), span(1, 9)}, g, 0, []int64{6, 6})
	checkPrices(t, l, []tops.Top{span(4, 16), span(1, 9)}, g, 15, []int64{16, 1})
}

func TestP2001CountsThatAreNotAlike(t *testing.T) {
	for n := 2; n <= 4; n++ {
		l := made(1, 1, 1, 2, -1, 1, 3, 1, 1, 4, -1, 1)[:n]
		tt, g, prices := slices.Repeat([]tops.Top{span(10, 10)}, 7), fine(7), slices.Repeat([]int64{10}, 7)
		net := int64(n%2) * 10
		for a := range 8 {
			for b := range 8 {
				for c := range 8 {
					checkRight(t, l, tt[:a], g[:b], net, prices[:c], a == n && b == n && c == n)
				}
				var want []int64
				if a == n && b == n {
					want = prices[:n]
				}
				checkPrices(t, l, tt[:a], g[:b], net, want)
			}
		}
	}
}

// strange tells legs of which legs.Check refuses most.
func strange() [][]legs.Leg {
	out := [][]legs.Leg{nil, {}, made(1, 1, 1), made(1, 1, 1, 2, 1, 1, 3, 1, 1, 4, 1, 1, 5, 1, 1), make([]legs.Leg, 3), make([]legs.Leg, 5000)}
	few := []int64{0, 1, -1, 2, 4, 5, 1 << 32, most, least}
	for _, a := range few {
		for _, b := range few {
			for _, c := range few {
				out = append(out, made(a, b, c), made(a, b, c, 1, 1, 1), made(1, 1, 1, a, b, c), made(2, 1, 2, 7, -1, 4, c, b, a, 1, -1, 2))
			}
		}
	}
	return out
}

func TestP2001LegsThatCheckRefuses(t *testing.T) {
	refused := 0
	for _, l := range strange() {
		n, net := len(l), int64(0)
		tt, g, prices := slices.Repeat([]tops.Top{span(10, 10)}, n), fine(n), slices.Repeat([]int64{10}, n)
		for _, leg := range l {
			net += int64(leg.Sign) * leg.Ratio * 10
		}
		if legs.Check(l) == nil {
			checkPrices(t, l, tt, g, net, prices)
			continue
		}
		refused++
		for _, x := range []int64{net, 0} {
			checkPrices(t, l, tt, g, x, nil)
			checkRight(t, l, tt, g, x, prices, false)
		}
	}
	if refused < 1000 || refused > len(strange())-50 {
		t.Errorf("%d of %d were refused", refused, len(strange()))
	}
}

func TestP2001TopsThatLackASide(t *testing.T) {
	g := fine(2)
	for _, l := range [][]legs.Leg{made(1, 1, 1, 2, -1, 1), made(1, -1, 1, 2, 1, 1), made(1, 1, 1, 2, 1, 1), made(1, -1, 1, 2, -1, 1)} {
		net := int64(l[0].Sign)*10 + int64(l[1].Sign)*10
		prices := []int64{10, 10}
		checkPrices(t, l, []tops.Top{span(10, 10), span(10, 10)}, g, net, prices)
		for _, lacks := range []tops.Top{{}, {Bid: 10}, {Ask: 10}, {BidCust: true, AskCust: true}, {Bid: 10, BidQty: 5, AskQty: 5}, {Ask: 10, BidQty: 5, AskQty: 5}} {
			for _, tt := range [][]tops.Top{{lacks, span(10, 10)}, {span(10, 10), lacks}, {lacks, lacks}} {
				checkPrices(t, l, tt, g, net, nil)
				checkRight(t, l, tt, g, net, prices, false)
			}
		}
	}
}

// TestP2001QuantitiesAreNotAsked asks about tops alike but for how much there is.
func TestP2001QuantitiesAreNotAsked(t *testing.T) {
	l, g := made(1, 1, 1, 2, -1, 1), fine(2)
	for _, qty := range []int64{least, -1, 0, 1, 1000000, most} {
		tt := []tops.Top{{Bid: 10, BidQty: qty, Ask: 13, AskQty: qty}, {Bid: 4, BidQty: qty, Ask: 6, AskQty: qty}}
		checkPrices(t, l, tt, g, 8, []int64{13, 5})
		checkRight(t, l, tt, g, 6, []int64{10, 4}, true)
	}
}

// TestP2001TopsWhosePricesMayNotBe asks about sides below 1 and above 1000000; a start that may be is among them.
func TestP2001TopsWhosePricesMayNotBe(t *testing.T) {
	g := fine(2)
	for _, sign := range []int64{1, -1} {
		l := made(1, sign, 1, 2, 1, 1)
		low, high := span(1, 5), span(999995, 1000000)
		checkPrices(t, l, []tops.Top{low, span(3, 3)}, g, sign*3+3, []int64{3, 3})
		checkPrices(t, l, []tops.Top{high, span(3, 3)}, g, sign*999998+3, []int64{999998, 3})
		for _, bad := range []int64{0, -1, -1000000, least} {
			top := span(bad, 5)
			checkPrices(t, l, []tops.Top{top, span(3, 3)}, g, sign*3+3, nil)
			checkPrices(t, l, []tops.Top{top, span(3, 3)}, g, sign*5+3, nil)
			checkPrices(t, made(2, 1, 1, 1, sign, 1), []tops.Top{span(3, 3), top}, g, sign*3+3, nil)
		}
		for _, bad := range []int64{1000001, 1 << 32, most} {
			top := span(999995, bad)
			checkPrices(t, l, []tops.Top{top, span(3, 3)}, g, sign*999998+3, nil)
			checkPrices(t, l, []tops.Top{top, span(3, 3)}, g, sign*999995+3, nil)
			checkPrices(t, made(2, 1, 1, 1, sign, 1), []tops.Top{span(3, 3), top}, g, sign*999998+3, nil)
		}
		for _, top := range []tops.Top{span(5, 4), span(1000000, 1), span(-5, -1), span(1000001, 1000003)} {
			for _, p := range []int64{top.Bid, top.Ask} {
				checkPrices(t, l, []tops.Top{top, span(3, 3)}, g, sign*p+3, nil)
				checkRight(t, l, []tops.Top{top, span(3, 3)}, g, sign*p+3, []int64{p, 3}, false)
			}
		}
	}
}

func TestP2001NetAtItsBounds(t *testing.T) {
	g := fine(4)
	tt := slices.Repeat([]tops.Top{span(1000000, 1000000)}, 4)
	full := slices.Repeat([]int64{1000000}, 4)
	buys, sells := made(1, 1, 4, 2, 1, 4, 3, 1, 4, 4, 1, 4), made(1, -1, 4, 2, -1, 4, 3, -1, 4, 4, -1, 4)
	checkPrices(t, buys, tt, g, 16000000, full)
	checkPrices(t, sells, tt, g, -16000000, full)
	for _, net := range []int64{15999999, 16000001, -16000000, -16000001, 1 << 32, most, least, least + 16000000, most - 16000000} {
		checkPrices(t, buys, tt, g, net, nil)
		checkPrices(t, sells, tt, g, -net, nil)
		checkRight(t, buys, tt, g, net, full, false)
		checkRight(t, sells, tt, g, -net, full, false)
	}
}

// TestP2001PricesWhoseNetIsNoNumber asks Right of prices so great that nothing can be summed; 0 is not their net.
func TestP2001PricesWhoseNetIsNoNumber(t *testing.T) {
	l := made(1, 1, 4, 2, -1, 4)
	tt := []tops.Top{span(least, most), span(least, most)}
	for _, p := range []int64{least, -1 << 62, 1 << 62, most} {
		for _, net := range []int64{0, p, most, least} {
			checkRight(t, l, tt, fine(2), net, []int64{p, p}, false)
			checkRight(t, l, tt, fine(2), net, []int64{p, 1}, false)
			checkRight(t, l, tt, fine(2), net, []int64{1, p}, false)
		}
	}
}

// refusedGrids are grids that may not be: no price is on them.
func refusedGrids() []grid.Table {
	return []grid.Table{
		nil, {}, {{}}, make(grid.Table, 9), make(grid.Table, 1000),
		{{From: 1}}, {{From: 1, By: -1}}, {{From: 1, By: least}}, {{From: 2, By: 1}}, {{From: least, By: most}}, {{From: 1, By: 10001}},
		{{From: 1, By: 1}, {From: 1, By: 1}}, {{From: 1, By: 1}, {From: 5}}, {{From: 1, By: 5}, {From: 5, By: 5}},
		slices.Repeat(by(1), 9),
	}
}

func TestP2001GridsThatMayNotBe(t *testing.T) {
	l, tt := made(1, 1, 1, 2, -1, 1), []tops.Top{span(1, 5), span(1, 5)}
	for _, bad := range refusedGrids() {
		for _, g := range [][]grid.Table{{bad, by(1)}, {by(1), bad}, {bad, bad}} {
			for net := int64(-4); net <= 4; net++ {
				checkPrices(t, l, tt, g, net, nil)
			}
			checkRight(t, l, tt, g, 4, []int64{5, 1}, false)
			checkRight(t, l, tt, g, 0, []int64{1, 1}, false)
		}
	}
}

func TestP2001PricesIsThePlainReading(t *testing.T) {
	next := walk(1)
	met := map[string]int{}
	for i := range 9000 {
		n, wide := 2+int(next(2)), 30
		if i%3 == 0 {
			n, wide = 4, 7
		}
		l, tt, g := drawn(next, n, wide)
		net := drawnNet(next, l, tt)
		want := plainPrices(l, tt, g, net)
		checkPrices(t, l, tt, g, net, want)
		met[fmt.Sprint(n, " ", want != nil)]++
		if t.Failed() { // enough is told
			return
		}
	}
	for _, what := range []string{"2 true", "3 true", "4 true", "2 false", "3 false", "4 false"} {
		if met[what] < 200 {
			t.Errorf("only %d of %s", met[what], what)
		}
	}
}

func TestP2001RightIsThePlainReading(t *testing.T) {
	next := walk(11)
	rights := 0
	for range 30000 {
		l, tt, g := drawn(next, 2+int(next(3)), 9)
		var prices []int64
		net := next(3) / 2
		for i, leg := range l {
			low, high := min(tt[i].Bid, tt[i].Ask), max(tt[i].Bid, tt[i].Ask)
			p := low + next(int(high-low)+1)
			if next(20) == 0 {
				p = low - 1 + next(2)*(high-low+2)
			}
			prices = append(prices, p)
			net += int64(leg.Sign) * leg.Ratio * p
		}
		want := plainRight(l, tt, g, net, prices)
		checkRight(t, l, tt, g, net, prices, want)
		if want {
			rights++
		}
		if t.Failed() { // enough is told
			return
		}
	}
	if rights < 2000 {
		t.Errorf("only %d were right", rights)
	}
}

// TestT2WhatIsToldIsInAllLegs asks of what Prices tells each word of the theorem by itself.
func TestT2WhatIsToldIsInAllLegs(t *testing.T) {
	next := walk(2)
	told := 0
	for range 6000 {
		l, tt, g := drawn(next, 2+int(next(3)), 20)
		net := drawnNet(next, l, tt)
		prices, ok := Prices(l, tt, g, net)
		if !ok {
			continue
		}
		told++
		if sum, wrong := legs.Net(l, prices); len(prices) != len(l) || sum != net || wrong != api.OK {
			t.Errorf("%v of %v make %d, %v; want %d", prices, l, sum, wrong, net)
		}
		for i, p := range prices {
			if !g[i].On(p) || !tops.Inside(tt[i], p) || tt[i].AskCust && p == tt[i].Ask || tt[i].BidCust && p == tt[i].Bid {
				t.Errorf("leg %d of %v: %d, in %+v on %v", i, l, p, tt[i], g[i])
			}
		}
	}
	if told < 1000 {
		t.Errorf("only %d were told", told)
	}
}

// TestT2NothingThatCouldTradeIsLeftOut asks about tops no wider than the moves: all nets that some prices make are told, and no others.
func TestT2NothingThatCouldTradeIsLeftOut(t *testing.T) {
	next := walk(22)
	for range 60 {
		l, tt := drawnLegs(next, 2), []tops.Top{drawnTop(next, 13), drawnTop(next, 13)}
		nets := map[int64]bool{}
		for a := tt[0].Bid; a <= tt[0].Ask; a++ {
			for b := tt[1].Bid; b <= tt[1].Ask; b++ {
				net := int64(l[0].Sign)*l[0].Ratio*a + int64(l[1].Sign)*l[1].Ratio*b
				if Right(l, tt, fine(2), net, []int64{a, b}) {
					nets[net] = true
				}
			}
		}
		for net := int64(-500); net <= 500; net++ {
			if _, ok := Prices(l, tt, fine(2), net); ok != nets[net] {
				t.Errorf("Prices(%v, %v, .., %d): %v", l, tt, net, ok)
			}
		}
	}
}

// TestW4WhoSellsTellsTheTurned asks about the same prices of the legs turned: their net is turned, and nothing else.
func TestW4WhoSellsTellsTheTurned(t *testing.T) {
	next := walk(4)
	told := 0
	for range 4000 {
		l, tt, g := drawn(next, 2+int(next(3)), 12)
		net := drawnNet(next, l, tt)
		back := legs.Turned(l)
		prices, ok := Prices(l, tt, g, net)
		if ok {
			told++
			checkRight(t, back, tt, g, -net, prices, true)
			checkRight(t, back, tt, g, net, prices, net == 0)
		}
		checkPrices(t, back, tt, g, -net, plainPrices(back, tt, g, -net))
	}
	if told < 500 {
		t.Errorf("only %d were told", told)
	}
}

// strangeTops tells tops of which most may not be.
func strangeTops() []tops.Top {
	var out []tops.Top
	few := []int64{least, -1, 0, 1, 2, 13, 14, 999999, 1000000, 1000001, most}
	for _, a := range few {
		for _, b := range few {
			out = append(out, span(a, b), held(a, b))
		}
	}
	return out
}

// TestP1P4AnythingIsAnswered asks about what may not be too; beside a false there are no prices.
func TestP1P4AnythingIsAnswered(t *testing.T) {
	all, bad, few := strangeTops(), append(refusedGrids(), by(1), by(10000)), []int64{least, -1, 0, 1, 16000000, 16000001, most}
	for i, l := range append(strange(), made(1, 1, 1, 2, -1, 1), made(1, -1, 4, 2, -1, 4, 3, 1, 4, 4, -1, 4)) {
		for k := range 6 {
			var tt []tops.Top
			var g []grid.Table
			var p []int64
			for j := range l {
				at := i*7 + k*31 + j*5
				tt, g, p = append(tt, all[at%len(all)]), append(g, bad[at%len(bad)]), append(p, few[at%len(few)])
			}
			for _, net := range few {
				if prices, ok := Prices(l, tt, g, net); !ok && prices != nil {
					t.Errorf("%v beside a false", prices)
				}
				Right(l, tt, g, net, p)
				Prices(l, tt, nil, net)
				Prices(l, nil, g, net)
				Right(l, nil, g, net, p)
				Right(l, tt, nil, net, p)
				Right(l, tt, g, net, nil)
			}
		}
	}
	for _, one := range all { // all pairs of tops on a grid, at their own prices
		for _, other := range all {
			tt, l := []tops.Top{one, other}, made(1, 1, 4, 2, -1, 1)
			prices, ok := Prices(l, tt, fine(2), 4*one.Ask-other.Bid)
			if !ok && prices != nil || ok && !Right(l, tt, fine(2), 4*one.Ask-other.Bid, prices) {
				t.Errorf("%v, %v of %v", prices, ok, tt)
			}
		}
	}
}

// TestP1TheMostRowsEnd asks for a net that no row of four legs' moves makes.
func TestP1TheMostRowsEnd(t *testing.T) {
	tt := slices.Repeat([]tops.Top{span(100, 200)}, 4)
	l := made(1, 1, 2, 2, -1, 2, 3, 1, 4, 4, -1, 4)
	for net := int64(1); net < 200; net += 2 {
		checkPrices(t, l, tt, fine(4), net, nil)
	}
}

// spoil writes over all of a list, its spare room too.
func spoil[T any](l []T, bad T) {
	l = l[:cap(l)]
	for i := range l {
		l[i] = bad
	}
}

// roomy tells a copy of l with spare room behind it, and the whole of that memory.
func roomy[T any](l []T) (view, whole []T) {
	whole = make([]T, len(l)+6)
	copy(whole, l)
	return whole[:len(l)], whole
}

func TestP2ListsStayAsTheyAreAndAreNotKept(t *testing.T) {
	next := walk(2222)
	for range 2000 {
		l, tt, g := drawn(next, 2+int(next(3)), 9)
		net := drawnNet(next, l, tt)
		want := plainPrices(l, tt, g, net)
		vl, wl := roomy(l)
		vt, wt := roomy(tt)
		steps, ws := roomy(g[0])
		vg, wg := roomy(append([]grid.Table{steps}, g[1:]...))
		vp, wp := roomy(append(slices.Clone(want), make([]int64, len(l)-len(want))...))
		wereL, wereT, wereS, wereP := slices.Clone(wl), slices.Clone(wt), slices.Clone(ws), slices.Clone(wp)
		got, ok := Prices(vl, vt, vg, net)
		right := Right(vl, vt, vg, net, vp)
		if !slices.Equal(wl, wereL) || !slices.Equal(wt, wereT) || !slices.Equal(ws, wereS) || !slices.Equal(wp, wereP) {
			t.Fatalf("%v, %v, %v, %v are changed", l, tt, g, vp)
		}
		if len(wg[0]) != len(steps) || &wg[0][0] != &ws[0] || slices.ContainsFunc(wg[len(g):], func(g grid.Table) bool { return g != nil }) {
			t.Fatalf("the grids are changed: %v", wg)
		}
		spoil(wl, legs.Leg{Series: -9, Sign: -9, Ratio: -9})
		spoil(wt, span(-9, -9))
		spoil(ws, grid.Step{From: -9, By: -9})
		spoil(wg, nil)
		spoil(wp, -9)
		if !slices.Equal(got, want) || ok != (want != nil) || right != ok {
			t.Fatalf("%v is of what was handed in, %v, %v; want %v", got, ok, right, want)
		}
		checkPrices(t, l, tt, g, net, want)
	}
}

func TestP2AnswersAreNewMemory(t *testing.T) {
	next := walk(222)
	for range 2000 {
		l, tt, g := drawn(next, 2+int(next(3)), 9)
		net := drawnNet(next, l, tt)
		one, _ := Prices(l, tt, g, net)
		two, _ := Prices(l, tt, g, net)
		told := slices.Clone(two)
		spoil(one, -9)
		if !slices.Equal(two, told) {
			t.Errorf("two answers of Prices(%v, %v, %v, %d) share memory", l, tt, g, net)
		}
		checkPrices(t, l, tt, g, net, told)
	}
}

// asked tells all that is answered to a long row of calls.
func asked() string {
	next := walk(3)
	var out []byte
	for range 3000 {
		l, tt, g := drawn(next, 2+int(next(3)), 14)
		net := drawnNet(next, l, tt)
		prices, ok := Prices(l, tt, g, net)
		out = fmt.Append(out, prices, ok, Right(l, tt, g, net, prices), Right(l, tt, g, net, []int64{next(40), next(40)}), "\n")
	}
	return string(out)
}

func TestP3TheSameCallsAnswerTheSame(t *testing.T) {
	first := asked()
	for range 3 {
		if asked() != first {
			t.Error("the same calls answer otherwise")
		}
	}
}

// TestP9OfRowsAsGoodTheFirstIsTaken asks for nets that many rows make: no row ahead of the one told is right.
func TestP9OfRowsAsGoodTheFirstIsTaken(t *testing.T) {
	next := walk(9)
	others := 0
	for range 1000 {
		l, tt, g := drawn(next, 3, 12)
		net := drawnNet(next, l, tt)
		got, ok := Prices(l, tt, g, net)
		if !ok {
			continue
		}
		ahead := true
		for _, row := range plainRows(l, tt, g) {
			right := Right(l, tt, g, net, row)
			switch {
			case slices.Equal(row, got):
				ahead = false
			case right && ahead:
				t.Errorf("%v is ahead of %v", row, got)
			case right:
				others++
			}
		}
		if ahead {
			t.Errorf("%v is no row of moves", got)
		}
	}
	if others < 500 {
		t.Errorf("only %d others were as good", others)
	}
}
