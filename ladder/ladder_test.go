package ladder

import (
	"fmt"
	"math"
	"slices"
	"strings"
	"testing"

	"straddle/api"
)

const (
	most  = math.MaxInt64
	least = math.MinInt64
	full  = 1 << 40 // what a level has at most
)

// sides are Buy, Sell, and numbers that are no side.
func sides() []int {
	return []int{api.Buy, api.Sell, 0, -1, 3, least, most, 1<<32 + 1}
}

// strange are numbers that are neither prices nor quantities.
func strange() []int64 {
	return []int64{least, least + 1, -(1 << 32), -1000000, -2, -1, 0, 1000001, 1 << 32, 1<<32 + 5, full, 1 << 62, most - 1, most}
}

// look tells all that can be asked of a ladder whose prices are up to 12.
func look(l *Ladder) string {
	var b strings.Builder
	best, ok := l.Best()
	fmt.Fprintln(&b, "best", best, ok, "row", l.Row())
	prices := append(strange(), 999999, 1000000)
	for p := range int64(14) {
		prices = append(prices, p)
	}
	for _, p := range prices {
		v, ok := l.At(p)
		fmt.Fprintln(&b, "price", p, v, ok, l.Within(p), l.Better(p, 6), l.Better(6, p))
	}
	return b.String()
}

// made tells a ladder into which these levels were put, order by order.
func made(t *testing.T, side int, levels ...Level) *Ladder {
	t.Helper()
	l := New(side)
	if l == nil {
		t.Fatalf("New(%d): nil", side)
	}
	for _, v := range levels {
		for range v.N - 1 {
			checkPut(t, l, v.Price, 1, api.OK)
		}
		checkPut(t, l, v.Price, v.Qty-int64(v.N-1), api.OK)
	}
	return l
}

// checkPut asks whether Put answers so; if it refuses, whether it changes nothing.
func checkPut(t *testing.T, l *Ladder, price, qty int64, want api.Errno) {
	t.Helper()
	was := ""
	if want != api.OK {
		was = look(l)
	}
	if err := l.Put(price, qty); err != want {
		t.Errorf("side %d: Put(%d, %d): %v; want %v", l.side, price, qty, err, want)
	}
	if want != api.OK && look(l) != was {
		t.Errorf("side %d: Put(%d, %d), refused, changed something: %s; was %s", l.side, price, qty, look(l), was)
	}
}

// checkTake asks whether Take answers so; if it refuses, whether it changes nothing.
func checkTake(t *testing.T, l *Ladder, price, qty int64, whole bool, want api.Errno) {
	t.Helper()
	was := look(l)
	if err := l.Take(price, qty, whole); err != want {
		t.Errorf("side %d: Take(%d, %d, %v): %v; want %v", l.side, price, qty, whole, err, want)
	}
	if want != api.OK && look(l) != was {
		t.Errorf("side %d: Take(%d, %d, %v), refused, changed something: %s; was %s", l.side, price, qty, whole, look(l), was)
	}
}

// checkRow asks whether these are a ladder's levels, the best first, by Row, Best, At and Within.
func checkRow(t *testing.T, l *Ladder, want ...Level) {
	t.Helper()
	if got := l.Row(); !slices.Equal(got, want) {
		t.Errorf("side %d: Row: %v; want %v", l.side, got, want)
	}
	first, sum := Level{}, int64(0)
	for i, v := range want {
		if i == 0 {
			first = v
		}
		sum += v.Qty
		if got, ok := l.At(v.Price); got != v || !ok {
			t.Errorf("side %d: At(%d): %v, %v; want %v", l.side, v.Price, got, ok, v)
		}
		if got := l.Within(v.Price); got != sum {
			t.Errorf("side %d: Within(%d): %d; want %d", l.side, v.Price, got, sum)
		}
	}
	if got, ok := l.Best(); got != first || ok != (len(want) > 0) {
		t.Errorf("side %d: Best: %v, %v; want %v", l.side, got, ok, first)
	}
}

// turned tells levels that rise by price in a side's order.
func turned(side int, levels ...Level) []Level {
	if side == api.Buy {
		slices.Reverse(levels)
	}
	return levels
}

func TestP1001ANewOneIsEmpty(t *testing.T) {
	for _, side := range sides() {
		l := made(t, side)
		checkRow(t, l)
		for _, p := range append(strange(), 1, 2, 999999, 1000000) {
			if v, ok := l.At(p); v != (Level{}) || ok || l.Within(p) != 0 {
				t.Errorf("side %d: At(%d): %v, %v; Within: %d", side, p, v, ok, l.Within(p))
			}
			for _, whole := range []bool{false, true} {
				checkTake(t, l, p, 1, whole, api.ErrName)
				checkTake(t, l, p, 0, whole, api.ErrName)
			}
		}
	}
}

func TestP1001Better(t *testing.T) {
	numbers := append(strange(), 1, 2, 3, 500, 999999, 1000000)
	for _, side := range sides() {
		l := New(side)
		for _, a := range numbers {
			for _, b := range numbers {
				want := a < b
				if side == api.Buy {
					want = a > b
				}
				if got := l.Better(a, b); got != want {
					t.Errorf("side %d: Better(%d, %d): %v", side, a, b, got)
				}
			}
		}
	}
}

// turns tells prices in each of their orders.
func turns(prices []int64) [][]int64 {
	if len(prices) == 0 {
		return [][]int64{nil}
	}
	var all [][]int64
	for i, first := range prices {
		for _, rest := range turns(slices.Delete(slices.Clone(prices), i, i+1)) {
			all = append(all, append([]int64{first}, rest...))
		}
	}
	return all
}

func TestP1001LevelsStandInTheirOrder(t *testing.T) {
	for _, side := range sides() {
		want := turned(side, Level{1, 10, 1}, Level{2, 20, 1}, Level{7, 70, 1}, Level{999999, 9, 1}, Level{1000000, 1000000, 1})
		for _, turn := range turns([]int64{1, 2, 7, 999999, 1000000}) {
			l := made(t, side)
			for _, p := range turn {
				checkPut(t, l, p, map[int64]int64{1: 10, 2: 20, 7: 70, 999999: 9, 1000000: 1000000}[p], api.OK)
			}
			checkRow(t, l, want...)
			left := slices.Clone(want)
			for _, p := range turn { // and are taken in each order, too
				v, _ := l.At(p)
				checkTake(t, l, p, v.Qty, true, api.OK)
				left = slices.DeleteFunc(left, func(v Level) bool { return v.Price == p })
				checkRow(t, l, left...)
			}
		}
	}
}

func TestP1001PutAtItsBounds(t *testing.T) {
	may := []int64{1, 2, 500, 999999, 1000000}
	for _, side := range sides() {
		for _, p := range append(strange(), may...) {
			for _, q := range append(strange(), may...) {
				l := made(t, side, Level{4, 6, 2})
				if !slices.Contains(may, p) || !slices.Contains(may, q) {
					checkPut(t, l, p, q, api.ErrArg)
					continue
				}
				checkPut(t, l, p, q, api.OK)
				checkRow(t, l, turnedTwo(side, Level{4, 6, 2}, Level{p, q, 1})...)
			}
		}
	}
}

// turnedTwo tells two levels in a side's order.
func turnedTwo(side int, a, b Level) []Level {
	if (a.Price > b.Price) == (side == api.Buy) {
		return []Level{a, b}
	}
	return []Level{b, a}
}

func TestP1001PutCountsOrders(t *testing.T) {
	for _, side := range sides() {
		l := made(t, side)
		for _, c := range [][2]int64{{9, 4}, {3, 1}, {9, 2}, {9, 2}, {3, 1000000}, {7, 5}, {9, 1}} {
			checkPut(t, l, c[0], c[1], api.OK)
		}
		checkRow(t, l, turned(side, Level{3, 1000001, 2}, Level{7, 5, 1}, Level{9, 9, 4})...)
	}
}

// pour puts orders at a price where none is, till they have so much together, and tells the level.
func pour(t *testing.T, l *Ladder, price, qty int64) Level {
	t.Helper()
	want := Level{Price: price}
	for want.Qty < qty {
		part := min(qty-want.Qty, 1000000)
		err := l.Put(price, part)
		want.Qty, want.N = want.Qty+part, want.N+1
		if v, ok := l.At(price); err != api.OK || v != want || !ok {
			t.Fatalf("side %d: Put(%d, %d): %v; %v; want %v", l.side, price, part, err, v, want)
		}
	}
	return want
}

// filled tells a ladder whose level of price 5 has all that a level may have.
func filled(t *testing.T, side int) (*Ladder, Level) {
	t.Helper()
	l := made(t, side, Level{4, 8, 2}, Level{6, 9, 3})
	return l, pour(t, l, 5, full)
}

func TestP1001ALevelIsFullAt2To40(t *testing.T) {
	for _, side := range []int{api.Buy, api.Sell, 0} {
		l, v := filled(t, side)
		checkRow(t, l, turned(side, Level{4, 8, 2}, v, Level{6, 9, 3})...)
		for _, qty := range []int64{1, 2, 627776, 1000000} {
			checkPut(t, l, 5, qty, api.ErrRange)
		}
		for _, qty := range strange() {
			checkPut(t, l, 5, qty, api.ErrArg) // and not ErrRange: it is named first
		}
		for _, p := range strange() {
			checkPut(t, l, p, 1000000, api.ErrArg)
		}
		checkPut(t, l, 4, 1000000, api.OK) // its neighbours have room
		checkPut(t, l, 6, 1, api.OK)
		checkTake(t, l, 5, 7, false, api.OK)
		for _, qty := range []int64{8, 9, 1000000} {
			checkPut(t, l, 5, qty, api.ErrRange)
		}
		checkPut(t, l, 5, 7, api.OK)
		checkPut(t, l, 5, 1, api.ErrRange)
		checkTake(t, l, 5, 1, true, api.OK)
		checkPut(t, l, 5, 2, api.ErrRange)
		checkPut(t, l, 5, 1, api.OK)
		v.N++ // one more than it was: the 7 that came back
		checkRow(t, l, turned(side, Level{4, 1000008, 3}, v, Level{6, 10, 4})...)
		checkTake(t, l, 5, full+1, false, api.ErrArg)
		checkTake(t, l, 5, full, false, api.ErrArg)
		checkTake(t, l, 5, full, true, api.ErrArg)
		checkTake(t, l, 5, full-1, true, api.OK)
		checkRow(t, l, turned(side, Level{4, 1000008, 3}, Level{5, 1, v.N - 1}, Level{6, 10, 4})...)
	}
}

func TestP1001WithinSumsFullLevels(t *testing.T) {
	for _, side := range []int{api.Buy, api.Sell} {
		l, five := filled(t, side)
		seven := pour(t, l, 7, full)
		checkRow(t, l, turned(side, Level{4, 8, 2}, five, Level{6, 9, 3}, seven)...)
		if got := l.Within(map[int]int64{api.Buy: least, api.Sell: most}[side]); got != 2*full+17 {
			t.Errorf("side %d: Within all: %d", side, got)
		}
	}
}

func TestP1001TakeALittle(t *testing.T) {
	for _, side := range sides() {
		l := made(t, side, Level{3, 1, 1}, Level{7, 5, 1}, Level{9, 6, 2})
		for _, c := range []struct {
			price, qty int64
			whole      bool
			left       Level
		}{{9, 0, false, Level{9, 6, 2}}, {9, 2, false, Level{9, 4, 2}}, {9, 3, true, Level{9, 1, 1}}, {9, 0, false, Level{9, 1, 1}}} {
			checkTake(t, l, c.price, c.qty, c.whole, api.OK)
			checkRow(t, l, turned(side, Level{3, 1, 1}, Level{7, 5, 1}, c.left)...)
		}
		checkTake(t, l, 7, 4, false, api.OK)
		checkRow(t, l, turned(side, Level{3, 1, 1}, Level{7, 1, 1}, Level{9, 1, 1})...)
	}
}

func TestP1001ALevelOfNoOrderIsGone(t *testing.T) {
	for _, side := range sides() {
		l := made(t, side, Level{3, 1, 1}, Level{7, 5, 2}, Level{9, 6, 1})
		checkTake(t, l, 7, 2, true, api.OK)
		checkTake(t, l, 7, 3, true, api.OK)
		checkRow(t, l, turned(side, Level{3, 1, 1}, Level{9, 6, 1})...)
		if v, ok := l.At(7); v != (Level{}) || ok {
			t.Errorf("side %d: At(7), gone: %v, %v", side, v, ok)
		}
		for _, whole := range []bool{false, true} {
			checkTake(t, l, 7, 0, whole, api.ErrName)
			checkTake(t, l, 7, 3, whole, api.ErrName)
		}
		checkTake(t, l, 9, 6, true, api.OK)
		checkTake(t, l, 3, 1, true, api.OK)
		checkRow(t, l)
		checkPut(t, l, 7, 4, api.OK) // anew: nothing is left of what was there
		checkRow(t, l, Level{7, 4, 1})
	}
}

func TestP1001TakeRefusesInOrder(t *testing.T) {
	for _, side := range sides() {
		l := made(t, side, Level{3, 1, 1}, Level{7, 5, 1}, Level{9, 6, 2}, Level{10, 2, 2})
		for _, whole := range []bool{false, true} {
			for _, p := range append(strange(), 1, 2, 4, 8, 11, 1000000) { // the name goes ahead of the quantity
				for _, q := range append(strange(), 1, 2, 6, 1000000) {
					checkTake(t, l, p, q, whole, api.ErrName)
				}
			}
			for _, p := range []int64{3, 7, 9, 10} {
				v, _ := l.At(p)
				for _, q := range append(strange(), v.Qty+1, v.Qty+2) {
					if q != 0 {
						checkTake(t, l, p, q, whole, api.ErrArg)
					}
				}
			}
		}
	}
}

func TestP1001TakeLeavesBothOrNone(t *testing.T) {
	for _, side := range sides() {
		l := made(t, side, Level{7, 5, 1}, Level{9, 6, 2})
		for q := range int64(5) { // the only order, and not all of it
			checkTake(t, l, 7, q, true, api.ErrArg)
		}
		checkTake(t, l, 7, 5, false, api.ErrArg) // all of it, and not the order
		checkTake(t, l, 9, 6, false, api.ErrArg)
		checkTake(t, l, 9, 6, true, api.ErrArg) // all of it, and one order of two
		checkTake(t, l, 9, 0, true, api.OK)     // one order of two, and nothing of it
		checkRow(t, l, turned(side, Level{7, 5, 1}, Level{9, 6, 1})...)
		checkTake(t, l, 9, 0, true, api.ErrArg)
		checkTake(t, l, 9, 6, true, api.OK)
		checkRow(t, l, Level{7, 5, 1})
	}
}

func TestP1001Within(t *testing.T) {
	for _, side := range sides() {
		l := made(t, side, Level{3, 1, 1}, Level{7, 5, 1}, Level{9, 6, 2})
		for _, c := range []struct{ price, rising, falling int64 }{
			{least, 0, 12}, {-1, 0, 12}, {0, 0, 12}, {1, 0, 12}, {2, 0, 12}, {3, 1, 12}, {4, 1, 11}, {6, 1, 11}, {7, 6, 11},
			{8, 6, 6}, {9, 12, 6}, {10, 12, 0}, {1000000, 12, 0}, {1000001, 12, 0}, {most, 12, 0},
		} {
			want := c.rising
			if side == api.Buy {
				want = c.falling
			}
			if got := l.Within(c.price); got != want {
				t.Errorf("side %d: Within(%d): %d; want %d", side, c.price, got, want)
			}
		}
	}
}

// plain is levels as the promise tells them, with nothing in order.
type plain struct {
	side   int
	levels map[int64]Level
}

func (m *plain) put(price, qty int64) api.Errno {
	if price < 1 || price > 1000000 || qty < 1 || qty > 1000000 {
		return api.ErrArg
	}
	v := m.levels[price]
	if v.Qty+qty > full {
		return api.ErrRange
	}
	m.levels[price] = Level{price, v.Qty + qty, v.N + 1}
	return api.OK
}

func (m *plain) take(price, qty int64, whole bool) api.Errno {
	v, ok := m.levels[price]
	if !ok {
		return api.ErrName
	}
	if qty < 0 || qty > v.Qty {
		return api.ErrArg
	}
	v.Qty -= qty
	if whole {
		v.N--
	}
	if v.Qty == 0 && v.N != 0 || v.Qty != 0 && v.N == 0 {
		return api.ErrArg
	}
	m.levels[price] = v
	if v.N == 0 {
		delete(m.levels, price)
	}
	return api.OK
}

// row tells all levels, sought one by one from the best price on.
func (m *plain) row() []Level {
	var l []Level
	for p := range int64(14) {
		if v, ok := m.levels[p]; ok {
			l = append(l, v)
		}
	}
	return turned(m.side, l...)
}

// checkPlain asks whether l tells what m does, of prices up to 13.
func checkPlain(t *testing.T, l *Ladder, m *plain) {
	t.Helper()
	checkRow(t, l, m.row()...)
	for p := int64(-1); p < 15; p++ {
		sum := int64(0)
		for _, v := range m.levels {
			if v.Price == p || (v.Price > p) == (m.side == api.Buy) {
				sum += v.Qty
			}
		}
		if got := l.Within(p); got != sum {
			t.Fatalf("side %d: Within(%d): %d; want %d of %v", m.side, p, got, sum, m.levels)
		}
		want, there := m.levels[p]
		if got, ok := l.At(p); got != want || ok != there {
			t.Fatalf("side %d: At(%d): %v, %v; want %v, %v", m.side, p, got, ok, want, there)
		}
	}
}

func TestP1001IsThePlainReading(t *testing.T) {
	state := uint32(1)
	next := func(n int) int64 {
		state = state*1664525 + 1013904223
		return int64(state>>8) % int64(n)
	}
	found := map[string]int{}
	for n := range 400 {
		side := sides()[n%len(sides())]
		l, m := made(t, side), &plain{side, map[int64]Level{}}
		prices := 4 + int(next(11))
		for range 120 {
			p, q := next(prices)-1, next(6)-1
			if next(2) == 0 {
				got, want := l.Put(p, q), m.put(p, q)
				if got != want {
					t.Fatalf("side %d: Put(%d, %d): %v; want %v", side, p, q, got, want)
				}
				found["put "+got.Error()]++
			} else {
				whole := next(2) == 0
				if next(3) == 0 { // all of it, oftener than by chance
					q = m.levels[p].Qty
				}
				got, want := l.Take(p, q, whole), m.take(p, q, whole)
				if got != want {
					t.Fatalf("side %d: Take(%d, %d, %v): %v; want %v", side, p, q, whole, got, want)
				}
				found["take "+got.Error()]++
			}
			checkPlain(t, l, m)
		}
	}
	for _, what := range []string{"put ok", "put arg", "take ok", "take arg", "take name"} {
		if found[what] < 1000 {
			t.Errorf("only %d of %s", found[what], what)
		}
	}
}

func TestP1001ManyLevels(t *testing.T) {
	for _, side := range []int{api.Buy, api.Sell} {
		l := made(t, side)
		var want []Level
		for n := range int64(5000) {
			p := 1 + n*7919%5000*200 // each of 1, 201, .. once
			checkPut(t, l, p, 1+n, api.OK)
			want = append(want, Level{p, 1 + n, 1})
		}
		slices.SortFunc(want, func(a, b Level) int { return int(a.Price - b.Price) })
		checkRow(t, l, turned(side, want...)...)
	}
}

func TestP1AnyNumbersAreAnswered(t *testing.T) {
	wide := append(strange(), 1, 2, 5, 6, 999999, 1000000)
	for _, side := range sides() {
		l := New(side)
		for range 3 {
			for _, p := range wide {
				for _, q := range wide {
					l.Put(p, q)
					l.Take(p, q, false)
					l.Take(q, p, true)
					l.Better(p, q)
				}
				l.Within(p)
				l.At(p)
			}
			l.Best()
			l.Row()
		}
	}
}

func TestP2AnswersAreNewMemory(t *testing.T) {
	for _, side := range sides() {
		l := made(t, side, Level{3, 1, 1}, Level{7, 5, 1}, Level{9, 6, 2}, Level{11, 6, 2})
		checkTake(t, l, 7, 5, true, api.OK) // so that there is spare room
		was := look(l)
		lists := [][]Level{l.Row(), l.Row(), made(t, side).Row(), l.Row()}
		for i, row := range lists {
			before := fmt.Sprint(slices.Delete(slices.Clone(lists), i, i+1))
			whole := row[:cap(row)]
			for k := range whole {
				whole[k] = Level{-9, -9, -9}
			}
			if after := fmt.Sprint(slices.Delete(slices.Clone(lists), i, i+1)); after != before {
				t.Errorf("side %d: two lists share memory: %s; was %s", side, after, before)
			}
		}
		if look(l) != was {
			t.Errorf("side %d: what is kept changes with what was answered: %s; was %s", side, look(l), was)
		}
		row := l.Row()
		kept := slices.Clone(row)
		checkPut(t, l, 3, 5, api.OK)
		checkPut(t, l, 8, 5, api.OK)
		checkTake(t, l, 11, 2, true, api.OK)
		if !slices.Equal(row, kept) {
			t.Errorf("side %d: what was answered changes with what is kept: %v; was %v", side, row, kept)
		}
	}
}

// run tells what a ladder answers to some calls, with something else ahead of each.
func run(side int, ahead func(l *Ladder)) string {
	var b strings.Builder
	l := New(side)
	for n := range int64(60) {
		ahead(l)
		fmt.Fprintln(&b, l.Put(1+n*5%9, 1+n%4), look(l))
		ahead(l)
		if n%4 > 0 {
			fmt.Fprintln(&b, l.Take(1+n*7%9, n%3, n%2 == 0), look(l))
		}
		if best, ok := l.Best(); ok && n%6 == 5 {
			fmt.Fprintln(&b, l.Take(best.Price, best.Qty, true), look(l))
		}
	}
	return b.String()
}

func TestP3TheSameCallsAnswerTheSame(t *testing.T) {
	for _, side := range sides() {
		first := run(side, func(*Ladder) {})
		for range 3 {
			if told := run(side, func(*Ladder) {}); told != first {
				t.Fatalf("side %d: %s; the first time %s", side, told, first)
			}
		}
	}
}

func TestP5WhatIsRefusedOrAskedChangesNothing(t *testing.T) {
	for _, side := range []int{api.Buy, api.Sell, 0} {
		want := run(side, func(*Ladder) {})
		for what, ahead := range map[string]func(l *Ladder){
			"a Put of no price":    func(l *Ladder) { l.Put(0, 1); l.Put(1000001, 1); l.Put(least, 1) },
			"a Put of no quantity": func(l *Ladder) { l.Put(5, 0); l.Put(5, -1); l.Put(6, 1000001); l.Put(6, most) },
			"a Take of no level":   func(l *Ladder) { l.Take(12, 0, true); l.Take(12, 1, false); l.Take(0, 0, true) },
			"a Take of too much or too little": func(l *Ladder) {
				for p := range int64(12) {
					v, _ := l.At(p)
					l.Take(p, v.Qty+1, true)
					l.Take(p, -1, false)
					l.Take(p, v.Qty, false)
				}
			},
			"a Take of nothing": func(l *Ladder) {
				for p := range int64(12) {
					l.Take(p, 0, false)
				}
			},
			"asking": func(l *Ladder) { look(l) },
			"a New": func(*Ladder) {
				other := New(side)
				other.Put(5, 99)
				New(-1).Put(5, 1)
			},
		} {
			if got := run(side, ahead); got != want {
				t.Errorf("side %d: %s changed something", side, what)
			}
		}
	}
}

func TestP7NewLaddersAreTheCallersOwn(t *testing.T) {
	for _, side := range sides() {
		l, other := made(t, side), made(t, side)
		checkPut(t, l, 5, 7, api.OK)
		if l == other {
			t.Errorf("side %d: one ladder for two", side)
		}
		checkRow(t, other)
		checkPut(t, other, 6, 8, api.OK)
		checkRow(t, l, Level{5, 7, 1})
		checkRow(t, other, Level{6, 8, 1})
	}
}
