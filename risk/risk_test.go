package risk

import (
	"errors"
	"fmt"
	"math"
	"math/big"
	"strings"
	"testing"

	"straddle/api"
)

const (
	most  = math.MaxInt64
	least = math.MinInt64
	half  = 1 << 50 // the most that Notional may be
)

// few are limits that a few orders reach; wide are the greatest that may be.
var (
	few  = Limits{Qty: 10, Notional: 100, Orders: 3}
	wide = Limits{Qty: 1000000, Notional: half, Orders: 4096}
)

// owners are any numbers; of some the lower halves are the same.
func owners() []int { return []int{0, 1, 2, 64, -1, -64, 1 << 32, 1<<32 + 1, most, least} }

// numbers are of what may be, about the ends of it, and far beyond; of some the products wrap round to what may be.
func numbers() []int64 {
	return []int64{
		0, 1, 2, 3, 4, 5, 9, 10, 11, 100, 101, 4096, 999999, 1000000, 1000001, half - 1, half, half + 1,
		1 << 32, 1<<32 + 1, 1 << 61, 1 << 62, 1<<62 + 1, most/2 + 1, most - 1, most, -1, -2, -10, -1000000, -1 << 32, least / 2, least + 1, least,
	}
}

// verdict is what a call answers: OK and the place 0 if nothing is wrong.
type verdict struct {
	at  int
	err api.Errno
}

var fine = verdict{0, api.OK}

// plain is a Desk as the promise tells it, in numbers of any size.
type plain struct {
	limits Limits
	orders map[int]int
	open   map[int]*big.Int
}

func newPlain(l Limits) *plain { return &plain{l, map[int]int{}, map[int]*big.Int{}} }

// times tells a price times a quantity.
func times(price, qty int64) *big.Int {
	return new(big.Int).Mul(big.NewInt(price), big.NewInt(qty))
}

// of tells what an owner has open.
func (p *plain) of(owner int) *big.Int {
	if p.open[owner] == nil {
		p.open[owner] = new(big.Int)
	}
	return p.open[owner]
}

// wrongs tells all that the promise finds wrong with an order, in its order.
func (p *plain) wrongs(owner int, price, qty int64) []verdict {
	var w []verdict
	if qty < 1 || price < 0 {
		w = append(w, verdict{0, api.ErrArg})
	}
	if qty > p.limits.Qty {
		w = append(w, verdict{0, api.ErrRange})
	}
	if new(big.Int).Add(p.of(owner), times(price, qty)).Cmp(big.NewInt(p.limits.Notional)) > 0 {
		w = append(w, verdict{1, api.ErrRange})
	}
	if int64(p.orders[owner]) >= p.limits.Orders {
		w = append(w, verdict{2, api.ErrFull})
	}
	return w
}

func (p *plain) ask(owner int, price, qty int64) verdict {
	return append(p.wrongs(owner, price, qty), fine)[0]
}

func (p *plain) opens(owner int, price, qty int64) verdict {
	v := p.ask(owner, price, qty)
	if v == fine {
		p.orders[owner]++
		p.of(owner).Add(p.of(owner), times(price, qty))
	}
	return v
}

func (p *plain) closes(owner int, price, qty int64, whole bool) api.Errno {
	if price < 0 || qty < 0 || times(price, qty).Cmp(p.of(owner)) > 0 || whole && p.orders[owner] == 0 {
		return api.ErrArg
	}
	p.of(owner).Sub(p.of(owner), times(price, qty))
	if whole {
		p.orders[owner]--
	}
	return api.OK
}

// walk tells numbers of 0 to n - 1, the same ones of the same seed.
func walk(seed uint32) func(n int) int {
	return func(n int) int {
		seed = seed*1664525 + 1013904223
		return int(seed>>8) % n
	}
}

func made(t *testing.T, l Limits) *Desk {
	t.Helper()
	d, err := New(l)
	if d == nil || err != api.OK {
		t.Fatalf("New(%+v): %v", l, err)
	}
	return d
}

// filled tells a desk where an owner has so many orders open, of that price and quantity each.
func filled(t *testing.T, l Limits, owner, orders int, price, qty int64) *Desk {
	t.Helper()
	d := made(t, l)
	for range orders {
		checkOpen(t, d, owner, price, qty, fine)
	}
	return d
}

// checkFault asks whether err is what v says: none, or a Fault of risk at its place that wraps its number itself.
func checkFault(t *testing.T, what string, err error, v verdict) {
	t.Helper()
	if v == fine {
		if err != nil {
			t.Errorf("%s: %v; want nothing", what, err)
		}
		return
	}
	f, ok := err.(*api.Fault)
	if !ok || f == nil || f.Part != "risk" || f.At != v.at || f.Err != error(v.err) {
		t.Errorf("%s: %v; want risk %d: %v", what, err, v.at, v.err)
	}
}

// The calls, each held against what it should tell.

func checkAsk(t *testing.T, d *Desk, owner int, price, qty int64, v verdict) {
	t.Helper()
	checkFault(t, fmt.Sprintf("Ask(%d, %d, %d)", owner, price, qty), d.Ask(owner, price, qty), v)
}

func checkOpen(t *testing.T, d *Desk, owner int, price, qty int64, v verdict) {
	t.Helper()
	checkFault(t, fmt.Sprintf("Open(%d, %d, %d)", owner, price, qty), d.Open(owner, price, qty), v)
}

func checkClose(t *testing.T, d *Desk, owner int, price, qty int64, whole bool, want api.Errno) {
	t.Helper()
	if got := d.Close(owner, price, qty, whole); got != want {
		t.Errorf("Close(%d, %d, %d, %v): %v; want %v", owner, price, qty, whole, got, want)
	}
}

func checkUsed(t *testing.T, d *Desk, owner int, orders, notional int64) {
	t.Helper()
	if o, n := d.Used(owner); o != orders || n != notional {
		t.Errorf("Used(%d): %d, %d; want %d, %d", owner, o, n, orders, notional)
	}
}

func TestP2401CheckAtItsBounds(t *testing.T) {
	far := []int64{0, -1, -2, 1 << 51, 1<<52 + 1, 1 << 62, least, least + 1, most - 1, most}
	bounds := []struct {
		most int64
		may  []int64
	}{
		{1000000, []int64{1, 2, 10, 4097, 999999, 1000000}},
		{half, []int64{1, 2, 4097, 1000001, 1<<32 - 1, 1 << 32, half - 1, half}},
		{4096, []int64{1, 2, 64, 4095, 4096}},
	}
	rows := [3]map[int64]bool{}
	for i, b := range bounds {
		rows[i] = map[int64]bool{b.most + 1: false, 1<<60 + b.most: false, -b.most: false}
		for _, n := range far {
			rows[i][n] = false
		}
		for _, n := range b.may {
			rows[i][n] = true
		}
	}
	for qty, good0 := range rows[0] {
		for notional, good1 := range rows[1] {
			for orders, good2 := range rows[2] {
				l, want := Limits{Qty: qty, Notional: notional, Orders: orders}, api.ErrArg
				if good0 && good1 && good2 {
					want = api.OK
				}
				if err := Check(l); err != want {
					t.Errorf("Check(%+v): %v; want %v", l, err, want)
				}
				if d, err := New(l); err != want || (d == nil) != (want != api.OK) {
					t.Errorf("New(%+v): %v, %v; want %v", l, d, err, want)
				}
			}
		}
	}
}

func TestP2401NobodyHasAnythingAtANewDesk(t *testing.T) {
	for _, l := range []Limits{few, wide, {1, 1, 1}} {
		d := made(t, l)
		for _, o := range owners() {
			checkUsed(t, d, o, 0, 0)
			checkClose(t, d, o, 0, 0, true, api.ErrArg)
			checkClose(t, d, o, 1, 1, false, api.ErrArg)
			checkClose(t, d, o, 0, 0, false, api.OK)
			checkUsed(t, d, o, 0, 0)
		}
	}
}

func TestP2401AQuantityUpToQty(t *testing.T) {
	for _, qty := range []int64{1, 2, 10, 64, 999999, 1000000} {
		d := made(t, Limits{Qty: qty, Notional: half, Orders: 1})
		for _, q := range []int64{1, (qty + 1) / 2, qty} {
			checkAsk(t, d, 5, 0, q, fine)
			checkAsk(t, d, 5, 1000000, q, fine)
		}
		for _, q := range []int64{qty + 1, qty + 2, 1000001, 1 << 32, 1<<32 + 1, 1<<32 + qty, most} {
			for _, price := range []int64{0, 1, 1000000, 1 << 32, most} {
				checkAsk(t, d, 5, price, q, verdict{0, api.ErrRange})
			}
		}
	}
}

func TestP2401WhatIsNoOrder(t *testing.T) {
	d := filled(t, Limits{Qty: 10, Notional: 100, Orders: 1}, 5, 1, 10, 10) // all limits are reached
	for _, owner := range []int{5, 6} {
		for _, price := range []int64{0, 1, 10, 11, 1 << 32, most} {
			for _, qty := range []int64{0, -1, -10, -1000000, -1 << 32, least + 1, least} {
				checkAsk(t, d, owner, price, qty, verdict{0, api.ErrArg})
				checkOpen(t, d, owner, price, qty, verdict{0, api.ErrArg})
			}
		}
		for _, price := range []int64{-1, -2, -1000000, -1 << 32, least + 1, least} {
			for _, qty := range numbers() {
				checkAsk(t, d, owner, price, qty, verdict{0, api.ErrArg})
				checkOpen(t, d, owner, price, qty, verdict{0, api.ErrArg})
			}
		}
	}
	checkUsed(t, d, 5, 1, 100)
	checkUsed(t, d, 6, 0, 0)
}

func TestP2401PriceTimesQuantityUpToNotional(t *testing.T) {
	for _, c := range []struct {
		notional, price, qty int64
		may                  bool
	}{
		{1, 1, 1, true}, {1, 2, 1, false}, {1, 1, 2, false}, {1, 0, 1000000, true},
		{100, 100, 1, true}, {100, 1, 100, true}, {100, 10, 10, true}, {100, 101, 1, false}, {100, 1, 101, false}, {100, 3, 33, true}, {100, 3, 34, false}, {100, 34, 3, false}, {100, 11, 10, false},
		{half, 1000000, 1000000, true}, {half, half, 1, true}, {half, half + 1, 1, false}, {half, half / 2, 2, true}, {half, half/2 + 1, 2, false}, {half, half >> 19, 1 << 19, true}, {half, half>>19 + 1, 1 << 19, false},
		{1000000 * 1000000, 1000000, 1000000, true}, {1000000*1000000 - 1, 1000000, 1000000, false},
		{1 << 32, 1 << 32, 1, true}, {1 << 32, 1<<32 + 1, 1, false}, {1 << 32, 1 << 33, 1, false},
		{half, most, 1, false}, {half, most - 1, 1, false},
		{half, 1 << 62, 2, false}, {half, 1 << 62, 4, false}, {half, 1 << 62, 8, false}, {half, 1<<62 + 1, 4, false}, {half, 1 << 61, 8, false}, // such products wrap round to 4 and less
		{half, most, 2, false}, {half, most, 1000000, false}, {half, most/3 + 1, 3, false}, {half, most/5 + 1, 10, false},
		{half, 18446744073709551616 / 1000000, 1000000, false}, {half, 18446744073709551616/1000000 + 1, 1000000, false},
	} {
		d, v := made(t, Limits{Qty: 1000000, Notional: c.notional, Orders: 1}), verdict{1, api.ErrRange}
		if c.may {
			v = fine
		}
		checkAsk(t, d, 5, c.price, c.qty, v)
		checkOpen(t, d, 5, c.price, c.qty, v)
		if c.may {
			checkUsed(t, d, 5, 1, c.price*c.qty)
		} else {
			checkUsed(t, d, 5, 0, 0)
		}
	}
}

func TestP2401WhatIsOpenCountsForNotional(t *testing.T) {
	no := verdict{1, api.ErrRange}
	for _, notional := range []int64{2, 10, 100, 1000, 1 << 32, half - 1, half} {
		for _, first := range []int64{1, notional / 2, notional - 1, notional} {
			d := filled(t, Limits{Qty: 10, Notional: notional, Orders: 9}, 5, 1, first, 1)
			room := notional - first
			for _, price := range []int64{room + 1, room + 2, notional + 1, notional + first, half * 2, most - first, most - first + 1, most - 1, most} {
				checkAsk(t, d, 5, price, 1, no)
				checkOpen(t, d, 5, price, 1, no)
			}
			checkUsed(t, d, 5, 1, first)
			checkAsk(t, d, 5, room, 1, fine)
			checkOpen(t, d, 5, room, 1, fine)
			checkUsed(t, d, 5, 2, notional)
			checkOpen(t, d, 5, 1, 1, no)
			checkOpen(t, d, 5, 0, 10, fine)
			checkUsed(t, d, 5, 3, notional)
		}
	}
}

func TestP2401AsManyAsOrders(t *testing.T) {
	for _, orders := range []int{1, 2, 3, 64, 4095, 4096} {
		d := made(t, Limits{Qty: 10, Notional: half, Orders: int64(orders)})
		full := verdict{2, api.ErrFull}
		for n := range orders {
			checkAsk(t, d, 5, 3, 2, fine)
			checkOpen(t, d, 5, 3, 2, fine)
			checkUsed(t, d, 5, int64(n+1), int64(n+1)*6)
		}
		checkAsk(t, d, 5, 3, 2, full)
		checkOpen(t, d, 5, 3, 2, full)
		checkOpen(t, d, 5, 0, 1, full)
		checkUsed(t, d, 5, int64(orders), int64(orders)*6)
		checkOpen(t, d, 6, 3, 2, fine)
		checkClose(t, d, 5, 3, 2, false, api.OK) // not the whole of one
		checkOpen(t, d, 5, 3, 2, full)
		checkClose(t, d, 5, 0, 0, true, api.OK)
		checkOpen(t, d, 5, 3, 2, fine)
		checkOpen(t, d, 5, 3, 2, full)
	}
}

func TestP2401TheFirstLimitIsTold(t *testing.T) {
	for _, c := range []struct {
		name       string
		price, qty int64
		v          verdict
	}{
		{"all but no order", 11, 11, verdict{0, api.ErrRange}},
		{"below 0, and above Qty", -1, 11, verdict{0, api.ErrArg}},
		{"none of it, and above Notional", most, 0, verdict{0, api.ErrArg}},
		{"above Qty, and no int64", most, 11, verdict{0, api.ErrRange}},
		{"above Qty, and full", 0, 11, verdict{0, api.ErrRange}},
		{"above Notional, and full", 11, 10, verdict{1, api.ErrRange}},
		{"no int64, and full", most, 2, verdict{1, api.ErrRange}},
		{"full", 0, 10, verdict{2, api.ErrFull}},
	} {
		d := filled(t, Limits{Qty: 10, Notional: 100, Orders: 1}, 5, 1, 10, 10)
		checkAsk(t, d, 5, c.price, c.qty, c.v)
		checkOpen(t, d, 5, c.price, c.qty, c.v)
		checkUsed(t, d, 5, 1, 100)
		if t.Failed() {
			t.Fatal(c.name)
		}
	}
}

func TestP2401FaultsWordForWord(t *testing.T) {
	d := filled(t, few, 5, 3, 0, 10)
	for _, c := range []struct {
		price, qty int64
		text       string
		err        api.Errno
	}{
		{-1, 1, "risk 0: arg", api.ErrArg}, {1, 0, "risk 0: arg", api.ErrArg}, {1, 11, "risk 0: range", api.ErrRange},
		{11, 10, "risk 1: range", api.ErrRange}, {most, 10, "risk 1: range", api.ErrRange}, {1, 1, "risk 2: full", api.ErrFull},
	} {
		for _, err := range []error{d.Ask(5, c.price, c.qty), d.Open(5, c.price, c.qty)} {
			var f *api.Fault
			if !errors.As(err, &f) || !errors.Is(err, c.err) || errors.Unwrap(err) != error(c.err) || err.Error() != c.text {
				t.Errorf("%d, %d: %v; want %s", c.price, c.qty, err, c.text)
			}
		}
	}
}

func TestP2401AskOpensNothing(t *testing.T) {
	d := filled(t, few, 5, 2, 10, 5)
	for range 10 {
		checkAsk(t, d, 5, 0, 10, fine)
		checkAsk(t, d, 6, 10, 10, fine)
		checkUsed(t, d, 5, 2, 100)
		checkUsed(t, d, 6, 0, 0)
	}
	checkClose(t, d, 6, 0, 0, true, api.ErrArg)
}

func TestP2401CloseTakesPriceTimesQuantity(t *testing.T) {
	d := filled(t, wide, 5, 3, 100, 10)
	for _, c := range []struct {
		price, qty       int64
		whole            bool
		orders, notional int64
	}{
		{100, 4, false, 3, 2600}, {100, 6, true, 2, 2000}, {100, 0, false, 2, 2000}, {0, 100, false, 2, 2000},
		{most, 0, false, 2, 2000}, {0, most, false, 2, 2000}, {0, 0, false, 2, 2000},
		{1, 700, false, 2, 1300}, {1300, 1, false, 2, 0}, // any price and quantity that make as much
		{0, 0, true, 1, 0}, {0, most, true, 0, 0},
	} {
		checkClose(t, d, 5, c.price, c.qty, c.whole, api.OK)
		checkUsed(t, d, 5, c.orders, c.notional)
	}
	for _, o := range owners() {
		checkUsed(t, d, o, 0, 0)
	}
}

func TestP2401CloseOfMoreThanIsOpen(t *testing.T) {
	for _, open := range []int64{1, 100, 1 << 32, half - 1, half} {
		d := filled(t, wide, 5, 1, open, 1)
		for _, whole := range []bool{false, true} {
			for _, c := range [][2]int64{
				{open + 1, 1}, {1, open + 1}, {open, 2}, {2, open}, {half + 1, 1}, {most, 1}, {1, most}, {most, most}, {most, 2},
				{1 << 62, 2}, {1 << 62, 4}, {4, 1 << 62}, {1 << 62, 8}, {1<<62 + 1, 4}, {1 << 32, 1 << 32}, {1<<32 + 1, 1 << 32}, {1 << 61, 8}, // such products wrap round
			} {
				checkClose(t, d, 5, c[0], c[1], whole, api.ErrArg)
				checkUsed(t, d, 5, 1, open)
			}
			checkClose(t, d, 6, open, 1, whole, api.ErrArg) // which is another's
		}
		checkClose(t, d, 5, open, 1, true, api.OK)
		checkUsed(t, d, 5, 0, 0)
		checkClose(t, d, 5, 1, 1, false, api.ErrArg)
		checkClose(t, d, 5, 0, 0, true, api.ErrArg)
	}
}

func TestP2401CloseOfNumbersBelow0(t *testing.T) {
	below := []int64{-1, -2, -10, -1000000, -1 << 32, least / 2, least + 1, least}
	d := filled(t, few, 5, 2, 5, 10)
	for _, whole := range []bool{false, true} {
		for _, n := range below {
			for _, m := range append(numbers(), below...) { // two that are below 0 have a product that is not
				checkClose(t, d, 5, n, m, whole, api.ErrArg)
				checkClose(t, d, 5, m, n, whole, api.ErrArg)
				checkUsed(t, d, 5, 2, 100)
			}
		}
	}
}

// TestP2401AnOrderLessNeedsAnOrder leaves prices times quantities open when the orders are gone: the two are counted each for itself.
func TestP2401AnOrderLessNeedsAnOrder(t *testing.T) {
	d := filled(t, few, 5, 2, 10, 5)
	checkClose(t, d, 5, 10, 1, true, api.OK)
	checkClose(t, d, 5, 10, 1, true, api.OK)
	checkUsed(t, d, 5, 0, 80)
	checkClose(t, d, 5, 10, 1, true, api.ErrArg)
	checkClose(t, d, 5, 0, 0, true, api.ErrArg)
	checkUsed(t, d, 5, 0, 80)
	checkAsk(t, d, 5, 7, 3, verdict{1, api.ErrRange})
	checkAsk(t, d, 5, 5, 4, fine)
	checkClose(t, d, 5, 10, 8, false, api.OK)
	checkUsed(t, d, 5, 0, 0)
}

func TestP2401WhatIsClosedMayBeOpenedAgain(t *testing.T) {
	d := filled(t, few, 5, 2, 10, 5)
	for i := range 50 {
		checkOpen(t, d, 5, 1, 1, verdict{1, api.ErrRange})
		checkClose(t, d, 5, 10, 3, false, api.OK)
		checkOpen(t, d, 5, 31, 1, verdict{1, api.ErrRange})
		checkOpen(t, d, 5, 6, 5, fine)
		checkOpen(t, d, 5, 0, 1, verdict{2, api.ErrFull})
		checkUsed(t, d, 5, 3, 100)
		checkClose(t, d, 5, 30, 1, true, api.OK)
		checkOpen(t, d, 5, 30, 1, fine)
		checkClose(t, d, 5, 0, 7, true, api.OK)
		checkUsed(t, d, 5, 2, 100)
		if t.Failed() {
			t.Fatalf("in round %d", i)
		}
	}
}

func TestP2401EachOwnerIsItsOwn(t *testing.T) {
	for _, a := range owners() {
		for _, b := range owners() {
			if a == b {
				continue
			}
			d := filled(t, few, a, 3, 3, 10)
			checkUsed(t, d, b, 0, 0)
			checkClose(t, d, b, 3, 10, true, api.ErrArg)
			checkOpen(t, d, b, 10, 10, fine)
			checkUsed(t, d, a, 3, 90)
			checkOpen(t, d, a, 11, 1, verdict{1, api.ErrRange})
			checkOpen(t, d, a, 10, 1, verdict{2, api.ErrFull})
			checkClose(t, d, a, 3, 10, true, api.OK)
			checkUsed(t, d, a, 2, 60)
			checkUsed(t, d, b, 1, 100)
			checkOpen(t, d, b, 1, 1, verdict{1, api.ErrRange})
		}
	}
}

// checkAll holds d against p in all that can be asked of an owner about one order.
func checkAll(t *testing.T, d *Desk, p *plain, owner int, price, qty int64) {
	t.Helper()
	checkAsk(t, d, owner, price, qty, p.ask(owner, price, qty))
	checkUsed(t, d, owner, int64(p.orders[owner]), p.of(owner).Int64())
}

func TestP2401OneCallOfAnyNumbersIsThePlainReading(t *testing.T) {
	found := map[verdict]int{}
	closed := map[api.Errno]int{}
	for _, l := range []Limits{few, wide, {1, 1, 1}, {5, 1 << 32, 2}, {1000000, 100, 4}} {
		for ahead := range 4 {
			for _, price := range numbers() {
				for _, qty := range numbers() {
					d, p := made(t, l), newPlain(l)
					for range ahead {
						checkOpen(t, d, 5, l.Notional/3, 1, p.opens(5, l.Notional/3, 1))
					}
					v := p.ask(5, price, qty)
					found[v]++
					checkAll(t, d, p, 5, price, qty)
					for _, whole := range []bool{false, true} {
						err := p.closes(5, price, qty, whole)
						closed[err]++
						checkClose(t, d, 5, price, qty, whole, err)
						checkAll(t, d, p, 5, price, qty)
					}
					checkOpen(t, d, 5, price, qty, p.opens(5, price, qty))
					checkAll(t, d, p, 5, price, qty)
					checkAll(t, d, p, 6, price, qty)
				}
			}
			if t.Failed() { // enough is told
				t.Fatalf("of %+v, %d ahead", l, ahead)
			}
		}
	}
	for _, v := range []verdict{fine, {0, api.ErrArg}, {0, api.ErrRange}, {1, api.ErrRange}, {2, api.ErrFull}} {
		if found[v] < 30 {
			t.Errorf("%v: only %d", v, found[v])
		}
	}
	if len(found) != 5 || len(closed) != 2 || closed[api.OK] < 300 || closed[api.ErrArg] < 300 {
		t.Errorf("%v, %v", found, closed)
	}
}

// say says one of many things to d and to p, and holds what they answer against each other; it tells in a word what came of it.
func say(t *testing.T, d *Desk, p *plain, next func(n int) int) string {
	t.Helper()
	owner := []int{3, 4, 1<<32 + 3}[next(3)]
	price, qty := int64(next(int(p.limits.Notional/p.limits.Qty)+2)), int64(next(int(p.limits.Qty)+2))
	if next(40) == 0 {
		price = numbers()[next(len(numbers()))]
	}
	if next(40) == 0 {
		qty = numbers()[next(len(numbers()))]
	}
	defer checkAll(t, d, p, owner, price, qty)
	if next(5) < 3 {
		v := p.opens(owner, price, qty)
		checkOpen(t, d, owner, price, qty, v)
		return fmt.Sprint("open ", v.at, " ", v.err)
	}
	if next(8) == 0 && p.limits.Qty > 1 { // all that is open, or one more
		price, qty = p.of(owner).Int64()+int64(next(2)), 1
	}
	whole := next(2) == 0
	err := p.closes(owner, price, qty, whole)
	checkClose(t, d, owner, price, qty, whole, err)
	return fmt.Sprint("close ", whole, " ", err)
}

func TestP2401IsThePlainReading(t *testing.T) {
	next, found := walk(1), map[string]int{}
	for _, l := range []Limits{few, wide, {1, 1, 1}, {1, 100, 4}, {100, 10000, 8}, {1000000, 1 << 40, 20}, {7, half - 1, 64}, {64, 1 << 32, 4096}} {
		for range 20 {
			d, p := made(t, l), newPlain(l)
			for range 400 {
				found[say(t, d, p, next)]++
			}
			if t.Failed() { // enough is told
				t.Fatalf("of %+v", l)
			}
		}
	}
	for _, w := range []string{
		"open 0 ok", "open 0 arg", "open 0 range", "open 1 range", "open 2 full",
		"close false ok", "close false arg", "close true ok", "close true arg",
	} {
		if found[w] < 1000 {
			t.Errorf("%s: only %d", w, found[w])
		}
	}
}

// TestP2401IsWhatItsOrdersAre opens and closes orders that are kept beside it: what is told is their number and their sum.
func TestP2401IsWhatItsOrdersAre(t *testing.T) {
	next := walk(2)
	for round := range 50 {
		d := made(t, Limits{Qty: 100, Notional: 100000, Orders: 50})
		var rows [][2]int64 // price, quantity still open
		for range 300 {
			i := next(len(rows)*2 + 3)
			if i >= len(rows) { // a new one
				o := [2]int64{int64(next(100)), 1 + int64(next(100))}
				if d.Open(7, o[0], o[1]) == nil {
					rows = append(rows, o)
				}
			} else if by := 1 + int64(next(int(rows[i][1]))); by < rows[i][1] {
				checkClose(t, d, 7, rows[i][0], by, false, api.OK)
				rows[i][1] -= by
			} else {
				checkClose(t, d, 7, rows[i][0], by, true, api.OK)
				rows = append(rows[:i], rows[i+1:]...)
			}
			sum := int64(0)
			for _, o := range rows {
				sum += o[0] * o[1]
			}
			checkUsed(t, d, 7, int64(len(rows)), sum)
		}
		for _, o := range rows {
			checkClose(t, d, 7, o[0], o[1], true, api.OK)
		}
		checkUsed(t, d, 7, 0, 0)
		if t.Failed() {
			t.Fatalf("in round %d", round)
		}
	}
}

// TestNoMoreIsKeptThanIsOpen looks inside: who has nothing open, and who is refused or only asked, is not kept.
func TestNoMoreIsKeptThanIsOpen(t *testing.T) {
	d := made(t, few)
	for _, o := range owners() {
		d.Ask(o, 1, 1)
		d.Open(o, 1, 11)
		d.Close(o, 0, 0, false)
		d.Close(o, 0, 0, true)
		d.Used(o)
	}
	if len(d.open) != 0 {
		t.Errorf("%d owners are kept", len(d.open))
	}
	for _, o := range owners() {
		checkOpen(t, d, o, 2, 5, fine)
		checkClose(t, d, o, 2, 3, false, api.OK)
		checkClose(t, d, o, 2, 2, true, api.OK)
		checkOpen(t, d, o, 0, 5, fine)
		checkClose(t, d, o, 0, 5, true, api.OK)
	}
	if len(d.open) != 0 {
		t.Errorf("%d owners are kept", len(d.open))
	}
}

func TestP1AnythingIsAnswered(t *testing.T) {
	desks := []*Desk{{}, made(t, few), made(t, wide)} // no Desk of New's ends too
	for _, d := range desks {
		for _, owner := range owners() {
			for _, a := range numbers() {
				for _, b := range numbers() {
					d.Ask(owner, a, b)
					d.Open(owner, a, b)
					d.Close(owner, a, b, false)
					d.Close(owner, b, a, true)
					d.Used(owner)
					New(Limits{a, b, int64(owner)})
				}
			}
		}
	}
}

func TestP2FaultsAreTheCallersOwn(t *testing.T) {
	d := filled(t, few, 5, 3, 0, 10)
	for _, c := range []struct {
		price, qty int64
		v          verdict
	}{{-1, 1, verdict{0, api.ErrArg}}, {1, 11, verdict{0, api.ErrRange}}, {11, 10, verdict{1, api.ErrRange}}, {1, 1, verdict{2, api.ErrFull}}} {
		for _, err := range []error{d.Ask(5, c.price, c.qty), d.Open(5, c.price, c.qty)} {
			*err.(*api.Fault) = api.Fault{Part: "spoilt", At: 77, Err: api.ErrSum}
			checkAsk(t, d, 5, c.price, c.qty, c.v)
			checkOpen(t, d, 5, c.price, c.qty, c.v)
		}
	}
}

// look tells all that can be asked of d.
func look(d *Desk) string {
	var b strings.Builder
	for _, o := range owners() {
		orders, notional := d.Used(o)
		fmt.Fprintln(&b, o, orders, notional)
		for _, price := range numbers() {
			for _, qty := range []int64{-1, 0, 1, 2, 9, 10, 11, most} {
				fmt.Fprint(&b, d.Ask(o, price, qty), " ")
			}
		}
	}
	return b.String()
}

// run tells what a row of calls answers, and what can be asked behind each; ahead is said ahead of each.
func run(ahead func(d *Desk)) string {
	var b strings.Builder
	d, _ := New(few)
	next := walk(3)
	for range 200 {
		o, price, qty, whole := owners()[next(5)], int64(next(12)), int64(next(12)), next(2) == 0
		ahead(d)
		if next(2) == 0 {
			fmt.Fprintln(&b, d.Open(o, price, qty))
		} else {
			fmt.Fprintln(&b, d.Close(o, price, qty, whole))
		}
		b.WriteString(look(d))
	}
	return b.String()
}

func TestP3TheSameCallsAnswerTheSame(t *testing.T) {
	first := run(func(*Desk) {})
	for range 3 {
		if run(func(*Desk) {}) != first {
			t.Fatal("the same calls answered otherwise")
		}
	}
}

// TestP5T5WhatIsRefusedChangesNothing says ahead of each call what is refused, of each kind, and what is only asked.
func TestP5T5WhatIsRefusedChangesNothing(t *testing.T) {
	first := run(func(*Desk) {})
	for i, ahead := range []func(d *Desk){
		func(*Desk) { New(Limits{}); New(wide) },
		func(d *Desk) { look(d) },
		func(d *Desk) {
			for _, o := range append(owners(), 77) {
				for _, a := range numbers() {
					d.Open(o, -1, a)
					d.Open(o, a, 0)
					d.Open(o, a, 11)
					d.Open(o, 101, max(a, 1))
					d.Close(o, -1, a, false)
					d.Close(o, a, -1, true)
					d.Close(o, 101, max(a, 1), true)
					d.Close(o, max(a, 1), 101, false)
					d.Close(o, 0, a, false) // which is none
				}
				if orders, notional := d.Used(o); orders == 0 {
					d.Close(o, notional, 1, true)
					d.Close(o, 0, 0, true)
				} else if orders == 3 {
					d.Open(o, 0, 1)
				}
			}
		},
	} {
		if run(ahead) != first {
			t.Errorf("%d: something was changed", i)
		}
	}
}

func TestP7DesksAreTheCallersOwn(t *testing.T) {
	a, b := made(t, few), made(t, few)
	checkOpen(t, a, 5, 10, 10, fine)
	checkUsed(t, b, 5, 0, 0)
	checkOpen(t, b, 5, 9, 10, fine)
	checkUsed(t, a, 5, 1, 100)
	checkClose(t, a, 5, 10, 10, true, api.OK)
	checkUsed(t, b, 5, 1, 90)
}
