package order

import (
	"errors"
	"fmt"
	"math"
	"slices"
	"sort"
	"strings"
	"testing"

	"straddle/api"
	"straddle/grid"
)

const (
	most  = math.MaxInt64
	least = math.MinInt64
)

// all is the grid of every price; fives is that of 1, 6, .. 101, 111, ..
var (
	all   = grid.Table{{From: 1, By: 1}}
	fives = grid.Table{{From: 1, By: 5}, {From: 101, By: 10}}
)

// good is an order that may be, in both grids.
var good = Order{ID: 7, Owner: 3, Side: api.Buy, Price: 11, Qty: 9, Life: Day}

// ids, owners, sides, prices, quantities and lives are numbers about both ends of what may be, and far beyond.
func ids() []int64 { return []int64{1, 2, 1000001, 1 << 32, most - 1, most, 0, -1, -1 << 32, least} }

func owners() []int { return []int{0, 1, 2, 63, 64, 65, 100, -1, -64, 1 << 32, 1<<32 + 1, least, most} }

func sides() []int {
	return []int{api.Buy, api.Sell, 0, -1, -2, 3, 'B', 'S', 1 << 32, 1<<32 + 1, 1<<32 + 2, least, most}
}

func prices() []int64 {
	return []int64{1, 2, 6, 99, 101, 102, 106, 999991, 999999, 1000000, 0, -1, -5, 1000001, 1000011, 1 << 32, 1<<32 + 1, least, most}
}

func quantities() []int64 {
	return []int64{1, 2, 999999, 1000000, 0, -1, 1000001, 1 << 32, 1<<32 + 1, least, most}
}

func lives() []int {
	return []int{Day, IOC, FOK, Post, 0, -1, -4, 5, 6, 8, 1 << 32, 1<<32 + 1, least, most}
}

// with tells an order that is like good but for what f changes.
func with(f func(o *Order)) Order {
	o := good
	f(&o)
	return o
}

// wrongs tells all that the promise finds wrong with o, place by place.
func wrongs(o Order, on func(price int64) bool) [7]api.Errno {
	var w [7]api.Errno
	for at, fine := range map[int]bool{
		0: o.ID >= 1,
		1: o.Owner >= 0 && o.Owner <= 64,
		2: o.Side == 1 || o.Side == 2,
		3: o.Price >= 1 && o.Price <= 1000000,
		4: o.Qty >= 1 && o.Qty <= 1000000,
		6: o.Life >= 1 && o.Life <= 4,
	} {
		if !fine {
			w[at] = api.ErrArg
		}
	}
	if w[3] == api.OK && !on(o.Price) {
		w[3] = api.ErrGrid
	}
	return w
}

// first tells the first place of what is wrong, and what it is.
func first(w [7]api.Errno) (int, api.Errno) {
	for at, e := range w {
		if e != api.OK {
			return at, e
		}
	}
	return 0, api.OK
}

// checkCheck asks whether Check tells this of o: nothing of OK, else a Fault at that place that wraps want itself.
func checkCheck(t *testing.T, o Order, g grid.Table, at int, want api.Errno) {
	t.Helper()
	err := Check(o, g)
	if want == api.OK {
		if err != nil {
			t.Errorf("Check of %+v: %v", o, err)
		}
		return
	}
	f, ok := err.(*api.Fault)
	if !ok || f.Part != "order" || f.At != at || f.Err != want || !errors.Is(err, want) {
		t.Errorf("Check of %+v: %v; want a fault of %v at %d", o, err, want, at)
	}
}

func TestP1101CheckAtItsBounds(t *testing.T) {
	for _, c := range []struct {
		o    Order
		at   int
		want api.Errno
	}{
		{good, 0, api.OK},
		{Order{ID: 1, Owner: 0, Side: api.Buy, Price: 1, Qty: 1, Life: Day}, 0, api.OK},
		{Order{ID: most, Owner: 64, Side: api.Sell, Price: 1000000, Qty: 1000000, Cust: true, Life: Post}, 0, api.OK},
		{Order{}, 0, api.ErrArg},
		{with(func(o *Order) { o.ID = 1 }), 0, api.OK},
		{with(func(o *Order) { o.ID = most }), 0, api.OK},
		{with(func(o *Order) { o.ID = 0 }), 0, api.ErrArg},
		{with(func(o *Order) { o.ID = -1 }), 0, api.ErrArg},
		{with(func(o *Order) { o.ID = least }), 0, api.ErrArg},
		{with(func(o *Order) { o.Owner = 0 }), 0, api.OK},
		{with(func(o *Order) { o.Owner = 64 }), 0, api.OK},
		{with(func(o *Order) { o.Owner = -1 }), 1, api.ErrArg},
		{with(func(o *Order) { o.Owner = 65 }), 1, api.ErrArg},
		{with(func(o *Order) { o.Owner = least }), 1, api.ErrArg},
		{with(func(o *Order) { o.Owner = most }), 1, api.ErrArg},
		{with(func(o *Order) { o.Owner = 1 << 32 }), 1, api.ErrArg},
		{with(func(o *Order) { o.Side = api.Sell }), 0, api.OK},
		{with(func(o *Order) { o.Side = 0 }), 2, api.ErrArg},
		{with(func(o *Order) { o.Side = 3 }), 2, api.ErrArg},
		{with(func(o *Order) { o.Side = -1 }), 2, api.ErrArg},
		{with(func(o *Order) { o.Price = 1 }), 0, api.OK},
		{with(func(o *Order) { o.Price = 1000000 }), 0, api.OK},
		{with(func(o *Order) { o.Price = 0 }), 3, api.ErrArg},
		{with(func(o *Order) { o.Price = -11 }), 3, api.ErrArg},
		{with(func(o *Order) { o.Price = 1000001 }), 3, api.ErrArg},
		{with(func(o *Order) { o.Price = least }), 3, api.ErrArg},
		{with(func(o *Order) { o.Price = most }), 3, api.ErrArg},
		{with(func(o *Order) { o.Qty = 1 }), 0, api.OK},
		{with(func(o *Order) { o.Qty = 1000000 }), 0, api.OK},
		{with(func(o *Order) { o.Qty = 0 }), 4, api.ErrArg},
		{with(func(o *Order) { o.Qty = -1 }), 4, api.ErrArg},
		{with(func(o *Order) { o.Qty = 1000001 }), 4, api.ErrArg},
		{with(func(o *Order) { o.Qty = least }), 4, api.ErrArg},
		{with(func(o *Order) { o.Qty = most }), 4, api.ErrArg},
		{with(func(o *Order) { o.Cust = true }), 0, api.OK},
		{with(func(o *Order) { o.Life = Day }), 0, api.OK},
		{with(func(o *Order) { o.Life = IOC }), 0, api.OK},
		{with(func(o *Order) { o.Life = FOK }), 0, api.OK},
		{with(func(o *Order) { o.Life = Post }), 0, api.OK},
		{with(func(o *Order) { o.Life = 0 }), 6, api.ErrArg},
		{with(func(o *Order) { o.Life = -1 }), 6, api.ErrArg},
		{with(func(o *Order) { o.Life = 5 }), 6, api.ErrArg},
		{with(func(o *Order) { o.Life = most }), 6, api.ErrArg},
	} {
		checkCheck(t, c.o, all, c.at, c.want)
	}
}

func TestP1101CheckThePricesOfTheGrid(t *testing.T) {
	on := map[int64]bool{1: true, 6: true, 11: true, 96: true, 101: true, 111: true, 999991: true}
	for _, p := range []int64{1, 2, 5, 6, 7, 10, 11, 96, 97, 100, 101, 102, 106, 110, 111, 999990, 999991, 999992, 999996, 1000000} {
		want, at := api.OK, 0
		if !on[p] {
			want, at = api.ErrGrid, 3
		}
		for _, side := range []int{api.Buy, api.Sell} {
			checkCheck(t, with(func(o *Order) { o.Price, o.Side = p, side }), fives, at, want)
		}
	}
	for _, p := range []int64{0, -4, -5, 1000001, 1000011, least, most} { // no prices at all, and not ErrGrid
		checkCheck(t, with(func(o *Order) { o.Price = p }), fives, 3, api.ErrArg)
	}
}

func TestP1101CheckOfATableWithoutPrices(t *testing.T) {
	for _, g := range []grid.Table{nil, {}, {{}}, {{From: 1, By: 0}}, {{From: 2, By: 1}}, make(grid.Table, 9)} {
		checkCheck(t, good, g, 3, api.ErrGrid)
		checkCheck(t, with(func(o *Order) { o.Price = 0 }), g, 3, api.ErrArg)
		checkCheck(t, with(func(o *Order) { o.Side = 0 }), g, 2, api.ErrArg)
		checkCheck(t, with(func(o *Order) { o.Qty, o.Life = 0, 0 }), g, 3, api.ErrGrid)
	}
}

// TestP1101CheckTellsTheFirstPlace: of two things that are wrong, whichever they are, the one at the lesser place.
func TestP1101CheckTellsTheFirstPlace(t *testing.T) {
	spoils := []struct {
		at   int
		want api.Errno
		f    func(o *Order)
	}{
		{0, api.ErrArg, func(o *Order) { o.ID = 0 }},
		{1, api.ErrArg, func(o *Order) { o.Owner = -1 }},
		{2, api.ErrArg, func(o *Order) { o.Side = 3 }},
		{3, api.ErrArg, func(o *Order) { o.Price = 0 }},
		{3, api.ErrGrid, func(o *Order) { o.Price = 12 }},
		{4, api.ErrArg, func(o *Order) { o.Qty = 0 }},
		{6, api.ErrArg, func(o *Order) { o.Life = 5 }},
	}
	for i, a := range spoils {
		checkCheck(t, with(a.f), fives, a.at, a.want)
		for _, b := range spoils[i:] {
			if a.at < b.at {
				checkCheck(t, with(func(o *Order) { a.f(o); b.f(o) }), fives, a.at, a.want)
			}
		}
		checkCheck(t, with(func(o *Order) {
			for _, b := range slices.Backward(spoils[i:]) {
				b.f(o)
			}
		}), fives, a.at, a.want)
	}
}

func TestP1101CheckIsThePlainReading(t *testing.T) {
	on := func(p int64) bool { return p < 101 && p%5 == 1 || p >= 101 && p%10 == 1 }
	found := map[string]int{}
	for _, id := range ids() {
		for _, owner := range owners() {
			for _, side := range sides() {
				for _, price := range prices() {
					if t.Failed() { // enough is told
						return
					}
					for i, qty := range quantities() {
						for k, life := range lives() {
							o := Order{id, owner, side, price, qty, (i+k)%2 == 0, life}
							at, want := first(wrongs(o, on))
							found[fmt.Sprint(at, want)]++
							checkCheck(t, o, fives, at, want)
						}
					}
				}
			}
		}
	}
	for _, what := range []string{"0 ok", "0 arg", "1 arg", "2 arg", "3 arg", "3 grid", "4 arg", "6 arg"} {
		if found[what] < 1000 {
			t.Errorf("only %d of %s", found[what], what)
		}
	}
}

func TestP1101Takes(t *testing.T) {
	for _, c := range []struct {
		side     int
		own, at  int64
		want     bool
		whatever string
	}{
		{api.Buy, 10, 9, true, "cheaper than it would pay"},
		{api.Buy, 10, 10, true, "its own"},
		{api.Buy, 10, 11, false, "dearer"},
		{api.Sell, 10, 9, false, "less than it would have"},
		{api.Sell, 10, 10, true, "its own"},
		{api.Sell, 10, 11, true, "more"},
		{api.Buy, 1, 1000000, false, "far dearer"},
		{api.Sell, 1, 1000000, true, "far more"},
		{api.Buy, 1000000, 1, true, "far cheaper"},
		{api.Sell, 1000000, 1, false, "far less"},
		{api.Buy, least, most, false, "the ends"},
		{api.Buy, most, least, true, "the ends"},
		{api.Sell, least, most, true, "the ends"},
		{api.Sell, most, least, false, "the ends"},
	} {
		o := with(func(o *Order) { o.Side, o.Price = c.side, c.own })
		if got := Takes(o, c.at); got != c.want {
			t.Errorf("Takes of side %d at %d, %d (%s): %v", c.side, c.own, c.at, c.whatever, got)
		}
	}
}

func TestP1101TakesIsThePlainReading(t *testing.T) {
	for _, side := range sides() {
		for _, own := range prices() {
			for _, p := range prices() {
				want := side == 1 && p <= own || side == 2 && p >= own
				for _, life := range lives() { // which has no say, as all but Side and Price
					o := Order{ID: p, Owner: life, Side: side, Price: own, Qty: -p, Cust: life == IOC, Life: life}
					if got := Takes(o, p); got != want {
						t.Errorf("Takes of %+v, %d: %v", o, p, got)
					}
				}
			}
		}
	}
}

// rows tells orders of both sides, those ahead first.
func rows() map[int][]Order {
	return map[int][]Order{
		api.Buy: {
			{ID: 9, Price: most},
			{ID: 90, Price: 1000000},
			{ID: 9, Price: 11},
			{ID: 8, Price: 10, Cust: true},
			{ID: 12, Price: 10, Cust: true},
			{ID: least, Price: 10},
			{ID: -1, Price: 10},
			{ID: 0, Price: 10},
			{ID: 3, Price: 10},
			{ID: 4, Price: 10},
			{ID: 1000000, Price: 10},
			{ID: most, Price: 10},
			{ID: 1, Price: 9, Cust: true},
			{ID: 0, Price: 9},
			{ID: 1, Price: 1, Cust: true},
			{ID: 1, Price: -1, Cust: true},
			{ID: 1, Price: least, Cust: true},
		},
		api.Sell: {
			{ID: 7, Price: least},
			{ID: 7, Price: -1},
			{ID: 7, Price: 1},
			{ID: 1, Price: 9, Cust: true},
			{ID: 2, Price: 9},
			{ID: 8, Price: 10, Cust: true},
			{ID: most, Price: 10, Cust: true},
			{ID: least, Price: 10},
			{ID: 3, Price: 10},
			{ID: 40, Price: 10},
			{ID: 9, Price: 11, Cust: true},
			{ID: 5, Price: 1000000, Cust: true},
			{ID: 5, Price: most, Cust: true},
		},
	}
}

func TestP1101AheadGoesByPriceCustomersTime(t *testing.T) {
	for side, row := range rows() {
		for i, a := range row {
			for k, b := range row {
				for _, more := range []Order{{}, {Owner: 5, Qty: 7, Life: IOC}, {Owner: -5, Qty: most, Life: 9}} { // which has no say
					a.Side, b.Side = side, side
					b.Owner, b.Qty, b.Life = more.Owner, more.Qty, more.Life
					if got := Ahead(a, b); got != (i < k) {
						t.Errorf("Ahead of %+v, %+v: %v", a, b, got)
					}
				}
			}
		}
	}
}

func TestP1101AheadSortsARow(t *testing.T) {
	for side, want := range rows() {
		for i := range want {
			want[i].Side = side
		}
		for turn := range len(want) {
			got := slices.Concat(want[turn:], want[:turn])
			for i := range got {
				k := (i*7 + turn) % len(got)
				got[i], got[k] = got[k], got[i]
			}
			sort.Slice(got, func(i, k int) bool { return Ahead(got[i], got[k]) })
			if !slices.Equal(got, want) {
				t.Errorf("side %d: %+v; want %+v", side, got, want)
			}
		}
	}
}

// TestP1101AheadIsThePlainReading holds all pairs of some orders against the promise, kind by kind.
func TestP1101AheadIsThePlainReading(t *testing.T) {
	for _, side := range []int{api.Buy, api.Sell} {
		var l []Order
		for _, price := range []int64{1, 2, 10, 999999, 1000000} {
			for _, id := range []int64{1, 2, 3, 10, most} {
				l = append(l, Order{ID: id, Side: side, Price: price}, Order{ID: id, Side: side, Price: price, Cust: true})
			}
		}
		for _, a := range l {
			for _, b := range l {
				better := a.Price > b.Price
				if side == api.Sell {
					better = a.Price < b.Price
				}
				same := a.Price == b.Price
				want := better || same && a.Cust && !b.Cust || same && a.Cust == b.Cust && a.ID < b.ID
				if got := Ahead(a, b); got != want {
					t.Errorf("Ahead of %+v, %+v: %v", a, b, got)
				}
			}
		}
	}
}

func TestP1101Opposite(t *testing.T) {
	for _, side := range sides() {
		want := map[int]int{1: 2, 2: 1}[side]
		if got := Opposite(side); got != want {
			t.Errorf("Opposite of %d: %d; want %d", side, got, want)
		}
	}
	for n := -1000; n <= 1000; n++ {
		want := 0
		if n == 1 || n == 2 {
			want = 3 - n
		}
		if got := Opposite(n); got != want {
			t.Errorf("Opposite of %d: %d; want %d", n, got, want)
		}
	}
}

func TestP1101TextWordForWord(t *testing.T) {
	for _, c := range []struct {
		o    Order
		want string
	}{
		{good, "7 3 B 9@11 day"},
		{with(func(o *Order) { o.Cust = true }), "7 3 B 9@11 day c"},
		{with(func(o *Order) { o.Side = api.Sell }), "7 3 S 9@11 day"},
		{with(func(o *Order) { o.Life = IOC }), "7 3 B 9@11 ioc"},
		{with(func(o *Order) { o.Life = FOK }), "7 3 B 9@11 fok"},
		{with(func(o *Order) { o.Life = Post }), "7 3 B 9@11 post"},
		{Order{ID: most, Owner: 64, Side: api.Sell, Price: 1000000, Qty: 1000000, Cust: true, Life: Post}, "9223372036854775807 64 S 1000000@1000000 post c"},
		{Order{}, "0 0 - 0@0 -"},
		{Order{Cust: true}, "0 0 - 0@0 - c"},
		{Order{ID: -1, Owner: -2, Side: -3, Price: -4, Qty: -5, Life: -6}, "-1 -2 - -5@-4 -"},
		{with(func(o *Order) { o.Side = 3 }), "7 3 - 9@11 day"},
		{with(func(o *Order) { o.Life = 5 }), "7 3 B 9@11 -"},
		{with(func(o *Order) { o.Life, o.Cust = 0, true }), "7 3 B 9@11 - c"},
		{Order{ID: least, Owner: least, Side: least, Price: least, Qty: least, Life: least}, strings.ReplaceAll("n n - n@n -", "n", "-9223372036854775808")},
		{Order{ID: most, Owner: most, Side: most, Price: most, Qty: most, Life: most}, strings.ReplaceAll("n n - n@n -", "n", "9223372036854775807")},
	} {
		if got := Text(c.o); got != c.want {
			t.Errorf("Text of %+v: %q; want %q", c.o, got, c.want)
		}
	}
}

func TestP1101TextIsThePlainReading(t *testing.T) {
	word := func(n int, words ...string) string {
		if n < 1 || n > len(words) {
			return "-"
		}
		return words[n-1]
	}
	for _, id := range ids() {
		for _, owner := range owners() {
			for _, side := range sides() {
				if t.Failed() { // enough is told
					return
				}
				for i, life := range lives() {
					for _, cust := range []bool{false, true} {
						price, qty := prices()[i], quantities()[i%len(quantities())]
						o := Order{id, owner, side, price, qty, cust, life}
						want := fmt.Sprintf("%d %d %s %d@%d %s", id, owner, word(side, "B", "S"), qty, price, word(life, "day", "ioc", "fok", "post"))
						if cust {
							want += " c"
						}
						if got := Text(o); got != want {
							t.Errorf("Text of %+v: %q; want %q", o, got, want)
						}
					}
				}
			}
		}
	}
}

func TestTheNumbersOfLives(t *testing.T) {
	if got := [4]int{Day, IOC, FOK, Post}; got != [4]int{1, 2, 3, 4} {
		t.Errorf("lives: %v", got)
	}
}

func TestP1AnyTableIsAnswered(t *testing.T) {
	steps := []grid.Step{{}, {From: 1, By: 0}, {From: 1, By: -1}, {From: least, By: least}, {From: most, By: most}, {From: 1, By: least}, {From: 1, By: 5}}
	for _, a := range steps {
		for _, b := range steps {
			for _, p := range prices() {
				Check(with(func(o *Order) { o.Price = p }), grid.Table{a, b})
			}
		}
	}
	Check(good, make(grid.Table, 100000))
}

func TestP2ATableIsNotChanged(t *testing.T) {
	room := make(grid.Table, 2, 5)
	copy(room, fives)
	whole := room[:cap(room)]
	for i := 2; i < len(whole); i++ {
		whole[i] = grid.Step{From: -9, By: -9}
	}
	was := slices.Clone(whole)
	for _, p := range prices() {
		Check(with(func(o *Order) { o.Price = p }), room)
	}
	if !slices.Equal(whole, was) {
		t.Errorf("%v; was %v", whole, was)
	}
	g := slices.Clone(fives)
	checkCheck(t, with(func(o *Order) { o.Price = 12 }), g, 3, api.ErrGrid)
	g[0].By = 1 // the table is not kept: what it is now counts
	checkCheck(t, with(func(o *Order) { o.Price = 12 }), g, 0, api.OK)
}

func TestP2FaultsAreTheCallersOwn(t *testing.T) {
	bad := with(func(o *Order) { o.Qty = 0 })
	f := Check(bad, all).(*api.Fault)
	*f = api.Fault{Part: "x", At: -9}
	checkCheck(t, bad, all, 4, api.ErrArg)
}

func TestP3TheSameCallsAnswerTheSame(t *testing.T) {
	round := func() string {
		var b strings.Builder
		for i, id := range ids() {
			for k, p := range prices() {
				o := Order{id, owners()[i], sides()[k%len(sides())], p, quantities()[i], i%2 == 0, lives()[k%len(lives())]}
				fmt.Fprintln(&b, Check(o, fives), Takes(o, 6), Ahead(o, good), Opposite(o.Side), Text(o))
			}
		}
		return b.String()
	}
	want := round()
	for range 3 {
		if got := round(); got != want {
			t.Fatalf("%s; the first time %s", got, want)
		}
	}
}
