package grid

import (
	"errors"
	"math"
	"slices"
	"sort"
	"testing"

	"straddle/api"
)

const (
	most  = math.MaxInt64
	least = math.MinInt64
)

// grids are tables that may be: of one Step to eight, of every By at the edges, up to MaxPrice.
func grids() []Table {
	return []Table{
		{{1, 1}},
		{{1, 10000}},
		{{1, 3}}, // MaxPrice itself is On
		{{1, 7}},
		{{1, 5}, {301, 10}},
		{{1, 10}, {301, 5}},
		{{1, 1}, {2, 10000}},
		{{1, 10000}, {10001, 1}},
		{{1, 1}, {api.MaxPrice - 1, 2}},
		{{1, 1}, {api.MaxPrice, 10000}},
		{{1, 9}, {api.MaxPrice, 1}},
		{{1, 1}, {2, 1}, {3, 1}, {4, 1}, {5, 1}, {6, 1}, {7, 1}, {8, 1}},
		{{1, 2}, {3, 5}, {13, 3}, {16, 1}, {17, 10000}, {30017, 9999}, {60014, 4}, {900002, 7}},
	}
}

// refused are tables that Check refuses, some of them with numbers that can't be reckoned with.
func refused() []Table {
	l := []Table{
		nil, {}, {{}}, make(Table, 9), make(Table, 1000),
		{{1, 0}}, {{1, -1}}, {{1, least}}, {{1, most}}, {{0, 1}}, {{2, 1}}, {{least, 1}}, {{most, 1}}, {{least, most}}, {{least, -1}},
		{{1, 1}, {1, 1}}, {{1, 1}, {5, 0}}, {{1, 0}, {5, 1}}, {{1, 5}, {5, 5}}, {{5, 5}, {1, 5}}, {{1, 1}, {least, least}}, {{1, 1}, {most, most}},
		{{1, 0}, {0, 0}, {-1, 0}, {-2, 0}},
	}
	nine := Table{}
	for i := range int64(9) {
		nine = append(nine, Step{1 + i, 1})
	}
	return append(l, nine)
}

// walked tells all prices of a table that may be, as the promise has them: from each From on By by By, up to where another Step begins.
func walked(t Table) []int64 {
	var l []int64
	for i, s := range t {
		end := int64(api.MaxPrice + 1)
		if i+1 < len(t) {
			end = t[i+1].From
		}
		for p := s.From; p < end; p += s.By {
			l = append(l, p)
		}
	}
	return l
}

// judged tells what the promise makes of a table: the place and number of the first error; OK if there is none.
func judged(t Table) (int, api.Errno) {
	if len(t) > 8 {
		return 8, api.ErrArg
	}
	if len(t) == 0 {
		return 0, api.ErrArg
	}
	ahead := int64(0)
	for i, s := range t {
		if i == 0 && s.From != 1 || s.From <= ahead || s.From > 1000000 || s.By < 1 || s.By > 10000 {
			return i, api.ErrArg
		}
		if i > 0 {
			p := ahead
			for p < s.From {
				p += t[i-1].By
			}
			if p != s.From {
				return i, api.ErrForm
			}
		}
		ahead = s.From
	}
	return 0, api.OK
}

// checkTable asks whether Check tells that of t: nothing of OK, else a Fault at that place that wraps want itself.
func checkTable(t *testing.T, x Table, at int, want api.Errno) {
	t.Helper()
	err := x.Check()
	if want == api.OK {
		if err != nil {
			t.Errorf("Check of %v: %v; want none", x, err)
		}
		return
	}
	f, ok := err.(*api.Fault)
	if !ok || f.Part != "step" || f.At != at || f.Err != want || !errors.Is(err, want) {
		t.Errorf("Check of %v: %v; want a fault of %v at %d", x, err, want, at)
	}
}

// checkNext asks whether a next price is that; 0 stands for none. (No t.Helper: it is called for every price, and that is slow.)
func checkNext(t *testing.T, what string, x Table, p, got int64, ok bool, want int64) {
	if got != want || ok != (want != 0) {
		t.Errorf("%v: %s of %d: %d, %v; want %d", x, what, p, got, ok, want)
	}
}

// roomy tells a copy of x with spare room behind it, and the whole of that memory.
func roomy(x Table) (view, whole Table) {
	whole = append(slices.Clone(x), make(Table, 8)...)
	for i := range whole[len(x):] {
		whole[len(x)+i] = Step{77, 88}
	}
	return whole[:len(x)], whole
}

// asked are prices about a table's Steps and about both ends, some of them far beyond these.
func asked(x Table) []int64 {
	l := []int64{least, least + 1, -1000000, -10000, -2, -1, 0, 1, 2, 3, 999, 990001, 999998, 999999, 1000000, 1000001, 1000002, 1010000, 1 << 32, most - 10000, most - 1, most}
	for _, s := range x {
		l = append(l, s.From-s.By, s.From-2, s.From-1, s.From, s.From+1, s.From+s.By-1, s.From+s.By, s.From+s.By+1)
	}
	return l
}

func TestP601CheckWordForWord(t *testing.T) {
	for _, c := range []struct {
		t    Table
		at   int
		want api.Errno
	}{
		{nil, 0, api.ErrArg},
		{Table{}, 0, api.ErrArg},
		{Table{{1, 1}}, 0, api.OK},
		{Table{{1, 10000}}, 0, api.OK},
		{Table{{0, 1}}, 0, api.ErrArg},
		{Table{{2, 1}}, 0, api.ErrArg},
		{Table{{-1, 1}}, 0, api.ErrArg},
		{Table{{1, 0}}, 0, api.ErrArg},
		{Table{{1, -1}}, 0, api.ErrArg},
		{Table{{1, 10001}}, 0, api.ErrArg},
		{Table{{1, least}}, 0, api.ErrArg},
		{Table{{1, most}}, 0, api.ErrArg},
		{Table{{1, 1}, {1, 1}}, 1, api.ErrArg},
		{Table{{1, 5}, {0, 5}}, 1, api.ErrArg},
		{Table{{1, 5}, {-4, 5}}, 1, api.ErrArg}, // a multiple of By from 1 on, but below it
		{Table{{1, 5}, {11, 5}, {6, 5}}, 2, api.ErrArg},
		{Table{{1, 5}, {11, 5}, {11, 5}}, 2, api.ErrArg},
		{Table{{1, 1}, {1000000, 1}}, 0, api.OK},
		{Table{{1, 1}, {1000001, 1}}, 1, api.ErrArg},
		{Table{{1, 1}, {most, 1}}, 1, api.ErrArg},
		{Table{{1, 1}, {least, 1}}, 1, api.ErrArg},
		{Table{{1, 1}, {2, 10000}}, 0, api.OK},
		{Table{{1, 1}, {2, 10001}}, 1, api.ErrArg},
		{Table{{1, 1}, {2, 0}}, 1, api.ErrArg},
		{Table{{1, 5}, {2, 1}}, 1, api.ErrForm},
		{Table{{1, 5}, {5, 1}}, 1, api.ErrForm}, // a multiple of By, but not from 1 on
		{Table{{1, 5}, {10, 3}}, 1, api.ErrForm},
		{Table{{1, 5}, {11, 3}}, 0, api.OK}, // no multiple of its own By
		{Table{{1, 5}, {13, 3}}, 1, api.ErrForm},
		{Table{{1, 3}, {4, 5}, {9, 2}}, 0, api.OK}, // from the one ahead's From on, not from 1
		{Table{{1, 3}, {4, 5}, {11, 2}}, 2, api.ErrForm},
		{Table{{1, 3}, {4, 5}, {10, 2}}, 2, api.ErrForm}, // it would be of the first one's By
	} {
		checkTable(t, c.t, c.at, c.want)
	}
}

func TestP601CheckHowMany(t *testing.T) {
	var x Table
	for i := range int64(40) {
		x = append(x, Step{1 + 3*i, 3})
		if len(x) <= 8 {
			checkTable(t, x, 0, api.OK)
			continue
		}
		checkTable(t, x, 8, api.ErrArg)
		for _, bad := range []Step{{0, 1}, {1, 0}, {2, 1}, {}} { // ahead of all that is wrong with a Step
			for _, at := range []int{0, 1, 7, 8} {
				y := slices.Clone(x)
				y[at] = bad
				checkTable(t, y, 8, api.ErrArg)
			}
		}
	}
	checkTable(t, make(Table, 100000), 8, api.ErrArg)
}

func TestP601CheckEveryPlace(t *testing.T) {
	good := Table{{1, 2}, {3, 5}, {13, 3}, {16, 1}, {17, 10000}, {30017, 9999}, {60014, 4}, {900002, 7}}
	checkTable(t, good, 0, api.OK)
	for i := range good {
		for _, bad := range []Step{{0, 1}, {good[i].From, 0}, {good[i].From, 10001}, {1000001, 1}, {-good[i].From, 1}} {
			x := slices.Clone(good)
			x[i] = bad
			checkTable(t, x, i, api.ErrArg)
			x[len(x)-1].By = -1 // behind the first place nothing counts
			checkTable(t, x, i, api.ErrArg)
		}
		if i > 0 && good[i-1].By > 1 {
			x := slices.Clone(good)
			x[i].From = good[i-1].From + 1
			checkTable(t, x, i, api.ErrForm)
			x[i].By = 0 // of one Step ErrArg is named first
			checkTable(t, x, i, api.ErrArg)
		}
	}
}

func TestP601CheckTheFirstStepThatHasAnError(t *testing.T) {
	checkTable(t, Table{{1, 5}, {12, 10}, {22, 0}}, 1, api.ErrForm) // not the later one's ErrArg
	checkTable(t, Table{{1, 5}, {12, 10}, {12, 10}}, 1, api.ErrForm)
	checkTable(t, Table{{1, 5}, {12, 10}, {1000001, 10}}, 1, api.ErrForm)
	checkTable(t, Table{{1, 0}, {12, 10}}, 0, api.ErrArg)
	checkTable(t, Table{{2, 5}, {8, 5}}, 0, api.ErrArg)
	checkTable(t, Table{{1, 5}, {12, 10001}}, 1, api.ErrArg)
	checkTable(t, Table{{1, 7}, {1000001, 1}}, 1, api.ErrArg)
}

func TestP601CheckIsThePlainReading(t *testing.T) {
	var steps []Step
	for _, from := range []int64{least, -9, 0, 1, 2, 4, 7, 9, 13, 1000000, 1000001, most} {
		for _, by := range []int64{least, -1, 0, 1, 2, 3, 5, 10000, 10001, most} {
			steps = append(steps, Step{from, by})
		}
	}
	found := map[api.Errno]int{}
	ask := func(x Table) {
		at, want := judged(x)
		found[want]++
		checkTable(t, x, at, want)
	}
	for _, a := range steps {
		ask(Table{a})
		for _, b := range steps {
			ask(Table{a, b})
			for _, by := range []int64{1, 3, 5, 10000} {
				ask(Table{{1, by}, a, b})
				ask(Table{{1, 1}, {4, by}, a, b})
			}
		}
	}
	for _, e := range []api.Errno{api.OK, api.ErrArg, api.ErrForm} {
		if found[e] < 400 {
			t.Errorf("only %d tables of %v were asked about", found[e], e)
		}
	}
}

func TestP601FaultsAreTheCallersOwn(t *testing.T) {
	for _, c := range []struct {
		t    Table
		want string
		at   int
		err  api.Errno
	}{
		{nil, "step 0: arg", 0, api.ErrArg},
		{make(Table, 9), "step 8: arg", 8, api.ErrArg},
		{Table{{1, 5}, {12, 5}}, "step 1: form", 1, api.ErrForm},
	} {
		err := c.t.Check()
		var f *api.Fault
		if !errors.As(err, &f) || err.Error() != c.want || errors.Unwrap(err) != c.err {
			t.Fatalf("Check of %v: %v; want %s", c.t, err, c.want)
		}
		f.Part, f.At, f.Err = "", -1, nil
		checkTable(t, c.t, c.at, c.err)
	}
}

func TestP601EveryPrice(t *testing.T) {
	for _, x := range grids() {
		checkTable(t, x, 0, api.OK)
		on := walked(x)
		last, count := int64(0), 0 // the last price that is On, and how many were
		for p := int64(-20000); p <= 1020000; p++ {
			is := count < len(on) && on[count] == p
			up, down := int64(0), int64(0)
			if is {
				down, last = last, p
				count++
				if count < len(on) {
					up = on[count]
				}
			}
			if x.On(p) != is {
				t.Fatalf("%v: On of %d: %v", x, p, !is)
			}
			next, ok := x.Up(p)
			checkNext(t, "Up", x, p, next, ok, up)
			next, ok = x.Down(p)
			checkNext(t, "Down", x, p, next, ok, down)
			if near := x.Near(p); near != last {
				t.Errorf("%v: Near of %d: %d; want %d", x, p, near, last)
			}
			if p%101 == 0 && x.Count(0, p) != count {
				t.Errorf("%v: Count up to %d: %d; want %d", x, p, x.Count(0, p), count)
			}
			if p%101 == 0 && t.Failed() { // enough is told
				return
			}
		}
		if count != len(on) {
			t.Errorf("%v: %d prices; want %d", x, count, len(on))
		}
	}
}

func TestP601FarBeyondTheEnds(t *testing.T) {
	for _, x := range grids() {
		on := walked(x)
		for _, p := range []int64{least, least + 1, -1 << 40, -1 << 32, -1000001, -1000000, -1, 0, 1000001, 1 << 31, 1<<32 + 1, 1 << 62, most - 1, most} {
			up, ok := x.Up(p)
			checkNext(t, "Up", x, p, up, ok, 0)
			down, ok := x.Down(p)
			checkNext(t, "Down", x, p, down, ok, 0)
			want := int64(0)
			if p > 0 {
				want = on[len(on)-1]
			}
			if x.On(p) || x.Near(p) != want {
				t.Errorf("%v: %d: On %v, Near %d; want %d", x, p, x.On(p), x.Near(p), want)
			}
		}
	}
}

func TestP601CountFromLoToHi(t *testing.T) {
	for _, x := range grids() {
		on := walked(x)
		below := func(p int64) int { return sort.Search(len(on), func(i int) bool { return on[i] >= p }) }
		for _, lo := range asked(x) {
			for _, hi := range asked(x) {
				want := 0
				if lo <= hi {
					want = below(hi) - below(lo)
					if len(on) > below(hi) && on[below(hi)] == hi {
						want++
					}
				}
				if got := x.Count(lo, hi); got != want {
					t.Errorf("%v: Count(%d, %d): %d; want %d", x, lo, hi, got, want)
				}
			}
		}
		if got := x.Count(least, most); got != len(on) {
			t.Errorf("%v: Count of all: %d; want %d", x, got, len(on))
		}
	}
}

func TestP601PricesWordForWord(t *testing.T) {
	x := Table{{1, 5}, {11, 10}, {31, 3}}
	for _, c := range []struct {
		p, near, up, down int64
		on                bool
	}{
		{0, 0, 0, 0, false},
		{1, 1, 6, 0, true},
		{5, 1, 0, 0, false},
		{6, 6, 11, 1, true},
		{10, 6, 0, 0, false},
		{11, 11, 21, 6, true},
		{16, 11, 0, 0, false}, // of the Step ahead it would be
		{21, 21, 31, 11, true},
		{30, 21, 0, 0, false},
		{31, 31, 34, 21, true},
		{41, 40, 0, 0, false},
		{999999, 999997, 0, 0, false},
		{1000000, 1000000, 0, 999997, true},
		{1000001, 1000000, 0, 0, false},
		{1000003, 1000000, 0, 0, false}, // By above the last price, but too great
	} {
		up, ok := x.Up(c.p)
		checkNext(t, "Up", x, c.p, up, ok, c.up)
		down, ok := x.Down(c.p)
		checkNext(t, "Down", x, c.p, down, ok, c.down)
		if x.On(c.p) != c.on || x.Near(c.p) != c.near {
			t.Errorf("%d: On %v, Near %d; want %v, %d", c.p, x.On(c.p), x.Near(c.p), c.on, c.near)
		}
	}
	if n := x.Count(6, 31); n != 4 {
		t.Errorf("Count(6, 31): %d", n)
	}
}

func TestP601UpAndDownGoOverAllThatAreOn(t *testing.T) {
	for _, x := range grids() {
		on := walked(x)
		p, ok := int64(1), true
		for i := 0; ok; i++ {
			if i >= len(on) || p != on[i] {
				t.Fatalf("%v: upwards, %d behind %d prices", x, p, i)
			}
			p, ok = x.Up(p)
		}
		p, ok = x.Near(most), true
		for i := len(on) - 1; ok; i-- {
			if i < 0 || p != on[i] {
				t.Fatalf("%v: downwards, %d ahead of %d prices", x, p, i+1)
			}
			p, ok = x.Down(p)
		}
	}
}

// askAll calls every method of x with those prices.
func askAll(x Table, prices []int64) {
	x.Check()
	for _, p := range prices {
		x.On(p)
		x.Up(p)
		x.Down(p)
		x.Near(p)
		for _, q := range prices {
			x.Count(p, q)
		}
	}
}

func TestP1RefusedTablesAreAnswered(t *testing.T) {
	for _, x := range refused() {
		if x.Check() == nil {
			t.Errorf("Check of %v: none", x)
		}
		askAll(x, asked(x[:min(len(x), 9)]))
	}
	var steps []Step
	for _, from := range []int64{least, -1, 0, 1, 2, 1000000, most} {
		for _, by := range []int64{least, -1, 0, 1, most} {
			steps = append(steps, Step{from, by})
		}
	}
	for _, a := range steps {
		for _, b := range steps {
			askAll(Table{a, b}, []int64{least, -1, 0, 1, 2, 1000000, most})
		}
	}
}

func TestP1ARefusedTableHasNoPrices(t *testing.T) {
	for _, x := range refused() {
		for _, p := range asked(x[:min(len(x), 9)]) {
			up, isUp := x.Up(p)
			down, isDown := x.Down(p)
			if x.On(p) || up != 0 || isUp || down != 0 || isDown || x.Near(p) != 0 || x.Count(least, p) != 0 {
				t.Errorf("%.9v: %d: On %v, Up %d, Down %d, Near %d, Count %d", x, p, x.On(p), up, down, x.Near(p), x.Count(least, p))
			}
		}
	}
}

func TestP2TablesStayAsTheyAre(t *testing.T) {
	for _, x := range append(grids(), refused()...) {
		view, whole := roomy(x)
		was := slices.Clone(whole)
		askAll(view, asked(x[:min(len(x), 9)]))
		if !slices.Equal(whole, was) {
			t.Errorf("%v, asked about, is now %v", was, whole)
		}
	}
}

func TestP2NothingIsKept(t *testing.T) {
	x := Table{{1, 5}, {11, 10}}
	if !x.On(21) || x.On(16) || x.Check() != nil {
		t.Errorf("%v: On of 21 %v, of 16 %v; %v", x, x.On(21), x.On(16), x.Check())
	}
	x[1] = Step{16, 3}
	if x.On(21) || !x.On(16) || x.Near(21) != 19 || x.Count(1, 21) != 5 || x.Check() != nil {
		t.Errorf("%v: On of 21 %v, of 16 %v, Near %d, Count %d; %v", x, x.On(21), x.On(16), x.Near(21), x.Count(1, 21), x.Check())
	}
	x[1].From = 17
	checkTable(t, x, 1, api.ErrForm)
}

func TestP3P5TheSameCallsAnswerTheSame(t *testing.T) {
	for _, x := range grids() {
		on := walked(x)
		for range 3 {
			for _, bad := range refused() { // what is refused changes nothing
				bad.Check()
			}
			checkTable(t, x, 0, api.OK)
			if n := x.Count(1, api.MaxPrice); n != len(on) || x.Near(api.MaxPrice) != on[n-1] {
				t.Errorf("%v: asked again: %d prices, the last one %d", x, n, x.Near(api.MaxPrice))
			}
		}
	}
}
