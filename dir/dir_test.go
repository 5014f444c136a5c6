package dir

import (
	"errors"
	"fmt"
	"math"
	"slices"
	"strings"
	"testing"
	"unsafe"

	"straddle/api"
	"straddle/grid"
	"straddle/series"
)

const (
	most  = math.MaxInt64
	least = math.MinInt64
)

// ones, fives and steps are grids: every price, every fifth one from 1 on, by two Steps.
func ones() grid.Table  { return grid.Table{{From: 1, By: 1}} }
func fives() grid.Table { return grid.Table{{From: 1, By: 5}} }
func steps() grid.Table { return grid.Table{{From: 1, By: 5}, {From: 11, By: 10}} }

// names are those that the tests ask about: some Good, some not.
func names() []string {
	return []string{"AB", "A", "C", "X", "", " ", "ab", "1A", "ABCDEFGH", "ABCDEFGHI", "AB ", "A\x00", "Ä"}
}

// numbers are those that a series may have, and what is none.
func numbers() []int {
	l := []int{least, -1 << 32, -65, -2, -1, 0, 66, 1000, 1<<32 + 1, most}
	for n := range 65 {
		l = append(l, n+1)
	}
	return l
}

// of tells a series of class AB.
func of(expiry, strike int64, right int) series.Series {
	return series.Series{Class: "AB", Expiry: expiry, Strike: strike, Right: right}
}

// made tells a directory of class AB with those prices.
func made(t *testing.T, table grid.Table) *Dir {
	t.Helper()
	d := New()
	mustClass(t, d, "AB", table)
	return d
}

func mustClass(t *testing.T, d *Dir, name string, table grid.Table) {
	t.Helper()
	if err := d.Class(name, table); err != nil {
		t.Fatalf("Class(%q, %v): %v", name, table, err)
	}
}

// mustList lists all of l, and asks for their numbers and states.
func mustList(t *testing.T, d *Dir, l ...series.Series) {
	t.Helper()
	for _, s := range l {
		ahead := len(d.Row())
		if id, err := d.List(s); id != ahead+1 || err != nil || d.State(id) != Closed {
			t.Fatalf("List(%v) behind %d others: %d, %v, state %d", s, ahead, id, err, d.State(id))
		}
	}
}

// mustSet sets a state, and asks for it.
func mustSet(t *testing.T, d *Dir, id, state int) {
	t.Helper()
	if err := d.Set(id, state); err != nil || d.State(id) != state {
		t.Fatalf("Set(%d, %d): %v, state %d", id, state, err, d.State(id))
	}
}

// look tells all that can be asked of d, the last Day too, which tells by what a twin may list yet.
func look(d *Dir) string {
	var b strings.Builder
	for _, name := range names() {
		table, ok := d.Table(name)
		fmt.Fprintln(&b, name, table, ok, d.Of(name))
	}
	for _, id := range numbers() {
		s, ok := d.Series(id)
		back, found := d.Find(s)
		fmt.Fprintln(&b, id, s, ok, back, found, d.State(id), d.Grid(id))
	}
	fmt.Fprintln(&b, d.Row())
	w := d.Twin()
	for expiry := range int64(12) {
		_, err := w.List(of(expiry, 6, series.Put))
		fmt.Fprintln(&b, expiry, err)
	}
	return b.String()
}

// checkFault asks whether err is a Fault of that part and place, and wraps want itself.
func checkFault(t *testing.T, what string, err error, part string, at int, want api.Errno) {
	t.Helper()
	f, ok := err.(*api.Fault)
	if !ok || f.Part != part || f.At != at || f.Err != want || !errors.Is(err, want) {
		t.Errorf("%s: %v; want a fault %s of %v at %d", what, err, part, want, at)
	}
}

// checkClass asks whether Class refuses so, and changes nothing.
func checkClass(t *testing.T, d *Dir, name string, table grid.Table, at int, want api.Errno) {
	t.Helper()
	was := look(d)
	checkFault(t, fmt.Sprintf("Class(%q, %v)", name, table), d.Class(name, table), "class", at, want)
	if look(d) != was {
		t.Errorf("Class(%q, %v), refused, changed something", name, table)
	}
}

// checkList asks whether List refuses so, and changes nothing.
func checkList(t *testing.T, d *Dir, s series.Series, at int, want api.Errno) {
	t.Helper()
	was := look(d)
	id, err := d.List(s)
	checkFault(t, fmt.Sprintf("List(%v)", s), err, "series", at, want)
	if id != 0 || look(d) != was {
		t.Errorf("List(%v), refused: %d, or something changed", s, id)
	}
}

// checkSet asks whether Set refuses so, and changes nothing.
func checkSet(t *testing.T, d *Dir, id, state int, want api.Errno) {
	t.Helper()
	was := look(d)
	checkFault(t, fmt.Sprintf("Set(%d, %d)", id, state), d.Set(id, state), "series", id, want)
	if look(d) != was {
		t.Errorf("Set(%d, %d), refused, changed something", id, state)
	}
}

func TestP801StatesHaveTheirNumbers(t *testing.T) {
	if l := []int{Closed, Open, Halted, Expired}; !slices.Equal(l, []int{1, 2, 3, 4}) {
		t.Errorf("%v", l)
	}
}

func TestP801ANewOneIsEmpty(t *testing.T) {
	d := New()
	for _, name := range names() {
		if table, ok := d.Table(name); len(table) != 0 || ok || len(d.Of(name)) != 0 {
			t.Errorf("%q: %v, %v, %v", name, table, ok, d.Of(name))
		}
	}
	for _, id := range numbers() {
		if s, ok := d.Series(id); s != (series.Series{}) || ok || d.State(id) != 0 || len(d.Grid(id)) != 0 {
			t.Errorf("%d: %v, %v, %d, %v", id, s, ok, d.State(id), d.Grid(id))
		}
	}
	if id, ok := d.Find(series.Series{}); id != 0 || ok || len(d.Row()) != 0 || len(d.Day(most)) != 0 {
		t.Errorf("of none: %d, %v, %v", id, ok, d.Row())
	}
}

func TestP801ClassTakesWhatIsGood(t *testing.T) {
	for _, name := range names() {
		d := New()
		if !series.Good(name) {
			checkClass(t, d, name, ones(), 0, api.ErrName)
			continue
		}
		mustClass(t, d, name, steps())
		for _, other := range names() {
			if table, ok := d.Table(other); ok != (other == name) || ok != slices.Equal(table, steps()) || !ok && len(table) != 0 {
				t.Errorf("class %q: table of %q: %v, %v", name, other, table, ok)
			}
		}
	}
}

func TestP801ClassRefusesInOrder(t *testing.T) {
	d := made(t, fives())
	for at := 1; at <= 16; at++ {
		for _, table := range []grid.Table{ones(), nil, {}, {{From: 2, By: 1}}, {{From: 1, By: 3}, {From: 3, By: 1}}} {
			checkClass(t, d, "ab", table, at, api.ErrName)
			checkClass(t, d, "", table, at, api.ErrName)
			checkClass(t, d, "ABCDEFGHI", table, at, api.ErrName)
			checkClass(t, d, "AB", table, at, api.ErrTwice)
			if at == 16 {
				checkClass(t, d, "MORE", table, at, api.ErrFull)
			}
		}
		if at < 16 {
			name := fmt.Sprint("N", at)
			mustClass(t, d, name, ones())
			checkClass(t, d, name, ones(), at+1, api.ErrTwice)
		}
	}
	if table, ok := d.Table("N15"); !ok || !slices.Equal(table, ones()) {
		t.Errorf("the sixteenth: %v, %v", table, ok)
	}
}

func TestP801ClassWrapsWhatCheckTells(t *testing.T) {
	long := slices.Repeat(ones(), 9)
	for at := range 16 {
		d := New()
		for n := range at {
			mustClass(t, d, fmt.Sprint("N", n), ones())
		}
		for _, c := range []struct {
			table grid.Table
			step  int
			want  api.Errno
		}{
			{nil, 0, api.ErrArg},
			{grid.Table{}, 0, api.ErrArg},
			{long, 8, api.ErrArg},
			{grid.Table{{From: 2, By: 1}}, 0, api.ErrArg},
			{grid.Table{{From: 1, By: 0}}, 0, api.ErrArg},
			{grid.Table{{From: 1, By: 3}, {From: 3, By: 1}}, 1, api.ErrForm},
			{grid.Table{{From: 1, By: 1}, {From: 5, By: 5}, {From: 11, By: 1}}, 2, api.ErrForm},
			{grid.Table{{From: least, By: least}}, 0, api.ErrArg},
		} {
			was := look(d)
			err := d.Class("MORE", c.table)
			f, ok := err.(*api.Fault)
			if !ok || f.Part != "class" || f.At != at || look(d) != was {
				t.Fatalf("Class of %v behind %d others: %v", c.table, at, err)
			}
			checkFault(t, fmt.Sprintf("what Class of %v wraps", c.table), errors.Unwrap(err), "step", c.step, c.want)
			if !errors.Is(err, c.want) {
				t.Errorf("Class of %v: %v is not %v", c.table, err, c.want)
			}
		}
		mustClass(t, d, "MORE", ones()) // the name that was refused is free
	}
}

func TestP801ListCountsUp(t *testing.T) {
	d := made(t, ones())
	for n := range api.MaxSeries {
		s := of(int64(7+n%3), int64(1+n/2), 1+n%2)
		mustList(t, d, s)
		if got, ok := d.Series(n + 1); got != s || !ok {
			t.Errorf("Series(%d): %v, %v; want %v", n+1, got, ok, s)
		}
		if id, ok := d.Find(s); id != n+1 || !ok {
			t.Errorf("Find(%v): %d, %v; want %d", s, id, ok, n+1)
		}
		if got, ok := d.Series(n + 2); got != (series.Series{}) || ok || d.State(n+2) != 0 {
			t.Errorf("Series(%d), not listed yet: %v, %v, state %d", n+2, got, ok, d.State(n+2))
		}
	}
	checkList(t, d, of(50, 500, series.Call), 64, api.ErrFull)
	d.Day(most)
	checkList(t, d, of(50, 500, series.Call), 64, api.ErrState) // nobody makes room by expiring
}

func TestP801ListWhatCheckRefuses(t *testing.T) {
	d := made(t, fives())
	for at := range 3 {
		for _, c := range []struct {
			s    series.Series
			want api.Errno
		}{
			{series.Series{}, api.ErrName},
			{series.Series{Class: "ab", Expiry: 5, Strike: 6, Right: series.Call}, api.ErrName},
			{series.Series{Class: "ab", Expiry: 0, Strike: 2, Right: 9}, api.ErrName},
			{series.Series{Class: "C", Expiry: 0, Strike: 6, Right: series.Call}, api.ErrArg}, // ahead of the class that is not there
			{series.Series{Class: "C", Expiry: 5, Strike: 0, Right: series.Call}, api.ErrArg},
			{series.Series{Class: "C", Expiry: 5, Strike: 6, Right: 0}, api.ErrArg},
			{of(0, 6, series.Call), api.ErrArg},
			{of(-1, 6, series.Call), api.ErrArg},
			{of(100001, 6, series.Call), api.ErrArg},
			{of(least, 6, series.Call), api.ErrArg},
			{of(most, 6, series.Call), api.ErrArg},
			{of(5, 0, series.Call), api.ErrArg}, // ahead of the grid
			{of(5, -4, series.Call), api.ErrArg},
			{of(5, 1000001, series.Call), api.ErrArg},
			{of(5, least, series.Call), api.ErrArg},
			{of(5, most, series.Call), api.ErrArg},
			{of(5, 6, 0), api.ErrArg},
			{of(5, 6, 3), api.ErrArg},
			{of(5, 2, 3), api.ErrArg},
			{of(5, 6, 1<<32+1), api.ErrArg},
		} {
			checkList(t, d, c.s, at, c.want)
		}
		mustList(t, d, of(100000, int64(1+5*at), series.Call))
	}
	mustList(t, d, of(1, 999996, series.Put))
}

func TestP801ListOfNoSuchClass(t *testing.T) {
	checkList(t, New(), of(5, 6, series.Call), 0, api.ErrName)
	d := made(t, fives())
	for at := range 3 {
		for _, class := range []string{"A", "B", "ABC", "AB0", "BA", "C"} {
			checkList(t, d, series.Series{Class: class, Expiry: 5, Strike: 6, Right: series.Call}, at, api.ErrName)
		}
		mustList(t, d, of(5, int64(1+5*at), series.Call))
	}
	mustClass(t, d, "C", ones())
	mustList(t, d, series.Series{Class: "C", Expiry: 5, Strike: 6, Right: series.Call})
}

func TestP801ListAsksTheGridOfItsClass(t *testing.T) {
	d := New()
	mustClass(t, d, "AB", steps())
	mustClass(t, d, "A", ones())
	mustClass(t, d, "C", fives())
	on := map[string]func(int64) bool{
		"AB": func(p int64) bool { return p == 1 || p == 6 || p >= 11 && p%10 == 1 },
		"A":  func(int64) bool { return true },
		"C":  func(p int64) bool { return p%5 == 1 },
	}
	at := 0
	for class, is := range on {
		for _, p := range []int64{1, 2, 5, 6, 7, 10, 11, 12, 16, 21, 26, 999991, 999996, 1000000} {
			s := series.Series{Class: class, Expiry: 5, Strike: p, Right: series.Put}
			if !is(p) {
				checkList(t, d, s, at, api.ErrGrid)
				continue
			}
			mustList(t, d, s)
			at++
		}
	}
}

func TestP801ListTwice(t *testing.T) {
	d := made(t, ones())
	mustClass(t, d, "A", ones())
	l := []series.Series{of(5, 11, series.Call), of(5, 11, series.Put), of(5, 12, series.Call), of(6, 11, series.Call), {Class: "A", Expiry: 5, Strike: 11, Right: series.Call}}
	mustList(t, d, l...) // each like the first one but for one word
	for _, s := range l {
		checkList(t, d, s, len(l), api.ErrTwice)
	}
	mustSet(t, d, 1, Open)
	d.Day(5)
	for _, s := range l {
		checkList(t, d, s, len(l), api.ErrTwice) // what expired is there yet
	}
}

func TestP801ListBehindTheLastDay(t *testing.T) {
	for _, last := range []int64{1, 2, 5, 99999, 100000, most} {
		d := made(t, ones())
		d.Day(last)
		for _, expiry := range []int64{1, 2, 3, 4, 5, 6, 99999, 100000} {
			if expiry <= last {
				checkList(t, d, of(expiry, 11, series.Call), len(d.Row()), api.ErrState)
			} else {
				mustList(t, d, of(expiry, 11, series.Call))
			}
		}
	}
	for _, last := range []int64{0, -1, least} {
		d := made(t, ones())
		d.Day(last)
		mustList(t, d, of(1, 11, series.Call))
	}
}

func TestP801ListRefusesInOrder(t *testing.T) {
	d := made(t, fives())
	d.Day(4)
	for n := range 63 {
		mustList(t, d, of(7, int64(1+5*n), series.Call))
	}
	mustList(t, d, of(5, 1, series.Call))
	d.Day(5)
	checkList(t, d, of(0, 2, series.Call), 64, api.ErrArg)
	checkList(t, d, series.Series{Class: "C", Expiry: 5, Strike: 2, Right: series.Call}, 64, api.ErrName)
	checkList(t, d, of(5, 2, series.Call), 64, api.ErrGrid)
	checkList(t, d, of(7, 2, series.Call), 64, api.ErrGrid)
	checkList(t, d, of(5, 1, series.Call), 64, api.ErrTwice)
	checkList(t, d, of(7, 1, series.Call), 64, api.ErrTwice)
	checkList(t, d, of(5, 6, series.Call), 64, api.ErrState)
	checkList(t, d, of(6, 6, series.Call), 64, api.ErrFull)
}

func TestP801FindAsksForEveryWord(t *testing.T) {
	d := made(t, ones())
	mustList(t, d, of(5, 11, series.Call), of(6, 11, series.Put))
	for _, class := range []string{"AB", "A", "ab", ""} {
		for expiry := int64(4); expiry <= 7; expiry++ {
			for strike := int64(10); strike <= 12; strike++ {
				for right := 0; right <= 3; right++ {
					s := series.Series{Class: class, Expiry: expiry, Strike: strike, Right: right}
					want := 1 + slices.Index([]series.Series{of(5, 11, series.Call), of(6, 11, series.Put)}, s)
					if id, ok := d.Find(s); id != want || ok != (want > 0) {
						t.Errorf("Find(%v): %d, %v; want %d", s, id, ok, want)
					}
				}
			}
		}
	}
}

func TestP801SetFromEachStateToAnyNumber(t *testing.T) {
	for _, from := range []int{Closed, Open, Halted, Expired} {
		for _, to := range []int{Closed, Open, Halted, Expired, 0, -1, 5, 6, 100, least, most, 1<<32 + 1, 1<<32 + 2} {
			d := made(t, ones())
			mustList(t, d, of(9, 1, series.Call), of(3, 1, series.Call), of(9, 2, series.Call))
			if from == Expired {
				d.Day(3)
			} else {
				mustSet(t, d, 2, from)
			}
			may := to >= Closed && to <= Halted
			switch {
			case !may:
				checkSet(t, d, 2, to, api.ErrArg)
			case from == Expired:
				checkSet(t, d, 2, to, api.ErrState)
			default:
				mustSet(t, d, 2, to)
			}
			if d.State(1) != Closed || d.State(3) != Closed {
				t.Errorf("from %d to %d: the others: %d, %d", from, to, d.State(1), d.State(3))
			}
		}
	}
}

func TestP801SetOfNoSuchNumber(t *testing.T) {
	d := made(t, ones())
	for n := range 4 {
		for _, id := range numbers() {
			if id >= 1 && id <= n {
				continue
			}
			for _, state := range []int{Open, Closed, Halted, Expired, 0, 9} { // ahead of a state that may not be
				checkSet(t, d, id, state, api.ErrName)
			}
			if d.State(id) != 0 {
				t.Errorf("State(%d): %d", id, d.State(id))
			}
		}
		mustList(t, d, of(9, int64(1+n), series.Call))
		mustSet(t, d, n+1, Open)
	}
}

func TestP801DayTellsWhatExpires(t *testing.T) {
	d := made(t, ones())
	mustList(t, d, of(5, 1, series.Call), of(3, 9, series.Put), of(9, 1, series.Call), of(3, 2, series.Call), of(100000, 1, series.Call), of(4, 1, series.Call), of(1, 1, series.Call))
	mustSet(t, d, 2, Open)
	mustSet(t, d, 4, Halted)
	mustSet(t, d, 3, Halted)
	mustSet(t, d, 5, Open)
	for _, c := range []struct {
		day    int64
		want   []int
		states []int
	}{
		{least, nil, []int{1, 2, 3, 3, 2, 1, 1}},
		{-1, nil, []int{1, 2, 3, 3, 2, 1, 1}},
		{0, nil, []int{1, 2, 3, 3, 2, 1, 1}},
		{3, []int{2, 4, 7}, []int{1, 4, 3, 4, 2, 1, 4}}, // by number, not by series
		{3, nil, []int{1, 4, 3, 4, 2, 1, 4}},
		{2, nil, []int{1, 4, 3, 4, 2, 1, 4}},
		{least, nil, []int{1, 4, 3, 4, 2, 1, 4}},
		{8, []int{1, 6}, []int{4, 4, 3, 4, 2, 4, 4}}, // what expired ahead is not told again
		{99999, []int{3}, []int{4, 4, 4, 4, 2, 4, 4}},
		{99998, nil, []int{4, 4, 4, 4, 2, 4, 4}},
		{most, []int{5}, []int{4, 4, 4, 4, 4, 4, 4}},
		{most, nil, []int{4, 4, 4, 4, 4, 4, 4}},
		{0, nil, []int{4, 4, 4, 4, 4, 4, 4}},
	} {
		if got := d.Day(c.day); !slices.Equal(got, c.want) {
			t.Errorf("Day(%d): %v; want %v", c.day, got, c.want)
		}
		for i, want := range c.states {
			if got := d.State(i + 1); got != want {
				t.Errorf("Day(%d): state of %d: %d; want %d", c.day, i+1, got, want)
			}
		}
	}
}

func TestP801ADayThatIsNotBehindTheLastOneIsNothing(t *testing.T) {
	d := made(t, ones())
	mustList(t, d, of(5, 1, series.Call), of(9, 1, series.Call))
	d.Day(6)
	for _, day := range []int64{6, 5, 1, 0, -1, least} {
		was := look(d)
		if l := d.Day(day); len(l) != 0 || look(d) != was {
			t.Errorf("Day(%d) behind Day(6): %v", day, l)
		}
		checkList(t, d, of(6, 1, series.Call), 2, api.ErrState) // the last Day is the one behind all others
	}
	mustList(t, d, of(7, 1, series.Call))
	if l := d.Day(7); !slices.Equal(l, []int{3}) {
		t.Errorf("Day(7): %v", l)
	}
}

func TestP801RowAndOfGoBySeries(t *testing.T) {
	d := New()
	rising := []series.Series{
		{Class: "A", Expiry: 9, Strike: 9, Right: series.Put},
		{Class: "A1", Expiry: 1, Strike: 1, Right: series.Call},
		{Class: "AB", Expiry: 2, Strike: 3, Right: series.Put},
		{Class: "AB", Expiry: 2, Strike: 4, Right: series.Call},
		{Class: "AB", Expiry: 2, Strike: 4, Right: series.Put},
		{Class: "AB", Expiry: 2, Strike: 40, Right: series.Call},
		{Class: "AB", Expiry: 10, Strike: 1, Right: series.Call},
		{Class: "B", Expiry: 1, Strike: 1, Right: series.Call},
	}
	for _, class := range []string{"B", "AB", "NONE", "A1", "A"} {
		mustClass(t, d, class, ones())
	}
	empty := d.Twin()
	for turn := range 40 { // in many an order
		d = empty.Twin()
		ids := make([]int, len(rising))
		for n := range rising {
			at := (n*(1+2*(turn%4)) + turn) % len(rising)
			mustList(t, d, rising[at])
			ids[at] = n + 1
		}
		if turn%2 == 1 { // whatever their states
			mustSet(t, d, ids[3], Halted)
			d.Day(2)
		}
		if got := d.Row(); !slices.Equal(got, ids) {
			t.Errorf("Row: %v; want %v", got, ids)
		}
		for class, want := range map[string][]int{"A": ids[:1], "A1": ids[1:2], "AB": ids[2:7], "B": ids[7:], "NONE": nil, "C": nil, "": nil, "ab": nil} {
			if got := d.Of(class); !slices.Equal(got, want) {
				t.Errorf("Of(%q): %v; want %v", class, got, want)
			}
		}
	}
}

func TestP801GridIsThatOfItsClass(t *testing.T) {
	d := New()
	mustClass(t, d, "A", ones())
	mustClass(t, d, "AB", steps())
	mustClass(t, d, "C", fives())
	l := []series.Series{of(5, 11, series.Call), {Class: "C", Expiry: 5, Strike: 11, Right: series.Call}, {Class: "A", Expiry: 5, Strike: 11, Right: series.Call}, of(9, 11, series.Call)}
	mustList(t, d, l...)
	d.Day(5)
	want := map[int]grid.Table{1: steps(), 2: fives(), 3: ones(), 4: steps()} // whatever their states
	for _, id := range numbers() {
		if got := d.Grid(id); !slices.Equal(got, want[id]) {
			t.Errorf("Grid(%d): %v; want %v", id, got, want[id])
		}
	}
}

// changes are calls that change a directory of two classes, AB the first, and three series, each in another way.
func changes() map[string]func(*Dir) {
	return map[string]func(*Dir){
		"Class":                          func(d *Dir) { d.Class("C", fives()) },
		"List":                           func(d *Dir) { d.List(of(9, 6, series.Call)) },
		"Set":                            func(d *Dir) { d.Set(1, Open) },
		"Day":                            func(d *Dir) { d.Day(5) },
		"a Day that lets nothing expire": func(d *Dir) { d.Day(2) },
	}
}

func TestP801TwinsGoTheirOwnWays(t *testing.T) {
	for what, change := range changes() {
		d := made(t, ones())
		mustClass(t, d, "A", steps())
		mustList(t, d, of(5, 1, series.Call), of(3, 1, series.Call), of(5, 2, series.Call))
		mustSet(t, d, 3, Halted)
		d.Day(1)
		w := d.Twin()
		was := look(d)
		if w == d || look(w) != was {
			t.Errorf("a twin is another one: %s; want %s", look(w), was)
		}
		change(w)
		now := look(w)
		if now == was || look(d) != was {
			t.Errorf("%s, called on a twin, changed nothing, or what has it", what)
		}
		change(d)
		if look(d) != now || look(w) != now {
			t.Errorf("%s, called on both, left them unlike", what)
		}
		v := w.Twin().Twin()
		v.Class("X", ones())
		v.List(of(8, 5, series.Put))
		w.Class("Y", fives()) // in the place where the twin's twin put its own
		w.List(of(9, 5, series.Put))
		_, ok := v.Table("Y")
		id, found := v.Find(of(9, 5, series.Put))
		if ok || found {
			t.Errorf("%s: what came to one came to its twin's twin: %v, %d", what, ok, id)
		}
	}
}

// plain is a directory as the promise tells it, word for word.
type plain struct {
	names  []string
	tables []grid.Table
	series []series.Series
	states []int
	last   int64
}

func (m *plain) class(name string, table grid.Table) error {
	at := len(m.names)
	told := func(err error) error { return &api.Fault{Part: "class", At: at, Err: err} }
	if !series.Good(name) {
		return told(api.ErrName)
	}
	if slices.Contains(m.names, name) {
		return told(api.ErrTwice)
	}
	if at == 16 {
		return told(api.ErrFull)
	}
	if err := table.Check(); err != nil {
		return told(err)
	}
	m.names, m.tables = append(m.names, name), append(m.tables, table)
	return nil
}

func (m *plain) list(s series.Series) (int, error) {
	at := len(m.series)
	told := func(err error) (int, error) { return 0, &api.Fault{Part: "series", At: at, Err: err} }
	if wrong := series.Check(s); wrong != api.OK {
		return told(wrong)
	}
	class := slices.Index(m.names, s.Class)
	if class < 0 {
		return told(api.ErrName)
	}
	if !m.tables[class].On(s.Strike) {
		return told(api.ErrGrid)
	}
	if slices.Contains(m.series, s) {
		return told(api.ErrTwice)
	}
	if s.Expiry <= m.last {
		return told(api.ErrState)
	}
	if at == 64 {
		return told(api.ErrFull)
	}
	m.series, m.states = append(m.series, s), append(m.states, 1)
	return at + 1, nil
}

func (m *plain) set(id, state int) error {
	told := func(err error) error { return &api.Fault{Part: "series", At: id, Err: err} }
	if id < 1 || id > len(m.series) {
		return told(api.ErrName)
	}
	if !slices.Contains([]int{1, 2, 3}, state) {
		return told(api.ErrArg)
	}
	if m.states[id-1] == 4 {
		return told(api.ErrState)
	}
	m.states[id-1] = state
	return nil
}

func (m *plain) day(day int64) []int {
	var l []int
	if day > m.last {
		m.last = day
		for i, s := range m.series {
			if m.states[i] != 4 && s.Expiry <= day {
				m.states[i] = 4
				l = append(l, i+1)
			}
		}
	}
	return l
}

// row tells the numbers of a class, of all for "", each put where it belongs among those ahead.
func (m *plain) row(class string) []int {
	var l []int
	for i, s := range m.series {
		if class == "" || s.Class == class {
			at := 0
			for at < len(l) && series.Compare(m.series[l[at]-1], s) < 0 {
				at++
			}
			l = slices.Insert(l, at, i+1)
		}
	}
	return l
}

// checkPlain asks whether d tells what m does.
func checkPlain(t *testing.T, d *Dir, m *plain) {
	t.Helper()
	if !slices.Equal(d.Row(), m.row("")) {
		t.Errorf("Row: %v; want %v", d.Row(), m.row(""))
	}
	for i, name := range m.names {
		if table, ok := d.Table(name); !ok || !slices.Equal(table, m.tables[i]) || !slices.Equal(d.Of(name), m.row(name)) {
			t.Errorf("%q: %v, %v, %v", name, table, ok, d.Of(name))
		}
	}
	for i, want := range m.series {
		s, ok := d.Series(i + 1)
		id, found := d.Find(want)
		table := m.tables[slices.Index(m.names, want.Class)]
		if s != want || !ok || id != i+1 || !found || d.State(i+1) != m.states[i] || !slices.Equal(d.Grid(i+1), table) {
			t.Errorf("%d: %v, %v, found %d, state %d, %v; want %v, state %d", i+1, s, ok, id, d.State(i+1), d.Grid(i+1), want, m.states[i])
		}
	}
	if n := len(m.series); d.State(n+1) != 0 || d.State(0) != 0 || len(d.Grid(n+1)) != 0 {
		t.Errorf("behind all %d: state %d, %v", n, d.State(n+1), d.Grid(n+1))
	}
}

func TestP801IsThePlainReading(t *testing.T) {
	state := uint32(1)
	next := func(n int) int {
		state = state*1664525 + 1013904223
		return int(state>>8) % n
	}
	tables := []grid.Table{ones(), fives(), steps(), ones(), fives(), steps(), nil, {{From: 1, By: 3}, {From: 3, By: 1}}}
	found := map[string]int{}
	text := func(what string, l []int, id int, err error) string {
		if err == nil {
			found[what+" ok"]++
			return fmt.Sprint(l, id)
		}
		for e := api.ErrArg; e <= api.ErrSum; e++ {
			if errors.Is(err, e) {
				found[what+" "+e.Error()]++
			}
		}
		return fmt.Sprint(id, err)
	}
	for range 60 {
		d, m := New(), &plain{}
		room := 1 + next(40) // of some directories the days go fast, of others slowly
		for range 400 {
			var got, want string
			switch kind := next(10); {
			case kind == 0:
				name, table := fmt.Sprint("N", next(18)), tables[next(len(tables))]
				if next(8) == 0 {
					name = names()[next(len(names()))]
				}
				got, want = text("class", nil, 0, d.Class(name, table)), text("class", nil, 0, m.class(name, table))
			case kind < 6:
				s := series.Series{Class: fmt.Sprint("N", next(20)), Expiry: int64(next(50)), Strike: int64(1 + 5*next(3) + next(6)/5), Right: 1 + next(21)/10}
				gotID, err := d.List(s)
				wantID, wrong := m.list(s)
				got, want = text("list", nil, gotID, err), text("list", nil, wantID, wrong)
			case kind < 9:
				id, state := next(len(m.series)+2), next(20)%5
				got, want = text("set", nil, 0, d.Set(id, state)), text("set", nil, 0, m.set(id, state))
			default:
				day := m.last - 1 + int64(next(2+room)/room)*int64(1+next(3))
				got, want = text("day", d.Day(day), 0, nil), text("day", m.day(day), 0, nil)
			}
			if got != want {
				t.Fatalf("%s; want %s", got, want)
			}
		}
		checkPlain(t, d, m)
		checkPlain(t, d.Twin(), m)
	}
	for _, what := range []string{"class ok", "class name", "class twice", "class full", "class arg", "class form", "list ok", "list name", "list arg", "list grid", "list twice", "list state", "list full", "set ok", "set name", "set arg", "set state", "day ok"} {
		if found[what] < 10 {
			t.Errorf("only %d of %s", found[what], what)
		}
	}
}

func TestP801TextsOfFaults(t *testing.T) {
	d := made(t, fives())
	_, err := d.List(of(5, 2, series.Call))
	for _, c := range []struct {
		err  error
		want string
	}{
		{d.Class("ab", ones()), "class 1: name"},
		{d.Class("C", nil), "class 1: step 0: arg"},
		{d.Class("C", grid.Table{{From: 1, By: 3}, {From: 3, By: 1}}), "class 1: step 1: form"},
		{err, "series 0: grid"},
		{d.Set(-7, Open), "series -7: name"},
	} {
		if c.err == nil || c.err.Error() != c.want {
			t.Errorf("%v; want %s", c.err, c.want)
		}
	}
}

func TestP1AnyNumbersAreAnswered(t *testing.T) {
	d := made(t, ones())
	mustList(t, d, of(5, 1, series.Call))
	wide := []int{least, -1, 0, 1, 2, 4, 5, 1000000, most}
	long := strings.Repeat("A", 1<<16)
	for _, a := range wide {
		for _, b := range wide {
			d.Set(a, b)
			d.Class(long, grid.Table{{From: int64(a), By: int64(b)}})
			d.Class("N", grid.Table{{From: 1, By: 1}, {From: int64(a), By: int64(b)}})
			for _, right := range wide {
				s := series.Series{Class: "AB", Expiry: int64(a), Strike: int64(b), Right: right}
				d.List(s)
				d.Find(s)
			}
		}
		d.Series(a)
		d.State(a)
		d.Grid(a)
		d.Day(int64(a))
	}
	d.Table(long)
	d.Of(long)
	d.Find(series.Series{Class: long})
	d.Class("N", slices.Repeat(ones(), 1<<16))
	look(d)
}

func TestP2WhatIsHandedInStaysAsItIs(t *testing.T) {
	for _, table := range []grid.Table{ones(), steps(), {{From: 1, By: 3}, {From: 3, By: 1}}, slices.Repeat(ones(), 9)} {
		whole := append(slices.Clone(table), grid.Step{From: 71, By: 72}, grid.Step{From: 73, By: 74})
		was := slices.Clone(whole)
		d := New()
		d.Class("AB", whole[:len(table)])
		d.Class("AB", whole[:len(table)])
		d.List(of(5, 11, series.Call))
		if got := d.Grid(1); len(got) > 0 {
			got[0].By = 99
			_ = append(got, grid.Step{From: 98, By: 98})
		}
		if !slices.Equal(whole, was) {
			t.Errorf("%v, handed in, is now %v", was, whole)
		}
	}
}

func TestP2NothingIsKept(t *testing.T) {
	name, table := []byte("AB"), fives()
	class := unsafe.String(&name[0], len(name)) // a text that changes: so it tells whether it was kept
	d := New()
	mustClass(t, d, class, table)
	mustList(t, d, series.Series{Class: class, Expiry: 5, Strike: 6, Right: series.Call})
	was := look(d)
	copy(name, "XY")
	table[0] = grid.Step{From: 1, By: 2}
	if look(d) != was {
		t.Errorf("what was handed in is kept: %s; want %s", look(d), was)
	}
}

func TestP2AnswersAreNewMemory(t *testing.T) {
	d := made(t, steps())
	mustList(t, d, of(5, 11, series.Call), of(3, 1, series.Put), of(5, 1, series.Call), of(9, 1, series.Call))
	w := d.Twin()
	was := look(d)
	for range 3 {
		spoil := func(table grid.Table) {
			whole := table[:cap(table)]
			for i := range whole {
				whole[i] = grid.Step{From: 77, By: 77}
			}
		}
		first, _ := d.Table("AB")
		second, _ := d.Table("AB")
		spoil(first)
		if !slices.Equal(second, steps()) {
			t.Errorf("two answers share memory: %v", second)
		}
		spoil(second)
		third, _ := w.Table("AB")
		spoil(third)
		spoil(d.Grid(1))
		spoil(w.Grid(4))
		lists := [][]int{d.Row(), d.Of("AB"), d.Row(), d.Of("AB"), w.Row(), w.Of("AB"), w.Twin().Day(5)}
		for i, l := range lists {
			before := fmt.Sprint(slices.Delete(slices.Clone(lists), i, i+1))
			whole := l[:cap(l)]
			for k := range whole {
				whole[k] = -9
			}
			if after := fmt.Sprint(slices.Delete(slices.Clone(lists), i, i+1)); after != before {
				t.Errorf("two lists share memory: %s; was %s", after, before)
			}
		}
		if look(d) != was || look(w) != was {
			t.Errorf("what is kept changes with what was answered: %s; was %s", look(d), was)
		}
	}
}

func TestP2FaultsAreTheCallersOwn(t *testing.T) {
	d := made(t, ones())
	mustList(t, d, of(5, 1, series.Call))
	was := look(d)
	for range 2 {
		_, twice := d.List(of(5, 1, series.Call))
		bad := d.Class("C", nil)
		checkFault(t, "List", twice, "series", 1, api.ErrTwice)
		checkFault(t, "what Class wraps", errors.Unwrap(bad), "step", 0, api.ErrArg)
		unset := d.Set(1, 9)
		checkFault(t, "Set", unset, "series", 1, api.ErrArg)
		for _, err := range []error{errors.Unwrap(bad), bad, twice, unset} {
			f := err.(*api.Fault)
			f.Part, f.At, f.Err = "", -1, nil
		}
		if look(d) != was {
			t.Errorf("what is kept changes with a fault: %s; was %s", look(d), was)
		}
	}
}

func TestP3TheSameCallsAnswerTheSame(t *testing.T) {
	var first string
	for range 5 {
		d := made(t, ones())
		mustClass(t, d, "A", fives())
		for n := range 30 {
			mustList(t, d, series.Series{Class: []string{"AB", "A"}[n%2], Expiry: int64(2 + n*7%11), Strike: int64(1 + 5*n), Right: 1 + n/2%2})
		}
		d.Set(7, Open)
		told := fmt.Sprint(d.Day(6)) + look(d) + fmt.Sprint(d.Day(9)) + look(d)
		if first == "" {
			first = told
		}
		if told != first {
			t.Errorf("%s; the first time %s", told, first)
		}
	}
}

func TestP5AskingChangesNothing(t *testing.T) {
	d := made(t, steps())
	mustList(t, d, of(5, 11, series.Call), of(3, 1, series.Put))
	d.Day(3)
	was := look(d)
	for range 3 {
		d.Row()
		d.Of("AB")
		d.Find(of(9, 9, 9))
		d.Twin().Day(most)
		if look(d) != was {
			t.Fatalf("asked, it is now %s; was %s", look(d), was)
		}
	}
}

func TestP7NewDirectoriesAreTheCallersOwn(t *testing.T) {
	d, other := New(), New()
	empty := look(other)
	mustClass(t, d, "AB", ones())
	mustList(t, d, of(5, 1, series.Call))
	d.Day(2)
	if other == d || look(other) != empty || look(New()) != empty {
		t.Errorf("what came to one directory came to another: %s", look(other))
	}
}
