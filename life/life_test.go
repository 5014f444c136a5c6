package life

import (
	"fmt"
	"math"
	"slices"
	"strings"
	"testing"

	"straddle/api"
)

const (
	most  = math.MaxInt64
	least = math.MinInt64
)

// strange are numbers that are no quantities.
func strange() []int64 {
	return []int64{least, least + 1, -(1 << 32), -1000000, -2, -1, 0, 1000001, 1 << 32, 1<<32 + 5, 1 << 62, most - 1, most}
}

// nobody are numbers that are none of an order, if fewer than a million are entered.
func nobody() []int64 { return append(strange(), 1000000) }

// whoever are numbers of owners, of series, of sides: all may be.
func whoever() []int {
	return []int{0, 1, 2, 3, 64, 65, -1, -2, 1 << 32, 1<<32 + 1, 1<<32 + 2, least, least + 1, most - 1, most}
}

// entry tells what is entered of an order, none of it filled or cancelled.
func entry(owner, series, side int, qty int64) Entry {
	return Entry{Entered: qty, Open: qty, Owner: owner, Series: series, Side: side}
}

// made tells a ledger in which such are entered, with as much of each filled and cancelled as they say.
func made(t *testing.T, entries ...Entry) *Ledger {
	t.Helper()
	l := New()
	if l == nil {
		t.Fatal("New: nil")
	}
	for i, e := range entries {
		id := int64(i + 1)
		checkEnter(t, l, id, entry(e.Owner, e.Series, e.Side, e.Entered))
		if e.Filled > 0 {
			checkDone(t, "Fill", l.Fill(id, e.Filled))
		}
		if e.Cancelled > 0 {
			checkDone(t, "Cancel", l.Cancel(id, e.Cancelled))
		}
	}
	checkLedger(t, l, entries...)
	return l
}

func checkDone(t *testing.T, what string, got api.Errno) {
	t.Helper()
	if got != api.OK {
		t.Errorf("%s: %v", what, got)
	}
}

// look tells all that can be asked of a ledger, of a few numbers alone.
func look(l *Ledger) string {
	var s strings.Builder
	fmt.Fprintln(&s, "len", l.Len(), l.Fair())
	for _, n := range whoever() {
		fmt.Fprintln(&s, "owner", n, l.Open(n))
		for _, side := range whoever() {
			fmt.Fprintln(&s, "series", n, side, l.Sum(n, side))
		}
	}
	for id := int64(-1); id <= int64(l.Len())+1; id++ {
		e, ok := l.Get(id)
		fmt.Fprintln(&s, "id", id, e, ok)
	}
	return s.String()
}

// checkEnter asks whether Enter of this tells that number, and it is there.
func checkEnter(t *testing.T, l *Ledger, id int64, e Entry) {
	t.Helper()
	if got, err := l.Enter(e.Owner, e.Series, e.Side, e.Entered); got != id || err != api.OK {
		t.Errorf("Enter of %+v: %d, %v; want %d", e, got, err, id)
	}
	checkGet(t, l, id, e)
	if l.Len() != int(id) {
		t.Errorf("Len behind Enter of %d: %d", id, l.Len())
	}
}

// checkGet asks whether this became of that order.
func checkGet(t *testing.T, l *Ledger, id int64, want Entry) {
	t.Helper()
	if got, ok := l.Get(id); got != want || !ok {
		t.Errorf("Get(%d): %+v, %v; want %+v", id, got, ok, want)
	}
}

// checkLedger asks whether this became of the orders 1, 2, .., and nothing else is entered.
func checkLedger(t *testing.T, l *Ledger, want ...Entry) {
	t.Helper()
	for i, e := range want {
		checkGet(t, l, int64(i+1), e)
	}
	for _, id := range append(nobody(), int64(len(want)+1)) {
		if got, ok := l.Get(id); got != (Entry{}) || ok {
			t.Errorf("Get(%d): %+v, %v; none is there", id, got, ok)
		}
	}
	open, filled := map[int][]int64{}, map[[2]int]int64{}
	for i, e := range want {
		if e.Entered > e.Filled+e.Cancelled {
			open[e.Owner] = append(open[e.Owner], int64(i+1))
		}
		filled[[2]int{e.Series, e.Side}] += e.Filled
	}
	for _, n := range whoever() {
		if got := l.Open(n); !slices.Equal(got, open[n]) {
			t.Errorf("Open(%d): %v; want %v", n, got, open[n])
		}
		for _, side := range whoever() {
			if got := l.Sum(n, side); got != filled[[2]int{n, side}] {
				t.Errorf("Sum(%d, %d): %d; want %d", n, side, got, filled[[2]int{n, side}])
			}
		}
	}
	if l.Len() != len(want) || !l.Fair() {
		t.Errorf("Len %d, Fair %v; want %d", l.Len(), l.Fair(), len(want))
	}
}

// checkRefused asks whether Fill and Cancel refuse so, and change nothing.
func checkRefused(t *testing.T, l *Ledger, id, qty int64, want api.Errno) {
	t.Helper()
	was := look(l)
	if got := l.Fill(id, qty); got != want {
		t.Errorf("Fill(%d, %d): %v; want %v", id, qty, got, want)
	}
	if got := l.Cancel(id, qty); got != want {
		t.Errorf("Cancel(%d, %d): %v; want %v", id, qty, got, want)
	}
	if look(l) != was {
		t.Errorf("%d of %d, refused, changed something: %s; was %s", qty, id, look(l), was)
	}
}

func TestP1401ANewOneIsEmpty(t *testing.T) {
	l := made(t)
	for _, id := range append(nobody(), 1, 2) {
		checkRefused(t, l, id, 1, api.ErrName)
	}
}

func TestP1401EnterAtItsBounds(t *testing.T) {
	l := made(t)
	for i, qty := range []int64{1, 2, 999999, 1000000} {
		for _, n := range strange() {
			was := look(l)
			if id, err := l.Enter(1, 2, api.Buy, n); id != 0 || err != api.ErrArg {
				t.Errorf("Enter of %d: %d, %v", n, id, err)
			}
			if look(l) != was {
				t.Errorf("Enter of %d, refused, changed something: %s; was %s", n, look(l), was)
			}
		}
		checkEnter(t, l, int64(i+1), entry(1, 2, api.Buy, qty)) // what was refused used up no number
	}
	checkLedger(t, l, entry(1, 2, api.Buy, 1), entry(1, 2, api.Buy, 2), entry(1, 2, api.Buy, 999999), entry(1, 2, api.Buy, 1000000))
}

func TestP1401EnterAsksNothingElse(t *testing.T) {
	var all []Entry
	for i, n := range whoever() {
		qty := int64(i + 1)
		all = append(all, entry(n, 1, api.Buy, qty), entry(1, n, api.Sell, qty), entry(1, 2, n, qty), entry(n, n, n, qty))
	}
	made(t, all...)
}

func TestP1401EnterOfTheSameIsAnother(t *testing.T) {
	e := entry(3, 1, api.Buy, 5)
	l := made(t, e, e, e)
	checkDone(t, "Fill", l.Fill(2, 4))
	some := Entry{Entered: 5, Filled: 4, Open: 1, Owner: 3, Series: 1, Side: api.Buy}
	checkLedger(t, l, e, some, e)
	checkEnter(t, l, 4, e)
	checkLedger(t, l, e, some, e, e)
}

// splits tells every row of parts, each 1 or more, that are n or less in all.
func splits(n int64, f func(parts []int64)) {
	var next func(parts []int64, left int64)
	next = func(parts []int64, left int64) {
		f(parts)
		for part := int64(1); part <= left; part++ {
			next(append(parts[:len(parts):len(parts)], part), left-part)
		}
	}
	next(nil, n)
}

func TestP1401EveryWayToCloseAFewOnes(t *testing.T) {
	for qty := int64(1); qty <= 6; qty++ {
		splits(qty, func(parts []int64) {
			for mask := range 1 << len(parts) { // which of the parts are filled
				want := entry(1, 2, api.Sell, qty)
				l := made(t, entry(1, 2, api.Sell, 3), want)
				for i, part := range parts {
					want.Open -= part
					if mask>>i&1 == 1 {
						want.Filled += part
						checkDone(t, "Fill", l.Fill(2, part))
					} else {
						want.Cancelled += part
						checkDone(t, "Cancel", l.Cancel(2, part))
					}
					checkGet(t, l, 2, want)
				}
				checkLedger(t, l, entry(1, 2, api.Sell, 3), want)
			}
		})
		if t.Failed() { // enough is told
			return
		}
	}
}

func TestP1401FillAndCancelAtTheirBounds(t *testing.T) {
	for _, qty := range []int64{1, 2, 7, 999999, 1000000} {
		all := entry(3, 1, api.Buy, qty)
		l := made(t, all)
		for _, n := range append(strange(), qty+1, -qty) {
			checkRefused(t, l, 1, n, api.ErrArg)
		}
		checkDone(t, "Fill", l.Fill(1, qty))
		checkLedger(t, l, Entry{Entered: qty, Filled: qty, Owner: 3, Series: 1, Side: api.Buy})
		l = made(t, all)
		checkDone(t, "Cancel", l.Cancel(1, qty))
		checkLedger(t, l, Entry{Entered: qty, Cancelled: qty, Owner: 3, Series: 1, Side: api.Buy})
		for _, n := range append(strange(), 1, qty) { // nothing of it is Open, but it is there yet
			checkRefused(t, l, 1, n, api.ErrArg)
		}
	}
}

func TestP1401WhatIsClosedStaysClosed(t *testing.T) {
	some := Entry{Entered: 10, Filled: 4, Cancelled: 3, Open: 3, Owner: 3, Series: 1, Side: api.Buy}
	l := made(t, some, entry(4, 1, api.Sell, 9))
	for _, n := range append(strange(), 4, 6, 7, 9, 10) { // above what is Open; not above what was entered
		checkRefused(t, l, 1, n, api.ErrArg)
	}
	checkDone(t, "Fill", l.Fill(1, 3))
	for _, n := range append(strange(), 1, 3, 10) {
		checkRefused(t, l, 1, n, api.ErrArg)
	}
	checkLedger(t, l, Entry{Entered: 10, Filled: 7, Cancelled: 3, Owner: 3, Series: 1, Side: api.Buy}, entry(4, 1, api.Sell, 9))
}

func TestP1401NoSuchOrderGoesAheadOfTheQuantity(t *testing.T) {
	few := made(t, entry(3, 1, api.Buy, 5), entry(3, 2, api.Sell, 1000000))
	for _, l := range []*Ledger{made(t), few} {
		for _, id := range append(nobody(), int64(l.Len()+1), int64(l.Len()+2)) {
			for _, qty := range append(strange(), 1, 5, 1000000) {
				checkRefused(t, l, id, qty, api.ErrName)
			}
		}
	}
}

func TestP1401OpenIsRisingAndAnOwnersAlone(t *testing.T) {
	l := made(t)
	for id := int64(1); id <= 12; id++ {
		checkEnter(t, l, id, entry(int(id%3), int(id%2), 1+int(id%2), id))
	}
	check := func(owner int, want ...int64) {
		t.Helper()
		if got := l.Open(owner); !slices.Equal(got, want) {
			t.Errorf("Open(%d): %v; want %v", owner, got, want)
		}
	}
	check(0, 3, 6, 9, 12)
	check(1, 1, 4, 7, 10)
	check(2, 2, 5, 8, 11)
	checkDone(t, "Fill", l.Fill(12, 11)) // something is Open yet
	checkDone(t, "Cancel", l.Cancel(6, 6))
	checkDone(t, "Fill", l.Fill(3, 3))
	checkDone(t, "Fill", l.Fill(9, 4))
	checkDone(t, "Cancel", l.Cancel(9, 4))
	check(0, 9, 12)
	checkDone(t, "Cancel", l.Cancel(9, 1))
	checkDone(t, "Fill", l.Fill(12, 1))
	check(0)
	check(1, 1, 4, 7, 10)
	check(3)
	checkEnter(t, l, 13, entry(0, 1, api.Buy, 1))
	check(0, 13)
}

func TestP1401SumIsOfWhatWasFilledAlone(t *testing.T) {
	l := made(t,
		Entry{Entered: 10, Filled: 4, Cancelled: 6, Owner: 3, Series: 1, Side: api.Buy},
		Entry{Entered: 20, Filled: 11, Cancelled: 2, Open: 7, Owner: 4, Series: 1, Side: api.Buy},
		Entry{Entered: 30, Filled: 13, Open: 17, Owner: 3, Series: 1, Side: api.Sell},
		Entry{Entered: 40, Filled: 17, Open: 23, Owner: 3, Series: 2, Side: api.Buy},
		Entry{Entered: 50, Cancelled: 50, Owner: 3, Series: 2, Side: api.Sell},
		Entry{Entered: 60, Filled: 60, Owner: 3, Series: 0, Side: 0},
	)
	for _, c := range []struct {
		series, side int
		want         int64
	}{{1, 1, 15}, {1, 2, 13}, {2, 1, 17}, {2, 2, 0}, {0, 0, 60}, {1, 0, 0}, {1, 3, 0}, {3, 1, 0}, {-1, 1, 0}, {1<<32 + 1, 1, 0}, {1, 1<<32 + 1, 0}} {
		if got := l.Sum(c.series, c.side); got != c.want {
			t.Errorf("Sum(%d, %d): %d; want %d", c.series, c.side, got, c.want)
		}
	}
}

func TestP1401SumAbove32Bits(t *testing.T) {
	l := made(t)
	for id := int64(1); id <= 5000; id++ {
		if got, err := l.Enter(1, 2, api.Buy, 1000000); got != id || err != api.OK {
			t.Fatalf("Enter: %d, %v; want %d", got, err, id)
		}
		checkDone(t, "Fill", l.Fill(id, 1000000))
	}
	if got := l.Sum(2, api.Buy); got != 5000000000 || l.Len() != 5000 || !l.Fair() || len(l.Open(1)) != 0 {
		t.Errorf("Sum: %d; of %d, fair %v; open %v", got, l.Len(), l.Fair(), l.Open(1))
	}
}

func TestP1401FairAsksEachOrder(t *testing.T) {
	for id := int64(1); id <= 3; id++ {
		for what, turn := range map[string]func(e *Entry){
			"entered more":   func(e *Entry) { e.Entered++ },
			"entered less":   func(e *Entry) { e.Entered-- },
			"filled more":    func(e *Entry) { e.Filled++ },
			"cancelled less": func(e *Entry) { e.Cancelled-- },
			"open more":      func(e *Entry) { e.Open++ },
		} {
			l := made(t, entry(1, 1, api.Buy, 5), Entry{Entered: 9, Filled: 3, Cancelled: 2, Open: 4, Owner: 1, Series: 1, Side: api.Sell}, entry(2, 1, api.Sell, 7))
			turn(&l.entries[id-1])
			if l.Fair() {
				t.Errorf("Fair, with %s of %d", what, id)
			}
		}
	}
	for what, turn := range map[string]func(e *Entry){
		"moved to filled":    func(e *Entry) { e.Filled, e.Open = e.Filled+1, e.Open-1 },
		"moved to cancelled": func(e *Entry) { e.Cancelled, e.Open = e.Cancelled+1, e.Open-1 },
	} {
		l := made(t, entry(1, 1, api.Buy, 5))
		turn(&l.entries[0])
		if !l.Fair() {
			t.Errorf("not Fair, with one %s", what)
		}
	}
}

// plain is a ledger as the promise tells it: all that was ever said of orders.
type plain struct {
	entered  []Entry
	happened []part
}

// part is what became of some of an order: a Fill or a Cancel.
type part struct {
	id, qty int64
	filled  bool
}

func (m *plain) enter(owner, series, side int, qty int64) (int64, api.Errno) {
	if qty < 1 || qty > 1000000 {
		return 0, api.ErrArg
	}
	m.entered = append(m.entered, Entry{Entered: qty, Owner: owner, Series: series, Side: side})
	return int64(len(m.entered)), api.OK
}

func (m *plain) close(p part) api.Errno {
	if p.id < 1 || p.id > int64(len(m.entered)) {
		return api.ErrName
	}
	if p.qty < 1 || p.qty > m.entries()[p.id-1].Open {
		return api.ErrArg
	}
	m.happened = append(m.happened, p)
	return api.OK
}

// entries tells what became of each order by all that has happened.
func (m *plain) entries() []Entry {
	l := slices.Clone(m.entered)
	for _, p := range m.happened {
		if p.filled {
			l[p.id-1].Filled += p.qty
		} else {
			l[p.id-1].Cancelled += p.qty
		}
	}
	for i := range l {
		l[i].Open = l[i].Entered - l[i].Filled - l[i].Cancelled
	}
	return l
}

func TestP1401IsThePlainReading(t *testing.T) {
	state := uint32(1)
	next := func(n int) int64 {
		state = state*1664525 + 1013904223
		return int64(state>>8) % int64(n)
	}
	found := map[string]int{}
	for range 150 {
		l, m := made(t), &plain{}
		for range 60 {
			p := part{id: next(len(m.entered) + 2), qty: next(7) - 1}
			switch next(4) {
			case 0:
				owner, series, side := int(next(4)), int(next(3)), 1+int(next(2))
				got, err := l.Enter(owner, series, side, p.qty)
				want, wrong := m.enter(owner, series, side, p.qty)
				if got != want || err != wrong {
					t.Fatalf("Enter(%d, %d, %d, %d): %d, %v; want %d, %v", owner, series, side, p.qty, got, err, want, wrong)
				}
				found["enter "+err.Error()]++
			case 1, 2:
				p.filled = true
				got, want := l.Fill(p.id, p.qty), m.close(p)
				if got != want {
					t.Fatalf("Fill(%d, %d): %v; want %v", p.id, p.qty, got, want)
				}
				found["fill "+got.Error()]++
			default:
				got, want := l.Cancel(p.id, p.qty), m.close(p)
				if got != want {
					t.Fatalf("Cancel(%d, %d): %v; want %v", p.id, p.qty, got, want)
				}
				found["cancel "+got.Error()]++
			}
			checkLedger(t, l, m.entries()...)
			if t.Failed() { // enough is told
				return
			}
		}
	}
	for _, what := range []string{"enter ok", "enter arg", "fill ok", "fill arg", "fill name", "cancel ok", "cancel arg", "cancel name"} {
		if found[what] < 200 {
			t.Errorf("only %d of %s", found[what], what)
		}
	}
}

func TestP1AnyNumbersAreAnswered(t *testing.T) {
	wide := append(strange(), 1, 2, 5, 999999, 1000000)
	l := made(t)
	for _, x := range wide {
		for _, y := range wide {
			l.Enter(int(x), int(y), int(x), y)
			l.Enter(int(y), int(x), int(y), 1000000)
			l.Fill(x, y)
			l.Cancel(y, x)
			l.Get(x)
			l.Open(int(y))
			l.Sum(int(x), int(y))
		}
	}
	if !l.Fair() {
		t.Error("not Fair")
	}
}

// spoil writes over all of a list, its spare room too.
func spoil[T any](l []T, bad T) {
	whole := l[:cap(l)]
	for i := range whole {
		whole[i] = bad
	}
}

func TestP2AnswersAreNewMemory(t *testing.T) {
	l := made(t, entry(1, 1, api.Buy, 5), entry(1, 1, api.Buy, 6), entry(2, 1, api.Buy, 7), entry(1, 2, api.Sell, 8))
	was := look(l)
	one, again, two := l.Open(1), l.Open(1), l.Open(2)
	spoil(one, -9)
	if !slices.Equal(again, []int64{1, 2, 4}) || !slices.Equal(two, []int64{3}) {
		t.Errorf("two lists share memory: %v, %v", again, two)
	}
	spoil(two, -9)
	if look(l) != was {
		t.Errorf("what is kept changes with what was answered: %s; was %s", look(l), was)
	}
	got, _ := l.Get(1)
	checkDone(t, "Fill", l.Fill(1, 5))
	checkDone(t, "Cancel", l.Cancel(2, 6))
	checkEnter(t, l, 5, entry(1, 1, api.Buy, 1))
	if !slices.Equal(again, []int64{1, 2, 4}) || got != entry(1, 1, api.Buy, 5) {
		t.Errorf("what was answered changes with what is kept: %v, %+v", again, got)
	}
}

// run tells what a ledger answers to some calls, with something else ahead of each.
func run(ahead func(l *Ledger)) string {
	var s strings.Builder
	l := New()
	for n := range int64(40) {
		ahead(l)
		id, err := l.Enter(int(n%3), int(n%4), 1+int(n%2), 3+n%5)
		fmt.Fprintln(&s, id, err, look(l))
		ahead(l)
		fmt.Fprintln(&s, l.Fill(1+n*7%20, 1+n%3), look(l))
		ahead(l)
		fmt.Fprintln(&s, l.Cancel(1+n*3%20, 1+n%2), look(l))
	}
	return s.String()
}

func TestP3TheSameCallsAnswerTheSame(t *testing.T) {
	first := run(func(*Ledger) {})
	for range 3 {
		if told := run(func(*Ledger) {}); told != first {
			t.Fatalf("%s; the first time %s", told, first)
		}
	}
}

func TestP5WhatIsRefusedOrAskedChangesNothing(t *testing.T) {
	want := run(func(*Ledger) {})
	for what, ahead := range map[string]func(l *Ledger){
		"an Enter of what may not be": func(l *Ledger) {
			for _, n := range strange() {
				l.Enter(1, 1, api.Buy, n)
			}
		},
		"a Fill and a Cancel of none": func(l *Ledger) {
			for _, n := range append(nobody(), int64(l.Len()+1)) {
				l.Fill(n, 1)
				l.Cancel(n, 1)
			}
		},
		"a Fill and a Cancel of too much, too little": func(l *Ledger) {
			for id := int64(1); id <= int64(l.Len()); id++ {
				e, _ := l.Get(id)
				for _, n := range append(strange(), e.Open+1) {
					l.Fill(id, n)
					l.Cancel(id, n)
				}
			}
		},
		"asking": func(l *Ledger) { look(l) },
		"a New": func(*Ledger) {
			l := New()
			l.Enter(1, 1, api.Buy, 5)
			l.Fill(1, 2)
		},
	} {
		if got := run(ahead); got != want {
			t.Errorf("%s changed something", what)
		}
	}
}

func TestP7LedgersAreTheCallersOwn(t *testing.T) {
	l, other := made(t), made(t)
	if l == other {
		t.Error("one ledger for two")
	}
	checkEnter(t, l, 1, entry(1, 1, api.Buy, 5))
	checkLedger(t, other)
	checkEnter(t, other, 1, entry(2, 1, api.Sell, 6))
	checkDone(t, "Fill", other.Fill(1, 6))
	checkLedger(t, l, entry(1, 1, api.Buy, 5))
	checkLedger(t, other, Entry{Entered: 6, Filled: 6, Owner: 2, Series: 1, Side: api.Sell})
}
