package feed

import (
	"errors"
	"fmt"
	"maps"
	"math"
	"slices"
	"testing"

	"straddle/api"
	"straddle/book"
	"straddle/ladder"
	"straddle/msg"
	"straddle/order"
)

const (
	most  = math.MaxInt64
	least = math.MinInt64
)

// edges are numbers about both ends of what there is, about 0, and about the bounds of prices, places and half words.
func edges() []int64 {
	return []int64{0, 1, -1, 2, -2, 3, 31, 32, 33, 64, 999999, 1000000, 1000001, 1<<31 - 2, 1<<31 - 1, 1 << 31, 1<<32 - 1, 1 << 32, 1<<32 + 1, 1<<32 + 2, 1 << 40, -1 << 31, -1<<31 - 1, -1 << 32, -1<<32 + 1, most, most - 1, least, least + 1}
}

// feedKinds are those that a feed's messages have.
func feedKinds() []int { return []int{msg.Level, msg.Trade, msg.Snap, msg.Phase} }

// otherKinds are all other kinds of messages, and some that are none; of some the lower halves are a feed's kinds.
func otherKinds() []int {
	l := []int{69, 255, 256 + msg.Level, 1<<16 + msg.Snap, 1<<32 + msg.Level, 1<<32 + msg.Trade, 1<<32 + msg.Snap, 1<<32 + msg.Phase, -msg.Level, most, least, least + msg.Level}
	for kind := -1; kind < msg.Level; kind++ {
		l = append(l, kind)
	}
	return l
}

// walk tells numbers of 0 to n - 1, the same ones of the same seed.
func walk(seed uint32) func(n int) int {
	return func(n int) int {
		seed = seed*1664525 + 1013904223
		return int(seed>>8) % n
	}
}

// lv tells levels by their prices, quantities and counts.
func lv(x ...int64) []ladder.Level {
	var l []ladder.Level
	for i := 0; i < len(x); i += 3 {
		l = append(l, ladder.Level{Price: x[i], Qty: x[i+1], N: int(x[i+2])})
	}
	return l
}

// levelMsg is a Level message of series 4.
func levelMsg(seq int64, side int, price, qty, n int64) msg.Msg {
	return msg.Msg{Kind: msg.Level, Seq: seq, A: [6]int64{4, int64(side), price, qty, n}}
}

// other is a message of series 4 of a kind, with the numbers behind the series.
func other(kind int, seq int64, a ...int64) msg.Msg {
	m := msg.Msg{Kind: kind, Seq: seq, A: [6]int64{4}}
	copy(m.A[1:], a)
	return m
}

// snapMsg is a Snap of series 4 with these rows.
func snapMsg(seq, last, lastN, phase int64, rows ...msg.Row) msg.Msg {
	return msg.Msg{Kind: msg.Snap, Seq: seq, A: [6]int64{4, last, lastN, phase}, L: rows}
}

func told(v View) string { return fmt.Sprint(v.Seq, v.Bids, v.Asks, v.Last, v.LastN, v.Phase) }

func text(l []msg.Msg) string {
	s := ""
	for _, m := range l {
		s += msg.Text(m) + "\n"
	}
	return s
}

// deep tells a view that shares nothing with v.
func deep(v View) View {
	v.Bids, v.Asks = slices.Clone(v.Bids), slices.Clone(v.Asks)
	return v
}

// full is a view with something everywhere.
func full() View {
	return View{Seq: 7, Bids: lv(11, 6, 2, 9, 5, 1, 4, 3, 3), Asks: lv(12, 7, 2, 15, 8, 4), Last: 12, LastN: 3, Phase: 2}
}

// pair is how much a price has on a side, by its orders: 0 and 0 of no such level.
type pair struct{ qty, n int64 }

// plain is a view as the promise tells it: what each price of each side has.
type plain struct {
	seq, last, lastN, phase int64
	sides                   [3]map[int64]pair // of 1 and 2
}

func newPlain() *plain {
	return &plain{sides: [3]map[int64]pair{1: {}, 2: {}}}
}

func (p *plain) twin() *plain {
	t := *p
	t.sides = [3]map[int64]pair{1: maps.Clone(p.sides[1]), 2: maps.Clone(p.sides[2])}
	return &t
}

func (p *plain) put(row msg.Row) bool {
	side, price, has := row[0], row[1], pair{row[2], row[3]}
	if side < 1 || side > 2 || price < 1 || price > 1000000 || has.qty < 0 || has.n < 0 || has.qty == 0 && has.n > 0 || has.qty > 0 && has.n == 0 {
		return false
	}
	if p.sides[side][price] = has; has.n == 0 {
		delete(p.sides[side], price)
	}
	return true
}

// levels tells a side's by going through all prices from its best one on.
func (p *plain) levels(side int) []ladder.Level {
	prices := slices.Sorted(maps.Keys(p.sides[side]))
	if side == api.Buy {
		slices.Reverse(prices)
	}
	var l []ladder.Level
	for _, price := range prices {
		has := p.sides[side][price]
		l = append(l, ladder.Level{Price: price, Qty: has.qty, N: int(has.n)})
	}
	return l
}

func (p *plain) view() View {
	return View{Seq: p.seq, Bids: p.levels(1), Asks: p.levels(2), Last: p.last, LastN: p.lastN, Phase: int(p.phase)}
}

// after tells what is behind one message more, or what is wrong.
func (p *plain) after(m msg.Msg) (*plain, api.Errno) {
	t := p.twin()
	if m.Kind == msg.Snap && m.Seq <= p.seq || m.Kind != msg.Snap && (p.seq == most || m.Seq != p.seq+1) {
		return p, api.ErrSeq
	}
	t.seq = m.Seq
	ok := true
	switch m.Kind {
	case msg.Level:
		ok = t.put(msg.Row{m.A[1], m.A[2], m.A[3], m.A[4]})
	case msg.Trade:
		t.last, t.lastN = m.A[1], m.A[2]
	case msg.Phase:
		t.phase = m.A[1]
	case msg.Snap:
		t = newPlain()
		t.seq, t.last, t.lastN, t.phase = m.Seq, m.A[1], m.A[2], m.A[3]
		for _, row := range m.L {
			ok = t.put(row) && ok
		}
	default:
		ok = false
	}
	if !ok {
		return p, api.ErrForm
	}
	return t, api.OK
}

// checkFault asks whether err is none, or a Fault of feed at that place that wraps its number itself.
func checkFault(t *testing.T, what string, err error, at int, want api.Errno) {
	t.Helper()
	if want == api.OK {
		if err != nil {
			t.Errorf("%s: %v; want nothing", what, err)
		}
		return
	}
	f, ok := err.(*api.Fault)
	if !ok || f == nil || f.Part != "feed" || f.At != at || f.Err != error(want) {
		t.Errorf("%s: %v; want feed %d: %v", what, err, at, want)
	}
}

// checkRefused asks whether v is as it was behind a message that may not be, and what is told of that.
func checkRefused(t *testing.T, v View, m msg.Msg, at int, want api.Errno) {
	t.Helper()
	x, err := Fold(v, m)
	what := "Fold(" + told(v) + ", " + msg.Text(m) + ")"
	if checkFault(t, what, err, at, want); told(x) != told(v) {
		t.Errorf("%s: %s beside its error", what, told(x))
	}
}

// checkFold asks whether v is that view behind a message.
func checkFold(t *testing.T, v View, m msg.Msg, want View) View {
	t.Helper()
	x, err := Fold(v, m)
	if err != nil || told(x) != told(want) {
		t.Errorf("Fold(%s, %s): %s, %v; want %s", told(v), msg.Text(m), told(x), err, told(want))
	}
	return x
}

// checkDiff asks whether Diff tells just these Levels of series 4: price, quantity and count each.
func checkDiff(t *testing.T, was, now []ladder.Level, side int, want ...int64) {
	t.Helper()
	var l []msg.Msg
	for i := 0; i < len(want); i += 3 {
		l = append(l, levelMsg(0, side, want[i], want[i+1], want[i+2]))
	}
	if got := text(Diff(4, was, now, side)); got != text(l) {
		t.Errorf("Diff(4, %v, %v, %d):\n%swant\n%s", was, now, side, got, text(l))
	}
}

func TestP2601DiffByHand(t *testing.T) {
	few := lv(9, 5, 1, 7, 6, 2)
	for _, c := range []struct {
		was, now []ladder.Level
		want     []int64
	}{
		{nil, nil, nil}, {nil, []ladder.Level{}, nil}, {few, few, nil}, {few, slices.Clone(few), nil},
		{nil, few, []int64{9, 5, 1, 7, 6, 2}},
		{few, nil, []int64{9, 0, 0, 7, 0, 0}},
		{few, lv(9, 4, 1, 7, 6, 2), []int64{9, 4, 1}},
		{few, lv(9, 5, 2, 7, 6, 2), []int64{9, 5, 2}}, // another count alone is another level
		{few, lv(9, 5, 1, 7, 2, 6), []int64{7, 2, 6}},
		{few, lv(10, 5, 1, 7, 6, 2), []int64{10, 5, 1, 9, 0, 0}},
		{few, lv(10, 5, 1, 9, 5, 1, 8, 1, 1, 7, 6, 2, 6, 9, 9), []int64{10, 5, 1, 8, 1, 1, 6, 9, 9}},
		{lv(9, 1<<32+5, 1), lv(9, 5, 1), []int64{9, 5, 1}},
		{lv(9, 5, 1<<32+1), lv(9, 5, 1), []int64{9, 5, 1}},
		{lv(9, 5, 1), lv(9, most, most), []int64{9, most, most}},
		{lv(1000000, 5, 1), lv(1, 5, 1), []int64{1000000, 0, 0, 1, 5, 1}},
	} {
		checkDiff(t, c.was, c.now, api.Buy, c.want...)
		was, now := slices.Clone(c.was), slices.Clone(c.now)
		slices.Reverse(was)
		slices.Reverse(now)
		var want []int64
		for i := len(c.want) - 3; i >= 0; i -= 3 {
			want = append(want, c.want[i:i+3]...)
		}
		checkDiff(t, was, now, api.Sell, want...)
	}
}

// TestP2601DiffTellsItsNumbers asks each number of what Diff tells, those that mean nothing too.
func TestP2601DiffTellsItsNumbers(t *testing.T) {
	for _, series := range []int{1, 2, 64, 0, -7, 1 << 40, most, least} {
		for _, side := range []int{api.Buy, api.Sell} {
			l := Diff(series, lv(9, 5, 1), lv(8, 6, 2), side)
			if len(l) != 2 {
				t.Fatalf("%d messages: %s", len(l), text(l))
			}
			first, second := msg.Row{9, 0, 0}, msg.Row{8, 6, 2}
			if side == api.Sell {
				first, second = second, first
			}
			for i, row := range []msg.Row{first, second} {
				want := msg.Msg{Kind: msg.Level, A: [6]int64{int64(series), int64(side), row[0], row[1], row[2]}}
				if !msg.Same(l[i], want) || len(l[i].L) != 0 {
					t.Errorf("series %d, side %d: %s; want %s", series, side, msg.Text(l[i]), msg.Text(want))
				}
			}
		}
	}
}

// rowsOf tells all rows of levels in which each price has none, or one of these.
func rowsOf(prices []int64, has []pair) [][]ladder.Level {
	all := [][]ladder.Level{nil}
	for _, price := range prices {
		for _, row := range slices.Clone(all) {
			for _, h := range has {
				all = append(all, append(slices.Clone(row), ladder.Level{Price: price, Qty: h.qty, N: int(h.n)}))
			}
		}
	}
	return all
}

func hasAt(l []ladder.Level, price int64) pair {
	for _, v := range l {
		if v.Price == price {
			return pair{v.Qty, int64(v.N)}
		}
	}
	return pair{}
}

// TestP2601DiffOfAllSmallRows takes each two rows of up to three prices.
func TestP2601DiffOfAllSmallRows(t *testing.T) {
	for side, prices := range map[int][]int64{api.Buy: {9, 8, 5}, api.Sell: {5, 8, 9}} {
		all := rowsOf(prices, []pair{{1, 1}, {2, 1}, {2, 2}})
		for _, was := range all {
			for _, now := range all {
				var want []int64
				for _, price := range prices {
					if has := hasAt(now, price); has != hasAt(was, price) {
						want = append(want, price, has.qty, has.n)
					}
				}
				checkDiff(t, was, now, side, want...)
			}
		}
	}
}

// TestP2601DiffIsInTheSidesOrder has rows in any order: what is told is in the side's order all the same.
func TestP2601DiffIsInTheSidesOrder(t *testing.T) {
	next := walk(1)
	for range 300 {
		was, now := newPlain(), newPlain()
		for range next(60) {
			was.put(msg.Row{1, 1 + int64(next(40)), 1 + int64(next(3)), 1 + int64(next(2))})
		}
		now.sides[1] = maps.Clone(was.sides[1])
		for range next(30) {
			qty := int64(next(4))
			now.put(msg.Row{1, 1 + int64(next(40)), qty, min(qty, 1+int64(next(2)))})
		}
		var falling, rising []int64
		for price := int64(1); price <= 40; price++ {
			if has := now.sides[1][price]; has != was.sides[1][price] {
				rising = append(rising, price, has.qty, has.n)
				falling = append([]int64{price, has.qty, has.n}, falling...)
			}
		}
		a, b := was.levels(1), now.levels(1)
		checkDiff(t, a, b, api.Buy, falling...)
		checkDiff(t, was.levels(2), now.levels(2), api.Sell)
		slices.Reverse(a)
		slices.Reverse(b)
		checkDiff(t, a, b, api.Sell, rising...)
		for i := range a {
			j := next(len(a))
			a[i], a[j] = a[j], a[i]
		}
		checkDiff(t, a, b, api.Sell, rising...)
		checkDiff(t, b, a, api.Buy, back(was, now)...)
	}
}

// back tells what leads from now to was, falling.
func back(was, now *plain) []int64 {
	var l []int64
	for price := int64(40); price >= 1; price-- {
		if has := was.sides[1][price]; has != now.sides[1][price] {
			l = append(l, price, has.qty, has.n)
		}
	}
	return l
}

func TestP2601FoldByHand(t *testing.T) {
	v := View{}
	for _, c := range []struct {
		m    msg.Msg
		want View
	}{
		{levelMsg(1, api.Buy, 9, 5, 1), View{1, lv(9, 5, 1), nil, 0, 0, 0}},
		{levelMsg(2, api.Buy, 11, 6, 2), View{2, lv(11, 6, 2, 9, 5, 1), nil, 0, 0, 0}},
		{levelMsg(3, api.Buy, 10, 1, 1), View{3, lv(11, 6, 2, 10, 1, 1, 9, 5, 1), nil, 0, 0, 0}},
		{levelMsg(4, api.Sell, 10, 7, 3), View{4, lv(11, 6, 2, 10, 1, 1, 9, 5, 1), lv(10, 7, 3), 0, 0, 0}}, // what is crossed is told all the same
		{levelMsg(5, api.Sell, 12, 7, 3), View{5, lv(11, 6, 2, 10, 1, 1, 9, 5, 1), lv(10, 7, 3, 12, 7, 3), 0, 0, 0}},
		{levelMsg(6, api.Sell, 11, 7, 3), View{6, lv(11, 6, 2, 10, 1, 1, 9, 5, 1), lv(10, 7, 3, 11, 7, 3, 12, 7, 3), 0, 0, 0}},
		{levelMsg(7, api.Sell, 10, 0, 0), View{7, lv(11, 6, 2, 10, 1, 1, 9, 5, 1), lv(11, 7, 3, 12, 7, 3), 0, 0, 0}},
		{levelMsg(8, api.Sell, 10, 0, 0), View{8, lv(11, 6, 2, 10, 1, 1, 9, 5, 1), lv(11, 7, 3, 12, 7, 3), 0, 0, 0}},
		{levelMsg(9, api.Buy, 9, 5, 2), View{9, lv(11, 6, 2, 10, 1, 1, 9, 5, 2), lv(11, 7, 3, 12, 7, 3), 0, 0, 0}},
		{other(msg.Trade, 10, 11, 6), View{10, lv(11, 6, 2, 10, 1, 1, 9, 5, 2), lv(11, 7, 3, 12, 7, 3), 11, 6, 0}},
		{other(msg.Phase, 11, 3), View{11, lv(11, 6, 2, 10, 1, 1, 9, 5, 2), lv(11, 7, 3, 12, 7, 3), 11, 6, 3}},
		{other(msg.Trade, 12, 12, 1), View{12, lv(11, 6, 2, 10, 1, 1, 9, 5, 2), lv(11, 7, 3, 12, 7, 3), 12, 1, 3}},
		{levelMsg(13, api.Buy, 11, 0, 0), View{13, lv(10, 1, 1, 9, 5, 2), lv(11, 7, 3, 12, 7, 3), 12, 1, 3}},
		{snapMsg(14, 5, 6, 7), View{14, nil, nil, 5, 6, 7}},
		{levelMsg(15, api.Sell, 3, 1, 1), View{15, nil, lv(3, 1, 1), 5, 6, 7}},
		{snapMsg(99, 0, 0, 0, msg.Row{1, 5, 2, 1}), View{99, lv(5, 2, 1), nil, 0, 0, 0}},
	} {
		v = checkFold(t, v, c.m, c.want)
	}
}

// seqs are turns of no message but a Snap behind one of that turn.
func seqs(v int64) []int64 {
	l := []int64{v, v + 2, v + 3, v - 1, v + 1 + 1<<32, v + 1 - 1<<32, v + 1 + 1<<31, -v - 1, 0, 1, most, least}
	return slices.DeleteFunc(append(l, edges()...), func(s int64) bool { return v != most && s == v+1 })
}

func TestP2601FoldInItsTurn(t *testing.T) {
	for _, at := range edges() {
		v := full()
		v.Seq = at
		cut := int(max(0, min(at, 1<<31-1)))
		for _, kind := range append(feedKinds(), otherKinds()...) {
			for _, seq := range seqs(at) {
				if kind != msg.Snap || seq <= at {
					checkRefused(t, v, other(kind, seq, 1, 9, 5, 1), cut, api.ErrSeq)
				}
			}
		}
		if at == most { // no turn is behind it
			checkRefused(t, v, other(msg.Phase, least), cut, api.ErrSeq)
			checkRefused(t, v, snapMsg(least, 1, 2, 3), cut, api.ErrSeq)
			continue
		}
		want := full()
		want.Seq, want.Phase = at+1, 1
		checkFold(t, v, other(msg.Phase, at+1, 1), want)
		for _, seq := range append(seqs(at), at+1) {
			if seq > at {
				checkFold(t, v, snapMsg(seq, 1, 2, 3), View{seq, nil, nil, 1, 2, 3})
			}
		}
	}
}

// TestP2601OutOfTurnComesFirst has messages with more than one thing wrong.
func TestP2601OutOfTurnComesFirst(t *testing.T) {
	v := full()
	for _, m := range []msg.Msg{
		levelMsg(9, 3, 0, -1, 5), levelMsg(7, api.Buy, 0, 5, 1), other(msg.New, 9), other(99, 0),
		snapMsg(7, 0, 0, 0, msg.Row{0, 7, 1, 1}), snapMsg(0, 0, 0, 0, msg.Row{1, 7, 1, 0}),
	} {
		checkRefused(t, v, m, 7, api.ErrSeq)
	}
}

func TestP2601FaultsWordForWord(t *testing.T) {
	for _, c := range []struct {
		seq  int64
		m    msg.Msg
		text string
		err  api.Errno
	}{
		{0, other(msg.Phase, 2), "feed 0: seq", api.ErrSeq}, {5, other(msg.Phase, 5), "feed 5: seq", api.ErrSeq}, {5, other(msg.Beat, 6), "feed 5: form", api.ErrForm},
		{-1, levelMsg(0, 3, 1, 1, 1), "feed 0: form", api.ErrForm}, {least, other(msg.Phase, 1), "feed 0: seq", api.ErrSeq},
		{1<<31 - 2, levelMsg(1<<31-1, 3, 1, 1, 1), "feed 2147483646: form", api.ErrForm}, {1<<31 - 1, levelMsg(1<<31, 3, 1, 1, 1), "feed 2147483647: form", api.ErrForm},
		{1 << 31, levelMsg(1<<31+1, 3, 1, 1, 1), "feed 2147483647: form", api.ErrForm}, {most, other(msg.Phase, least), "feed 2147483647: seq", api.ErrSeq},
	} {
		for _, err := range []error{second(Fold(View{Seq: c.seq}, c.m)), second(All(View{Seq: c.seq}, []msg.Msg{c.m}))} {
			var f *api.Fault
			if !errors.As(err, &f) || !errors.Is(err, c.err) || errors.Unwrap(err) != error(c.err) || err.Error() != c.text {
				t.Errorf("from %d, %s: %v; want %s", c.seq, msg.Text(c.m), err, c.text)
			}
		}
	}
}

func second(_ View, err error) error { return err }

func TestP2601AnotherKindIsNone(t *testing.T) {
	for _, kind := range otherKinds() {
		for _, v := range []View{{}, full()} {
			m := other(kind, v.Seq+1, 1, 9, 5, 1)
			checkRefused(t, v, m, int(v.Seq), api.ErrForm)
			m.L = []msg.Row{{1, 7, 1, 1}}
			checkRefused(t, v, m, int(v.Seq), api.ErrForm)
		}
	}
}

// Numbers of a level as a message says it; those that may not be are among them.

func levelSides() []int64 { return []int64{1, 2, 0, 3, -1, 1<<32 + 1, 1<<32 + 2, most, least} }

func levelPrices() []int64 {
	return []int64{1, 2, 999999, 1000000, 0, -1, 1000001, 1<<32 + 5, most, least}
}

func levelCounts() []int64 { return []int64{0, 1, 5, 1000001, 1 << 40, most, -1, -5, least} }

// levelRows are levels of all of these numbers.
func levelRows() []msg.Row {
	var l []msg.Row
	for _, side := range levelSides() {
		for _, price := range levelPrices() {
			for _, qty := range levelCounts() {
				for _, n := range levelCounts() {
					l = append(l, msg.Row{side, price, qty, n})
				}
			}
		}
	}
	return l
}

// anyRow is one of levelRows.
func anyRow(next func(n int) int) msg.Row {
	pick := func(l []int64) int64 { return l[next(len(l))] }
	return msg.Row{pick(levelSides()), pick(levelPrices()), pick(levelCounts()), pick(levelCounts())}
}

// TestP2601LevelsThatMayNotBe says each of levelRows as a Level, and as a row of a Snap, alone and behind and ahead of others.
func TestP2601LevelsThatMayNotBe(t *testing.T) {
	good, v := 0, full()
	for _, row := range levelRows() {
		p := newPlain()
		m := msg.Msg{Kind: msg.Level, Seq: 8, A: [6]int64{4, row[0], row[1], row[2], row[3]}}
		snaps := []msg.Msg{snapMsg(8, 1, 2, 3, row), snapMsg(99, 1, 2, 3, msg.Row{1, 7, 1, 1}, row), snapMsg(8, 1, 2, 3, row, msg.Row{2, 7, 1, 1}), snapMsg(8, 1, 2, 3, row, row)}
		if !p.put(row) {
			checkRefused(t, v, m, 7, api.ErrForm)
			for _, s := range snaps {
				checkRefused(t, v, s, 7, api.ErrForm)
			}
			continue
		}
		good++
		for _, m := range append(snaps, m) {
			p = newPlain()
			if p.seq = 7; m.Kind == msg.Level {
				p.last, p.lastN, p.phase = 12, 3, 2
				p.sides = [3]map[int64]pair{1: {11: {6, 2}, 9: {5, 1}, 4: {3, 3}}, 2: {12: {7, 2}, 15: {8, 4}}}
			}
			p, _ = p.after(m)
			checkFold(t, v, m, p.view())
		}
	}
	if want := 2 * 4 * (1 + 5*5); good != want {
		t.Errorf("%d may be; want %d", good, want)
	}
}

// TestP2601OnlyItsNumbersAreAsked folds messages whose other numbers and rows may be any.
func TestP2601OnlyItsNumbersAreAsked(t *testing.T) {
	rows := []msg.Row{{0, -1, -2, -3, -4}, {1, 5, 5, 5, 5}}
	for _, e := range edges() {
		v, want := full(), full()
		want.Seq = 8
		want.Last, want.LastN = e, -e
		checkFold(t, v, msg.Msg{Kind: msg.Trade, Seq: 8, A: [6]int64{e, e, -e, e, e, e}, L: rows}, want)
		want = full()
		want.Seq, want.Phase = 8, int(e)
		checkFold(t, v, msg.Msg{Kind: msg.Phase, Seq: 8, A: [6]int64{e, e, e, e, e, e}, L: rows}, want)
		want = full()
		want.Seq, want.Bids = 8, lv(11, 6, 2, 9, 5, 2, 4, 3, 3)
		checkFold(t, v, msg.Msg{Kind: msg.Level, Seq: 8, A: [6]int64{e, 1, 9, 5, 2, e}, L: rows}, want)
		checkFold(t, v, msg.Msg{Kind: msg.Snap, Seq: 8, A: [6]int64{e, e, -e, e, e, e}, L: []msg.Row{{2, 5, 6, 7, 0}}}, View{8, nil, lv(5, 6, 7), e, -e, int(e)})
	}
}

// TestP2601SnapRowsAreLevels says one side's levels in any order, some twice, some that are none.
func TestP2601SnapRowsAreLevels(t *testing.T) {
	checkFold(t, full(), snapMsg(21, 8, 9, 1, msg.Row{2, 7, 1, 1}, msg.Row{1, 5, 2, 1}, msg.Row{1, 6, 3, 2}, msg.Row{1, 5, 4, 4}, msg.Row{2, 7, 0, 0}, msg.Row{1, 9, 0, 0}), View{21, lv(6, 3, 2, 5, 4, 4), nil, 8, 9, 1})
	checkFold(t, full(), snapMsg(8, 0, 0, 0, msg.Row{1, 5, 0, 0}, msg.Row{1, 5, 1, 1}), View{8, lv(5, 1, 1), nil, 0, 0, 0})
	next := walk(2)
	for range 500 {
		m := snapMsg(8, int64(next(9)), int64(next(9)), int64(next(5)))
		for range next(150) { // more than a Snap has room for
			n := int64(next(3))
			m.L = append(m.L, msg.Row{1 + int64(next(2)), 1 + int64(next(20)), n * int64(1+next(5)), n})
		}
		p, err := newPlain().after(m)
		if err != api.OK {
			t.Fatal(msg.Text(m))
		}
		checkFold(t, full(), m, p.view())
	}
}

// TestP2601FoldOfAllFourLevels goes through all rows of four Levels of three prices of one side.
func TestP2601FoldOfAllFourLevels(t *testing.T) {
	has := []pair{{0, 0}, {1, 1}, {2, 2}}
	for side := 1; side <= 2; side++ {
		for i := range 9 * 9 * 9 * 9 {
			p, v := newPlain(), View{}
			for rest, n := i, int64(1); n <= 4; rest, n = rest/9, n+1 {
				h := has[rest%3]
				m := levelMsg(n, side, int64(5+rest/3%3), h.qty, h.n)
				p, _ = p.after(m)
				v = checkFold(t, v, m, p.view())
			}
			if t.Failed() { // enough is told
				t.Fatalf("in row %d of side %d", i, side)
			}
		}
	}
}

// message tells one of many that may come behind turn seq, some that may not.
func message(next func(n int) int, seq int64) msg.Msg {
	m := msg.Msg{Kind: feedKinds()[next(4)], Seq: seq + 1}
	for i := range m.A {
		m.A[i] = int64(next(12))
	}
	if next(6) > 0 { // a level that may be, most often
		n := int64(next(4))
		m.Kind, m.A = msg.Level, [6]int64{4, 1 + int64(next(2)), 1 + int64(next(25)), n * int64(1+next(5)), n}
	}
	if m.Kind == msg.Snap {
		for range next(8) {
			m.L = append(m.L, msg.Row{1 + int64(next(2)), 1 + int64(next(12)), 1 + int64(next(5)), 1 + int64(next(3))})
		}
		m.Seq += int64(next(5))
	}
	switch next(20) {
	case 0:
		m.Seq = seqs(seq)[next(12)]
	case 1:
		m.A[1+next(4)] = edges()[next(len(edges()))]
	case 2:
		m.Kind = otherKinds()[next(len(otherKinds()))]
	case 3:
		m.L = append(m.L, anyRow(next))
	}
	return m
}

func TestP2601IsThePlainReading(t *testing.T) {
	next, found := walk(3), map[string]int{}
	for round := range 60 {
		p, v := newPlain(), View{}
		if round%6 == 5 { // up to the last turn that there is
			p.seq = most - 100
			v.Seq = p.seq
		}
		for range 150 {
			m := message(next, v.Seq)
			was, cut := told(v), int(min(v.Seq, 1<<31-1))
			now, want := p.after(m)
			x, err := Fold(v, m)
			checkFault(t, msg.Text(m), err, cut, want)
			if told(x) != told(now.view()) || told(v) != was || !Same(x, now.view()) {
				t.Fatalf("Fold(%s, %s): %s; want %s", was, msg.Text(m), told(x), told(now.view()))
			}
			found[fmt.Sprint(min(m.Kind, 69), want)]++
			p, v = now, x
		}
	}
	for _, w := range []string{"65 ok", "66 ok", "67 ok", "68 ok", "65 seq", "67 seq", "65 form", "67 form"} {
		if found[w] < 5 {
			t.Errorf("%s: only %d", w, found[w])
		}
	}
}

// TestP2601AllIsFoldByFold takes rows of messages, most of them with one that may not be.
func TestP2601AllIsFoldByFold(t *testing.T) {
	next, stopped := walk(4), 0
	for range 2000 {
		v := full()
		var l []msg.Msg
		seq := v.Seq
		for range next(25) {
			m := message(next, seq)
			l = append(l, m)
			seq = max(seq, m.Seq) // behind one that may not be, others come that might
		}
		want, wrong := deep(v), error(nil)
		for _, m := range l {
			if want, wrong = Fold(want, m); wrong != nil {
				stopped++
				break
			}
		}
		got, err := All(v, l)
		if told(got) != told(want) || (err == nil) != (wrong == nil) || err != nil && err.Error() != wrong.Error() {
			t.Fatalf("All:\n%s%s, %v; want %s, %v", text(l), told(got), err, told(want), wrong)
		}
		if told(v) != told(full()) {
			t.Fatalf("All changed the view that it was handed: %s", told(v))
		}
	}
	if stopped < 200 || stopped > 1800 {
		t.Errorf("%d of 2000 were stopped", stopped)
	}
}

func TestP2601AllEndsAtTheFirstError(t *testing.T) {
	good := []msg.Msg{other(msg.Phase, 1, 2), levelMsg(2, 1, 9, 5, 1), levelMsg(3, 2, 12, 5, 1), other(msg.Trade, 4, 12, 1)}
	want := View{4, lv(9, 5, 1), lv(12, 5, 1), 12, 1, 2}
	for _, c := range []struct {
		m   msg.Msg
		err api.Errno
	}{
		{other(msg.Trade, 6, 9, 9), api.ErrSeq}, {other(msg.Trade, 4, 9, 9), api.ErrSeq}, {other(msg.Login, 5), api.ErrForm}, {levelMsg(5, 1, 9, 0, 1), api.ErrForm},
		{snapMsg(4, 1, 1, 1), api.ErrSeq}, {snapMsg(5, 1, 1, 1, msg.Row{1, 3, 3, 3}, msg.Row{1, 3, 3, 0}), api.ErrForm},
	} {
		for _, behind := range []msg.Msg{other(msg.Phase, 5, 9), snapMsg(50, 9, 9, 9), other(msg.Phase, 99), levelMsg(5, 3, 0, 0, 0)} {
			v, err := All(View{}, append(slices.Clone(good), c.m, behind))
			if checkFault(t, msg.Text(c.m), err, 4, c.err); told(v) != told(want) {
				t.Errorf("%s: %s; want %s", msg.Text(c.m), told(v), told(want))
			}
		}
	}
	for n := range good {
		v, err := All(View{}, append(slices.Clone(good[:n]), other(msg.Phase, 77)))
		if checkFault(t, "All", err, n, api.ErrSeq); v.Seq != int64(n) {
			t.Errorf("%d ahead: %s", n, told(v))
		}
	}
	for _, l := range [][]msg.Msg{nil, {}} {
		if v, err := All(full(), l); told(v) != told(full()) || err != nil {
			t.Errorf("All of nothing: %s, %v", told(v), err)
		}
	}
}

// manyLevels are n levels from a price on, by so much each.
func manyLevels(n int, from, by int64) []ladder.Level {
	var l []ladder.Level
	for i := range int64(n) {
		l = append(l, ladder.Level{Price: from + i*by, Qty: 3*i + 2, N: int(i + 1)})
	}
	return l
}

func TestP2601SnapTellsItsNumbers(t *testing.T) {
	v := full()
	for _, series := range []int{1, 64, 0, -7, 1 << 40, most, least} {
		want := msg.Msg{Kind: msg.Snap, Seq: 8, A: [6]int64{int64(series), 12, 3, 2}, L: []msg.Row{{1, 11, 6, 2, 0}, {1, 9, 5, 1, 0}, {1, 4, 3, 3, 0}, {2, 12, 7, 2, 0}, {2, 15, 8, 4, 0}}}
		if m := Snap(series, v); !msg.Same(m, want) {
			t.Errorf("Snap(%d): %s; want %s", series, msg.Text(m), msg.Text(want))
		}
	}
	for _, e := range edges() {
		if e == most { // no turn is behind it
			continue
		}
		m := Snap(4, View{Seq: e, Last: e, LastN: -e, Phase: int(e)})
		if want := snapMsg(e+1, e, -e, e); !msg.Same(m, want) {
			t.Errorf("Snap: %s; want %s", msg.Text(m), msg.Text(want))
		}
	}
}

func TestP2601SnapHas32LevelsASide(t *testing.T) {
	counts := []int{0, 1, 2, 31, 32, 33, 34, 40, 64, 65, 200}
	for _, bids := range counts {
		for _, asks := range counts {
			v := View{Seq: 5, Bids: manyLevels(bids, 1000, -1), Asks: manyLevels(asks, 2000, 3), Last: 1, LastN: 2, Phase: 3}
			m := Snap(4, v)
			var want []msg.Row
			for i := range int64(min(bids, 32)) {
				want = append(want, msg.Row{1, 1000 - i, 3*i + 2, i + 1})
			}
			for i := range int64(min(asks, 32)) {
				want = append(want, msg.Row{2, 2000 + 3*i, 3*i + 2, i + 1})
			}
			if !slices.Equal(m.L, want) {
				t.Fatalf("Snap of %d and %d: %v; want %v", bids, asks, m.L, want)
			}
			b, err := msg.Encode(m) // it is a message that may go on the road
			if back, wrong := msg.Decode(b); err != nil || wrong != nil || !msg.Same(back, m) {
				t.Fatalf("Snap of %d and %d: %v, %v", bids, asks, err, wrong)
			}
			checkFold(t, View{}, m, View{6, v.Bids[:min(bids, 32)], v.Asks[:min(asks, 32)], 1, 2, 3})
			checkFold(t, v, m, View{6, v.Bids[:min(bids, 32)], v.Asks[:min(asks, 32)], 1, 2, 3})
		}
	}
}

// otherViews are all views that are another one than v by one thing.
func otherViews(v View) []View {
	var l []View
	for _, f := range []func(v *View){
		func(v *View) { v.Seq++ }, func(v *View) { v.Seq += 1 << 32 }, func(v *View) { v.Last-- }, func(v *View) { v.Last += 1 << 32 },
		func(v *View) { v.LastN++ }, func(v *View) { v.LastN += 1 << 32 }, func(v *View) { v.Phase++ }, func(v *View) { v.Phase += 1 << 32 },
		func(v *View) { v.Bids, v.Asks = v.Asks, v.Bids }, func(v *View) { v.Last, v.LastN = v.LastN, v.Last },
	} {
		y := deep(v)
		f(&y)
		l = append(l, y)
	}
	for i := range 2 {
		side := func(v *View) *[]ladder.Level { return []*[]ladder.Level{&v.Bids, &v.Asks}[i] }
		for n := range *side(&v) {
			for _, f := range []func(l []ladder.Level) []ladder.Level{
				func(l []ladder.Level) []ladder.Level { return slices.Delete(l, n, n+1) },
				func(l []ladder.Level) []ladder.Level { return l[:n] },
				func(l []ladder.Level) []ladder.Level { return append(l, ladder.Level{}) },
				func(l []ladder.Level) []ladder.Level { l[n].Price++; return l },
				func(l []ladder.Level) []ladder.Level { l[n].Qty++; return l },
				func(l []ladder.Level) []ladder.Level { l[n].N++; return l },
				func(l []ladder.Level) []ladder.Level { l[n].Qty += 1 << 32; return l },
				func(l []ladder.Level) []ladder.Level { l[n].N += 1 << 32; return l },
				func(l []ladder.Level) []ladder.Level { l[n], l[(n+1)%len(l)] = l[(n+1)%len(l)], l[n]; return l },
			} {
				y := deep(v)
				*side(&y) = f(*side(&y))
				l = append(l, y)
			}
		}
	}
	return l
}

func TestP2601SameIsAllTheSame(t *testing.T) {
	v := full()
	for _, same := range []View{v, deep(v)} {
		if !Same(v, same) || !Same(same, v) {
			t.Errorf("%s is not the same", told(same))
		}
	}
	if !Same(View{}, View{Bids: []ladder.Level{}, Asks: make([]ladder.Level, 0, 9)}) || !Same(View{Asks: []ladder.Level{}}, View{}) {
		t.Error("no levels are not the same as none")
	}
	for i, y := range otherViews(v) {
		if Same(v, y) || Same(y, v) || !Same(y, y) || !Same(y, deep(y)) {
			t.Errorf("%d: %s and %s", i, told(v), told(y))
		}
	}
}

// teller tells a book's feed, message by message, as those who run it would.
type teller struct {
	b    *book.Book
	next func(n int) int
	id   int64
	feed []msg.Msg
}

func (f *teller) tell(l ...msg.Msg) {
	for _, m := range l {
		m.Seq = int64(len(f.feed) + 1)
		f.feed = append(f.feed, m)
	}
}

// do lets one order come, go or be reduced.
func (f *teller) do() {
	id, next := 1+int64(f.next(int(f.id+1))), f.next
	switch next(5) {
	case 0:
		f.b.Remove(id)
	case 1:
		if o, ok := f.b.Get(id); ok {
			f.b.Reduce(id, 1+int64(next(int(o.Qty))))
		}
	default:
		f.id++
		f.b.Insert(order.Order{ID: f.id, Owner: 3, Side: 1 + next(2), Price: 1 + int64(next(60)), Qty: 1 + int64(next(9)), Cust: next(2) == 0})
	}
}

// step lets some orders come and go, and tells the levels that are others behind that.
func (f *teller) step() {
	was := f.b.Twin()
	for range f.next(5) {
		f.do()
	}
	switch f.next(9) {
	case 0:
		f.tell(other(msg.Trade, 0, 1+int64(f.next(9)), 1+int64(f.next(9))))
	case 1:
		f.tell(other(msg.Phase, 0, 1+int64(f.next(4))))
	}
	for side := 1; side <= 2; side++ {
		f.tell(Diff(4, was.Levels(side), f.b.Levels(side), side)...)
	}
}

// TestT4AFeedFoldedIsItsBook folds a feed from nothing, and again from Snaps on its way while these say all.
func TestT4AFeedFoldedIsItsBook(t *testing.T) {
	for seed := range uint32(12) {
		f := &teller{b: book.New(), next: walk(seed)}
		v, done := View{}, 0
		for range 250 {
			f.step()
			x, err := All(v, f.feed[done:])
			if err != nil || !slices.Equal(x.Bids, f.b.Levels(api.Buy)) || !slices.Equal(x.Asks, f.b.Levels(api.Sell)) || x.Seq != int64(len(f.feed)) {
				t.Fatalf("seed %d: %s, %v; want %v, %v", seed, told(x), err, f.b.Levels(api.Buy), f.b.Levels(api.Sell))
			}
			if len(v.Bids) <= 32 && len(v.Asks) <= 32 {
				late, err := Fold(View{}, Snap(4, v))
				if late.Seq--; err != nil || !Same(late, v) {
					t.Fatalf("seed %d: Snap of %s: %s, %v", seed, told(v), told(late), err)
				}
				if late, err = All(late, f.feed[done:]); err != nil || !Same(late, x) {
					t.Fatalf("seed %d: behind a Snap: %s, %v; want %s", seed, told(late), err, told(x))
				}
			}
			v, done = x, len(f.feed)
		}
		if whole, err := All(View{}, f.feed); err != nil || !Same(whole, v) || len(f.feed) < 300 {
			t.Errorf("seed %d: %d messages: %s, %v; want %s", seed, len(f.feed), told(whole), err, told(v))
		}
	}
}

// TestW5InTurn leaves messages of a feed out, says them twice, or turns two round: only all of them in turn may be.
func TestW5InTurn(t *testing.T) {
	f := &teller{b: book.New(), next: walk(9)}
	for len(f.feed) < 120 {
		f.step()
	}
	for i := range f.feed {
		out := slices.Delete(slices.Clone(f.feed), i, i+1)
		if v, err := All(View{}, out); v.Seq != int64(i) || (err == nil) != (i == len(out)) {
			t.Errorf("without %d: up to %d, %v", i+1, v.Seq, err)
		}
		twice := slices.Insert(slices.Clone(f.feed), i, f.feed[i])
		v, err := All(View{}, twice)
		if checkFault(t, "twice", err, i+1, api.ErrSeq); v.Seq != int64(i+1) {
			t.Errorf("%d twice: up to %d", i+1, v.Seq)
		}
		if i > 0 {
			turned := slices.Clone(f.feed)
			turned[i-1], turned[i] = turned[i], turned[i-1]
			v, err := All(View{}, turned)
			if checkFault(t, "turned", err, i-1, api.ErrSeq); v.Seq != int64(i-1) {
				t.Errorf("%d ahead of its turn: up to %d", i+1, v.Seq)
			}
		}
	}
}

// anyLevels are levels of any numbers, in any order, some twice.
func anyLevels(next func(n int) int, n int) []ladder.Level {
	var l []ladder.Level
	e := edges()
	for range n {
		l = append(l, ladder.Level{Price: e[next(len(e))], Qty: e[next(len(e))], N: int(e[next(len(e))])})
	}
	return l
}

func TestP1AnythingIsAnswered(t *testing.T) {
	next, e := walk(6), edges()
	for range 4000 {
		v := View{Seq: e[next(len(e))], Bids: anyLevels(next, next(40)), Asks: anyLevels(next, next(40)), Last: e[next(len(e))], LastN: e[next(len(e))], Phase: int(e[next(len(e))])}
		kinds := append(otherKinds(), feedKinds()...)
		m := msg.Msg{Kind: kinds[next(len(kinds))], Seq: e[next(len(e))]}
		if next(2) == 0 {
			m.Kind, m.Seq = feedKinds()[next(4)], v.Seq+1
		}
		for i := range m.A {
			m.A[i] = e[next(len(e))]
		}
		for range next(5) {
			m.L = append(m.L, anyRow(next))
		}
		Fold(v, m)
		Fold(v, levelMsg(v.Seq+1, 1+next(2), 1+int64(next(1000000)), int64(next(2)), int64(next(2))))
		All(v, []msg.Msg{m, m, Snap(int(e[next(len(e))]), v)})
		Diff(int(e[next(len(e))]), v.Bids, v.Asks, int(e[next(len(e))]))
		Same(v, View{Bids: v.Asks, Asks: v.Bids})
	}
}

// roomy tells l with spare room behind it that has something, and all of its memory.
func roomy(l []ladder.Level) (with, memory []ladder.Level) {
	memory = append(slices.Clone(l), lv(77, 77, 77, 78, 78, 78, 79, 79, 79)...)
	return memory[:len(l)], memory
}

func TestP2WhatIsHandedInIsNotChanged(t *testing.T) {
	var v View
	var bids, asks []ladder.Level
	fresh := func() {
		v = full()
		v.Bids, bids = roomy(v.Bids)
		v.Asks, asks = roomy(v.Asks)
	}
	fresh()
	wasBids, wasAsks := slices.Clone(bids), slices.Clone(asks)
	rows := []msg.Row{{1, 5, 2, 1}, {2, 9, 2, 1}, {1, 5, 0, 0}, {7, 7, 7, 7}}
	wasRows := slices.Clone(rows)
	l := []msg.Msg{levelMsg(8, 1, 10, 1, 1), levelMsg(9, 2, 13, 1, 1), levelMsg(10, 1, 4, 0, 0), levelMsg(11, 2, 12, 0, 0), levelMsg(12, 2, 15, 9, 9), snapMsg(13, 1, 2, 3, rows[:3]...), other(msg.Phase, 77), other(msg.Trade, 14, 5)}
	wasText := text(l)
	for i, call := range []func(){
		func() {
			for _, m := range l {
				m.Seq = 8
				Fold(v, m)
			}
		},
		func() { All(v, l) }, func() { All(v, l[:3]) }, func() { All(v, l[:0]) }, func() { Snap(4, v) }, func() { Same(v, v) },
		func() { Diff(4, v.Bids, v.Asks, 1) }, func() { Diff(4, v.Asks, v.Bids, 2) }, func() { Diff(4, v.Bids, v.Bids, 2) },
		func() {
			x, _ := Fold(v, levelMsg(8, 1, 10, 1, 1))
			x.Bids[0], x.Asks[0] = ladder.Level{}, ladder.Level{}
			x.Bids, x.Asks = append(x.Bids, lv(1, 1, 1)...), append(x.Asks, lv(1, 1, 1)...)
		},
	} {
		if call(); !slices.Equal(bids, wasBids) || !slices.Equal(asks, wasAsks) || told(v) != told(full()) {
			t.Errorf("%d: levels are %v and %v now", i, bids, asks)
			fresh()
		}
		if !slices.Equal(rows, wasRows) || text(l) != wasText {
			t.Fatalf("%d: messages are others now", i)
		}
	}
}

// spoil writes over all memory of a list.
func spoil[T any](l []T, with T) {
	for i := range l[:cap(l)] {
		l[:cap(l)][i] = with
	}
}

// TestP2AnswersAreNewMemory spoils what was answered, whole with its spare room, and asks again, and asks what was handed in.
func TestP2AnswersAreNewMemory(t *testing.T) {
	v := full()
	junk := ladder.Level{Price: -7, Qty: -7, N: -7}
	for _, m := range []msg.Msg{levelMsg(8, 1, 10, 1, 1), levelMsg(8, 2, 12, 0, 0), other(msg.Trade, 8, 1, 1), other(msg.Phase, 8, 1), other(msg.Phase, 9), other(msg.New, 8), snapMsg(8, 1, 2, 3, msg.Row{1, 5, 1, 1}, msg.Row{2, 6, 1, 1})} {
		x, _ := Fold(v, m)
		want, asks := told(x), slices.Clone(x.Asks)
		spoil(x.Bids, junk)
		if !slices.Equal(x.Asks, asks) {
			t.Errorf("%s: Bids and Asks share memory", msg.Text(m))
		}
		spoil(x.Asks, junk)
		if told(v) != told(full()) {
			t.Fatalf("%s: the view that was handed in is %s now", msg.Text(m), told(v))
		}
		if y, _ := Fold(v, m); told(y) != want {
			t.Errorf("%s: %s; want %s", msg.Text(m), told(y), want)
		}
	}
	both := lv(9, 1, 1)
	x, _ := Fold(View{Bids: both, Asks: both}, other(msg.Phase, 1))
	if spoil(x.Bids, junk); !slices.Equal(x.Asks, lv(9, 1, 1)) || !slices.Equal(both, lv(9, 1, 1)) {
		t.Errorf("one list for both sides is shared: %v, %v", x.Asks, both)
	}
	s := Snap(4, v)
	spoil(s.L, msg.Row{-7})
	if told(v) != told(full()) || Snap(4, v).L[0] != (msg.Row{1, 11, 6, 2}) {
		t.Error("a Snap's rows are shared")
	}
	l := Diff(4, v.Bids, nil, 1)
	spoil(l, msg.Msg{Kind: -7})
	checkDiff(t, v.Bids, nil, 1, 11, 0, 0, 9, 0, 0, 4, 0, 0)
}

// TestP2RowsAreNotKept changes a Snap's rows behind its Fold.
func TestP2RowsAreNotKept(t *testing.T) {
	m := snapMsg(8, 1, 2, 3, msg.Row{1, 5, 1, 1}, msg.Row{2, 6, 1, 1})
	v, _ := Fold(full(), m)
	was := told(v)
	if spoil(m.L, msg.Row{2, 2, 2, 2}); told(v) != was {
		t.Errorf("%s; want %s", told(v), was)
	}
}

func TestP2FaultsAreTheCallersOwn(t *testing.T) {
	for range 3 {
		for _, m := range []msg.Msg{other(msg.Phase, 9), other(msg.New, 8)} {
			want := api.ErrSeq
			if m.Kind == msg.New {
				want = api.ErrForm
			}
			err := second(Fold(full(), m))
			checkFault(t, msg.Text(m), err, 7, want)
			*err.(*api.Fault) = api.Fault{Part: "spoilt", At: 77, Err: api.ErrSum}
		}
	}
}

func TestP3TheSameCallsAnswerTheSame(t *testing.T) {
	run := func() string {
		f := &teller{b: book.New(), next: walk(8)}
		s := ""
		for range 60 {
			f.step()
			v, err := All(View{}, f.feed)
			s += fmt.Sprintln(told(v), err, msg.Text(Snap(4, v)))
		}
		return s + text(f.feed)
	}
	first := run()
	for range 5 {
		if run() != first {
			t.Fatal("the same calls answered otherwise")
		}
	}
}

// TestP5T5WhatIsRefusedChangesNothing goes on with the view that was told beside an error: all is as though nothing had come.
func TestP5T5WhatIsRefusedChangesNothing(t *testing.T) {
	f := &teller{b: book.New(), next: walk(7)}
	for len(f.feed) < 200 {
		f.step()
	}
	want, _ := All(View{}, f.feed)
	v := View{}
	for _, m := range f.feed {
		for _, wrong := range []msg.Msg{other(msg.New, m.Seq), levelMsg(m.Seq+1, 1, 5, 5, 1), levelMsg(m.Seq, 1, 5, 0, 1), snapMsg(m.Seq, 9, 9, 9, msg.Row{1, 5, 5, 5}, msg.Row{1, 0, 5, 5}), snapMsg(m.Seq-1, 9, 9, 9)} {
			x, err := Fold(v, wrong)
			if err == nil {
				t.Fatalf("%s may be", msg.Text(wrong))
			}
			v = x
		}
		v, _ = Fold(v, m)
	}
	if !Same(v, want) {
		t.Errorf("%s; want %s", told(v), told(want))
	}
}
