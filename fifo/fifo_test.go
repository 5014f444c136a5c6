package fifo

import (
	"fmt"
	"math"
	"slices"
	"strings"
	"testing"

	"straddle/api"
)

const (
	most  = math.MaxInt64
	least = math.MinInt64
)

// strange are numbers of which no arena has a row or a cell.
func strange() []int {
	return []int{least, math.MinInt32, -4096, -2, -1, 4096, 4097, 1 << 32, 1<<32 + 1, math.MaxInt32, most}
}

// near tells the numbers from 0 to n, behind strange ones.
func near(n int) []int {
	l := strange()
	for i := range n + 1 {
		l = append(l, i)
	}
	return l
}

// made tells an arena of so many rows and cells.
func made(t *testing.T, rows, cells int) *Arena {
	t.Helper()
	a, err := New(rows, cells)
	if a == nil || err != api.OK {
		t.Fatalf("New(%d, %d): %v, %v", rows, cells, a, err)
	}
	return a
}

// look tells all that can be asked of an arena of at most 8 rows and 12 cells.
func look(a *Arena) string {
	var b strings.Builder
	fmt.Fprintln(&b, "free", a.Free())
	for _, row := range near(8) {
		front, ok := a.Front(row)
		fmt.Fprintln(&b, "row", row, a.Row(row), a.Len(row), front, ok)
	}
	for _, cell := range near(12) {
		next, ok := a.Next(cell)
		v, taken := a.Value(cell)
		fmt.Fprintln(&b, "cell", cell, next, ok, v, taken)
	}
	return b.String()
}

// checkPush asks whether Push takes that cell.
func checkPush(t *testing.T, a *Arena, row int, v int64, want int) {
	t.Helper()
	free, size := a.Free(), a.Len(row)
	if cell, err := a.Push(row, v); cell != want || err != api.OK {
		t.Fatalf("Push(%d, %d): %d, %v; want %d", row, v, cell, err, want)
	}
	if got, ok := a.Value(want); got != v || !ok {
		t.Errorf("Value(%d), %d pushed: %d, %v", want, v, got, ok)
	}
	if a.Free() != free-1 || a.Len(row) != size+1 {
		t.Errorf("Push(%d, %d): %d free, %d in the row; were %d, %d", row, v, a.Free(), a.Len(row), free, size)
	}
}

// checkRefused asks whether Push refuses so, and changes nothing.
func checkRefused(t *testing.T, a *Arena, row int, want api.Errno) {
	t.Helper()
	was := look(a)
	if cell, err := a.Push(row, 7); cell != 0 || err != want {
		t.Errorf("Push(%d, 7): %d, %v; want %v", row, cell, err, want)
	}
	if look(a) != was {
		t.Errorf("Push(%d, 7), refused, changed something: %s; was %s", row, look(a), was)
	}
}

// checkRemove asks whether Remove tells so; if not, whether it changes nothing.
func checkRemove(t *testing.T, a *Arena, cell int, want bool) {
	t.Helper()
	was, free := look(a), a.Free()
	if got := a.Remove(cell); got != want {
		t.Errorf("Remove(%d): %v; want %v", cell, got, want)
	}
	if !want && look(a) != was {
		t.Errorf("Remove(%d), of a cell that is free, changed something: %s; was %s", cell, look(a), was)
	}
	if v, ok := a.Value(cell); want && (v != 0 || ok || a.Free() != free+1) {
		t.Errorf("Value(%d), removed: %d, %v; %d free, were %d", cell, v, ok, a.Free(), free)
	}
}

// checkRow asks whether a row is those cells, by Front and Next, and by Row and Len what is in them.
func checkRow(t *testing.T, a *Arena, row int, cells ...int) {
	t.Helper()
	var walked []int
	var values []int64
	for c, ok := a.Front(row); ok && len(walked) <= len(cells); c, ok = a.Next(c) {
		v, _ := a.Value(c)
		walked, values = append(walked, c), append(values, v)
	}
	if !slices.Equal(walked, cells) || !slices.Equal(a.Row(row), values) || a.Len(row) != len(cells) {
		t.Errorf("row %d: cells %v, values %v and %v, %d of them; want cells %v", row, walked, values, a.Row(row), a.Len(row), cells)
	}
	if len(cells) == 0 {
		if c, ok := a.Front(row); c != 0 || ok {
			t.Errorf("Front(%d) of an empty row: %d, %v", row, c, ok)
		}
		return
	}
	if c, ok := a.Next(cells[len(cells)-1]); c != 0 || ok {
		t.Errorf("behind row %d: %d, %v", row, c, ok)
	}
}

func TestP901NewAtItsBounds(t *testing.T) {
	rows := map[int]bool{1: true, 2: true, 1023: true, 1024: true, 0: false, -1: false, 1025: false, 4096: false, least: false, most: false, 1<<32 + 1: false}
	cells := map[int]bool{1: true, 2: true, 1025: true, 4095: true, 4096: true, 0: false, -1: false, 4097: false, least: false, most: false, 1<<32 + 1: false}
	for r, rowsMay := range rows {
		for c, cellsMay := range cells {
			a, err := New(r, c)
			if !rowsMay || !cellsMay {
				if a != nil || err != api.ErrArg {
					t.Errorf("New(%d, %d): %v, %v; want %v", r, c, a, err, api.ErrArg)
				}
				continue
			}
			if a == nil || err != api.OK || a.Free() != c {
				t.Errorf("New(%d, %d): %v", r, c, err)
			}
		}
	}
}

func TestP901ANewOneIsEmpty(t *testing.T) {
	a := made(t, 3, 5)
	if a.Free() != 5 {
		t.Errorf("Free: %d", a.Free())
	}
	for _, n := range near(8) {
		if c, ok := a.Front(n); c != 0 || ok || a.Len(n) != 0 || len(a.Row(n)) != 0 {
			t.Errorf("row %d: %d, %v, %v", n, c, ok, a.Row(n))
		}
		c, more := a.Next(n)
		v, ok := a.Value(n)
		if c != 0 || more || v != 0 || ok || a.Remove(n) {
			t.Errorf("cell %d: %d, %v, %d, %v", n, c, more, v, ok)
		}
	}
}

func TestP901PushTakesTheLeastThatWasNeverTaken(t *testing.T) {
	for _, size := range [][2]int{{1, 1}, {1, 12}, {8, 12}, {1024, 4096}, {1024, 1}, {1, 4096}} {
		rows, cells := size[0], size[1]
		a := made(t, rows, cells)
		in := make([][]int, rows)
		for c := range cells {
			row := c * 7 % rows
			checkPush(t, a, row, int64(c)-3, c)
			in[row] = append(in[row], c)
			if c == cells-1 {
				continue
			}
			if v, ok := a.Value(c + 1); v != 0 || ok {
				t.Errorf("Value(%d), never taken: %d, %v", c+1, v, ok)
			}
		}
		for row, l := range in {
			checkRow(t, a, row, l...)
		}
		for row := range min(rows, 20) {
			checkRefused(t, a, row, api.ErrFull)
		}
		checkRefused(t, a, rows-1, api.ErrFull)
		checkRefused(t, a, rows, api.ErrArg)
	}
}

func TestP901PushRefusesInOrder(t *testing.T) {
	a := made(t, 4, 3)
	for c := range 4 {
		for _, row := range append(strange(), 4, 5, 1024) { // full or not
			checkRefused(t, a, row, api.ErrArg)
		}
		if c < 3 {
			checkPush(t, a, c, 50, c)
			continue
		}
		for row := range 4 {
			checkRefused(t, a, row, api.ErrFull)
		}
	}
	checkRemove(t, a, 1, true)
	checkPush(t, a, 3, 51, 1) // refusals took no cell
	checkRefused(t, a, 3, api.ErrFull)
}

func TestP901PushTakesTheOneThatBecameFreeLast(t *testing.T) {
	a := made(t, 2, 8)
	for c := range 6 {
		checkPush(t, a, c%2, int64(c), c)
	}
	for _, c := range []int{4, 1, 5, 0} {
		checkRemove(t, a, c, true)
	}
	checkPush(t, a, 0, 10, 0)
	checkPush(t, a, 0, 11, 5)
	checkRemove(t, a, 3, true)
	checkPush(t, a, 1, 12, 3)
	checkPush(t, a, 1, 13, 1)
	checkPush(t, a, 1, 14, 4)
	checkPush(t, a, 1, 15, 6) // none is free that was taken
	checkRemove(t, a, 2, true)
	checkPush(t, a, 0, 16, 2)
	checkPush(t, a, 0, 17, 7)
	checkRefused(t, a, 0, api.ErrFull)
	checkRow(t, a, 0, 0, 5, 2, 7)
	checkRow(t, a, 1, 3, 1, 4, 6)
}

func TestP901FreedCellsGoAheadOfThoseNeverTaken(t *testing.T) {
	for last := range 6 { // each in its turn becomes free last
		a := made(t, 1, 12)
		for c := range 6 {
			checkPush(t, a, 0, 5, c)
		}
		var freed []int
		for n := range 6 {
			c := (last + 1 + n) % 6
			checkRemove(t, a, c, true)
			freed = append(freed, c)
		}
		slices.Reverse(freed)
		for _, c := range append(freed, 6, 7, 8, 9, 10, 11) {
			checkPush(t, a, 0, 6, c)
		}
	}
}

func TestP901PushTakesEveryNumber(t *testing.T) {
	values := []int64{least, -1, 0, 0, 1, 1000000, most, least, most}
	a := made(t, 1, len(values))
	for c, v := range values {
		checkPush(t, a, 0, v, c)
	}
	if !slices.Equal(a.Row(0), values) {
		t.Errorf("Row: %v; want %v", a.Row(0), values)
	}
}

func TestP901RowsGoAsTheyCame(t *testing.T) {
	a := made(t, 3, 12)
	for _, p := range []struct {
		row  int
		v    int64
		cell int
	}{{2, 30, 0}, {0, 10, 1}, {2, 20, 2}, {2, 30, 3}, {0, -10, 4}, {2, 0, 5}} {
		checkPush(t, a, p.row, p.v, p.cell)
	}
	for row, want := range [][]int64{{10, -10}, {}, {30, 20, 30, 0}} {
		if !slices.Equal(a.Row(row), want) || a.Len(row) != len(want) {
			t.Errorf("Row(%d): %v, %d of them; want %v", row, a.Row(row), a.Len(row), want)
		}
	}
	checkRow(t, a, 0, 1, 4)
	checkRow(t, a, 1)
	checkRow(t, a, 2, 0, 2, 3, 5)
	for _, row := range append(strange(), 3, 4) {
		checkRow(t, a, row)
	}
}

// turns tells l in each of its orders.
func turns(l []int) [][]int {
	if len(l) == 0 {
		return [][]int{nil}
	}
	var all [][]int
	for i, first := range l {
		for _, rest := range turns(slices.Delete(slices.Clone(l), i, i+1)) {
			all = append(all, append([]int{first}, rest...))
		}
	}
	return all
}

func TestP901RemoveInEveryOrder(t *testing.T) {
	for _, turn := range turns([]int{1, 2, 4, 5, 6}) {
		a := made(t, 3, 12)
		for c, row := range []int{0, 1, 1, 2, 1, 1, 1, 2} {
			checkPush(t, a, row, int64(100+c), c)
		}
		left := []int{1, 2, 4, 5, 6}
		for _, c := range turn {
			checkRemove(t, a, c, true)
			left = slices.DeleteFunc(left, func(n int) bool { return n == c })
			checkRow(t, a, 1, left...)
			checkRow(t, a, 0, 0)
			checkRow(t, a, 2, 3, 7)
			checkRemove(t, a, c, false)
			if next, ok := a.Next(c); next != 0 || ok {
				t.Errorf("Next(%d), removed: %d, %v", c, next, ok)
			}
		}
		back := slices.Clone(turn)
		slices.Reverse(back)
		for n, c := range back {
			checkPush(t, a, 1, 9, c)
			checkRow(t, a, 1, back[:n+1]...)
		}
	}
}

func TestP901RemoveWhatIsNoCell(t *testing.T) {
	a := made(t, 2, 5)
	for c := range 3 {
		checkPush(t, a, 1, 40, c)
	}
	for _, c := range append(strange(), 3, 4, 5, 6, 1024) {
		checkRemove(t, a, c, false)
	}
	for _, c := range []int{2, 0, 1} {
		checkRemove(t, a, c, true)
		checkRemove(t, a, c, false)
	}
	if a.Free() != 5 {
		t.Errorf("Free: %d", a.Free())
	}
	checkPush(t, a, 0, 41, 1) // what was removed twice is free once
	checkPush(t, a, 0, 41, 0)
	checkPush(t, a, 0, 41, 2)
	checkPush(t, a, 0, 41, 3)
}

func TestP901ACellGoesOverToAnotherRow(t *testing.T) {
	a := made(t, 3, 6)
	for c, row := range []int{0, 0, 0, 1, 1} {
		checkPush(t, a, row, int64(c), c)
	}
	checkRemove(t, a, 1, true)
	checkPush(t, a, 1, 50, 1)
	checkRow(t, a, 0, 0, 2)
	checkRow(t, a, 1, 3, 4, 1)
	checkRemove(t, a, 0, true)
	checkPush(t, a, 2, 51, 0)
	checkRow(t, a, 0, 2)
	checkRow(t, a, 2, 0)
	checkRemove(t, a, 2, true)
	checkPush(t, a, 2, 52, 2)
	checkRow(t, a, 0)
	checkRow(t, a, 1, 3, 4, 1)
	checkRow(t, a, 2, 0, 2)
	checkPush(t, a, 0, 53, 5)
	checkRow(t, a, 0, 5)
}

func TestP901ARowIsTakenFromItsFront(t *testing.T) {
	a := made(t, 2, 4)
	checkPush(t, a, 0, 0, 0)
	checkPush(t, a, 0, 1, 1)
	for n := range int64(50) { // round and round in few cells
		front, _ := a.Front(0)
		next, _ := a.Next(front)
		if v, _ := a.Value(front); v != n {
			t.Errorf("in front: %d; want %d", v, n)
		}
		checkRemove(t, a, front, true)
		if now, _ := a.Front(0); now != next {
			t.Errorf("in front: cell %d; want %d", now, next)
		}
		checkPush(t, a, 0, n+2, front)
		if !slices.Equal(a.Row(0), []int64{n + 1, n + 2}) || a.Free() != 2 {
			t.Errorf("%v, %d free", a.Row(0), a.Free())
		}
	}
}

// plain is an arena as the promise tells it, word for word.
type plain struct {
	cells int
	rows  [][]int       // cells, row by row, as they came
	in    map[int]int64 // the values of those that are taken
	freed []int         // the one that became free last at the end
	never int           // the least that was never taken
}

func (m *plain) push(row int, v int64) (int, api.Errno) {
	if row < 0 || row >= len(m.rows) {
		return 0, api.ErrArg
	}
	if len(m.in) == m.cells {
		return 0, api.ErrFull
	}
	c := m.never
	if n := len(m.freed); n > 0 {
		c, m.freed = m.freed[n-1], m.freed[:n-1]
	} else {
		m.never++
	}
	m.rows[row], m.in[c] = append(m.rows[row], c), v
	return c, api.OK
}

func (m *plain) remove(cell int) bool {
	if _, ok := m.in[cell]; !ok {
		return false
	}
	for row, l := range m.rows {
		m.rows[row] = slices.DeleteFunc(l, func(n int) bool { return n == cell })
	}
	delete(m.in, cell)
	m.freed = append(m.freed, cell)
	return true
}

// checkPlain asks whether a tells what m does.
func checkPlain(t *testing.T, a *Arena, m *plain) {
	t.Helper()
	if a.Free() != m.cells-len(m.in) {
		t.Errorf("Free: %d; want %d", a.Free(), m.cells-len(m.in))
	}
	for row, l := range m.rows {
		checkRow(t, a, row, l...)
	}
	for c := -1; c <= m.cells; c++ {
		want, taken := m.in[c]
		if v, ok := a.Value(c); v != want || ok != taken {
			t.Errorf("Value(%d): %d, %v; want %d, %v", c, v, ok, want, taken)
		}
		if next, ok := a.Next(c); !taken && (next != 0 || ok) {
			t.Errorf("Next(%d), free: %d, %v", c, next, ok)
		}
	}
}

func TestP901IsThePlainReading(t *testing.T) {
	state := uint32(1)
	next := func(n int) int {
		state = state*1664525 + 1013904223
		return int(state>>8) % n
	}
	found := map[string]int{}
	for range 300 {
		rows, cells := 1+next(6), 1+next(20)
		a, m := made(t, rows, cells), &plain{cells: cells, rows: make([][]int, rows), in: map[int]int64{}}
		greed := 3 + next(7) // of ten calls so many are Push
		for n := range 150 {
			if next(10) < greed {
				row, v := next(rows+2)-1, int64(next(9)-4)
				cell, err := a.Push(row, v)
				want, wrong := m.push(row, v)
				if cell != want || err != wrong {
					t.Fatalf("Push(%d, %d): %d, %v; want %d, %v", row, v, cell, err, want, wrong)
				}
				found["push "+err.Error()]++
			} else {
				cell := next(cells+2) - 1
				got, want := a.Remove(cell), m.remove(cell)
				if got != want {
					t.Fatalf("Remove(%d): %v; want %v", cell, got, want)
				}
				found[fmt.Sprint("remove ", got)]++
			}
			if n%5 == 0 {
				checkPlain(t, a, m)
			}
		}
		checkPlain(t, a, m)
	}
	for _, what := range []string{"push ok", "push arg", "push full", "remove true", "remove false"} {
		if found[what] < 1000 {
			t.Errorf("only %d of %s", found[what], what)
		}
	}
}

func TestP901TheGreatestArenaFillsAndEmpties(t *testing.T) {
	a := made(t, 1024, 4096)
	for round := range 3 {
		for n := range 4096 {
			want := n
			if round > 0 {
				want = 4095 - n // the last that became free first
			}
			if c, err := a.Push(n%1024, int64(n)); c != want || err != api.OK {
				t.Fatalf("Push: %d, %v; want %d", c, err, want)
			}
		}
		if c, err := a.Push(1023, 1); c != 0 || err != api.ErrFull || a.Free() != 0 {
			t.Fatalf("full: %d, %v, %d free", c, err, a.Free())
		}
		for row := range 1024 {
			v := int64(row)
			if !slices.Equal(a.Row(row), []int64{v, v + 1024, v + 2048, v + 3072}) {
				t.Fatalf("Row(%d): %v", row, a.Row(row))
			}
		}
		for c := range 4096 {
			if !a.Remove(c) {
				t.Fatalf("Remove(%d): false", c)
			}
		}
		if a.Free() != 4096 || a.Len(0) != 0 || a.Len(1023) != 0 {
			t.Fatalf("emptied: %d free", a.Free())
		}
	}
}

func TestP1AnyNumbersAreAnswered(t *testing.T) {
	wide := near(5)
	for _, rows := range wide {
		for _, cells := range wide {
			a, err := New(rows, cells)
			if err != api.OK {
				continue
			}
			for range 3 {
				for _, n := range wide {
					a.Push(n, int64(n))
					look(a)
				}
				for _, n := range wide {
					a.Remove(n)
					look(a)
				}
			}
		}
	}
}

func TestP2AnswersAreNewMemory(t *testing.T) {
	a := made(t, 2, 12)
	for c := range 7 {
		checkPush(t, a, c%2, int64(c), c)
	}
	checkRemove(t, a, 2, true)
	was := look(a)
	lists := [][]int64{a.Row(0), a.Row(1), a.Row(0), a.Row(1), a.Row(2)}
	for i, l := range lists {
		before := fmt.Sprint(slices.Delete(slices.Clone(lists), i, i+1))
		whole := l[:cap(l)]
		for k := range whole {
			whole[k] = -9
		}
		if after := fmt.Sprint(slices.Delete(slices.Clone(lists), i, i+1)); after != before {
			t.Errorf("two lists share memory: %s; was %s", after, before)
		}
	}
	if look(a) != was {
		t.Errorf("what is kept changes with what was answered: %s; was %s", look(a), was)
	}
	l := a.Row(0)
	checkRemove(t, a, 0, true)
	checkPush(t, a, 0, 77, 0)
	if !slices.Equal(l, []int64{0, 4, 6}) {
		t.Errorf("what was answered changes with what is kept: %v", l)
	}
}

// run tells what an arena answers to some calls, with something else ahead of each.
func run(t *testing.T, ahead func(a *Arena)) string {
	t.Helper()
	var b strings.Builder
	a := made(t, 3, 6)
	for n := range 60 {
		ahead(a)
		c, err := a.Push(n*5%3, int64(n))
		fmt.Fprintln(&b, c, err, look(a))
		ahead(a)
		if n%4 > 0 {
			fmt.Fprintln(&b, a.Remove(n*7%6), look(a))
		}
	}
	return b.String()
}

func TestP3TheSameCallsAnswerTheSame(t *testing.T) {
	first := run(t, func(*Arena) {})
	for range 5 {
		if told := run(t, func(*Arena) {}); told != first {
			t.Fatalf("%s; the first time %s", told, first)
		}
	}
}

func TestP5WhatIsRefusedOrAskedChangesNothing(t *testing.T) {
	want := run(t, func(*Arena) {})
	for what, ahead := range map[string]func(a *Arena){
		"a Push to no row": func(a *Arena) { a.Push(-1, 1); a.Push(3, 2); a.Push(most, 3) },
		"a Push to a full arena": func(a *Arena) {
			if a.Free() == 0 {
				a.Push(0, 1)
			}
		},
		"a Remove of no cell": func(a *Arena) { a.Remove(-1); a.Remove(6); a.Remove(least) },
		"a Remove of a free cell": func(a *Arena) {
			for c := range 6 {
				if _, ok := a.Value(c); !ok {
					a.Remove(c)
				}
			}
		},
		"asking": func(a *Arena) { look(a) },
		"a New": func(*Arena) {
			other, _ := New(3, 6)
			other.Push(1, 99)
			New(0, 0)
		},
	} {
		if got := run(t, ahead); got != want {
			t.Errorf("%s changed something", what)
		}
	}
}

func TestP7NewArenasAreTheCallersOwn(t *testing.T) {
	a, other := made(t, 2, 4), made(t, 2, 4)
	empty := look(other)
	checkPush(t, a, 1, 5, 0)
	if a == other || look(other) != empty {
		t.Errorf("what came to one arena came to another: %s", look(other))
	}
	checkPush(t, other, 0, 6, 0)
	checkRow(t, a, 0)
	checkRow(t, a, 1, 0)
}
