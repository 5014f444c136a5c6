package kill

import (
	"fmt"
	"math"
	"math/big"
	"strings"
	"testing"

	"straddle/api"
)

const (
	most  = math.MaxInt64
	least = math.MinInt64
)

// plain is a Switch as the promise tells it: each maker's times as they were counted, none ever dropped but with all.
type plain struct {
	fills  int
	window int64
	makers map[int]*plainMaker
}

type plainMaker struct {
	times []int64
	last  *int64 // none yet
	off   bool
}

func newPlain(fills int, window int64) *plain {
	return &plain{fills, window, map[int]*plainMaker{}}
}

func (p *plain) of(maker int) *plainMaker {
	if p.makers[maker] == nil {
		p.makers[maker] = &plainMaker{}
	}
	return p.makers[maker]
}

// count goes through all times, and takes them in numbers of any size.
func (p *plain) count(maker int, now int64) int {
	m := p.of(maker)
	if m.off {
		return 0
	}
	if m.last != nil && now < *m.last {
		now = *m.last
	}
	from := new(big.Int).Sub(big.NewInt(now), big.NewInt(p.window))
	n := 0
	for _, t := range m.times {
		if big.NewInt(t).Cmp(from) > 0 {
			n++
		}
	}
	return n
}

func (p *plain) fill(maker int, now int64) bool {
	m := p.of(maker)
	if m.off {
		return false
	}
	if m.last != nil && now < *m.last {
		now = *m.last
	}
	m.last = &now
	m.times = append(m.times, now)
	return p.count(maker, now) >= p.fills && p.trip(maker)
}

func (p *plain) trip(maker int) bool {
	m := p.of(maker)
	was := !m.off
	m.off = true
	return was
}

func (p *plain) enable(maker int) bool {
	m := p.of(maker)
	if !m.off {
		return false
	}
	m.off, m.times = false, nil
	return true
}

// times are numbers about both ends of what there is, and about 0.
func times() []int64 {
	return []int64{0, 1, -1, 2, 10, 1000000, -1000000, 1 << 32, 1<<32 + 1, most, most - 1, most - 1000000, least, least + 1, least + 1000000}
}

// makers are any numbers; of some the lower halves are the same.
func makers() []int { return []int{0, 1, 2, 64, -1, -64, 1 << 32, 1<<32 + 1, most, least} }

func made(t *testing.T, fills int, window int64) *Switch {
	t.Helper()
	k, err := New(fills, window)
	if k == nil || err != api.OK {
		t.Fatalf("New(%d, %d): %v", fills, window, err)
	}
	return k
}

// The calls, each held against what it should tell.

func checkFill(t *testing.T, k *Switch, maker int, now int64, want bool) {
	t.Helper()
	if got := k.Fill(maker, now); got != want {
		t.Errorf("Fill(%d, %d): %v; want %v", maker, now, got, want)
	}
}

func checkTrip(t *testing.T, k *Switch, maker int, want bool) {
	t.Helper()
	if got := k.Trip(maker); got != want {
		t.Errorf("Trip(%d): %v; want %v", maker, got, want)
	}
}

func checkEnable(t *testing.T, k *Switch, maker int, want bool) {
	t.Helper()
	if got := k.Enable(maker); got != want {
		t.Errorf("Enable(%d): %v; want %v", maker, got, want)
	}
}

func checkOff(t *testing.T, k *Switch, maker int, want bool) {
	t.Helper()
	if got := k.Off(maker); got != want {
		t.Errorf("Off(%d): %v; want %v", maker, got, want)
	}
}

func checkCount(t *testing.T, k *Switch, maker int, now int64, want int) {
	t.Helper()
	if got := k.Count(maker, now); got != want {
		t.Errorf("Count(%d, %d): %d; want %d", maker, now, got, want)
	}
}

func TestP1601NewAtItsBounds(t *testing.T) {
	fills := map[int]bool{1: true, 2: true, 3: true, 500: true, 999: true, 1000: true, 0: false, -1: false, -1000: false, 1001: false, 1 << 32: false, 1<<32 + 1: false, most: false, least: false}
	windows := map[int64]bool{1: true, 2: true, 10: true, 1001: true, 999999: true, 1000000: true, 0: false, -1: false, -1000000: false, 1000001: false, 1 << 32: false, 1<<32 + 1: false, most: false, least: false}
	for f, goodFills := range fills {
		for w, goodWindow := range windows {
			want := api.ErrArg
			if goodFills && goodWindow {
				want = api.OK
			}
			if k, err := New(f, w); err != want || (k == nil) != (want != api.OK) {
				t.Errorf("New(%d, %d): %v, %v; want %v", f, w, k, err, want)
			}
		}
	}
}

func TestP1601ANewOneHasNobodyOff(t *testing.T) {
	k := made(t, 1, 1000000)
	for _, m := range makers() {
		checkOff(t, k, m, false)
		checkEnable(t, k, m, false)
		for _, now := range times() {
			checkCount(t, k, m, now, 0)
		}
	}
}

func TestP1601AsManyAsFillsPutAMakerOff(t *testing.T) {
	for _, fills := range []int{1, 2, 3, 7, 10, 999, 1000} {
		for _, now := range times() {
			k := made(t, fills, 1)
			for n := 1; n < fills; n++ {
				checkFill(t, k, 5, now, false)
				checkCount(t, k, 5, now, n)
			}
			checkOff(t, k, 5, false)
			checkFill(t, k, 5, now, true)
			checkOff(t, k, 5, true)
			checkCount(t, k, 5, now, 0)
		}
	}
}

func TestP1601AFillLeavesTheWindowWhenItIsOver(t *testing.T) {
	for _, window := range []int64{1, 2, 3, 10, 999999, 1000000} {
		for _, first := range append(times(), most-window, most-window-1, least+window-1) {
			later := func(by int64) int64 { return first + min(by, most-max(first, 0)) } // not past the end of what there is
			k := made(t, 2, window)
			checkFill(t, k, 5, first, false)
			checkCount(t, k, 5, later(window-1), 1)
			if first <= most-window {
				checkCount(t, k, 5, first+window, 0)
				checkCount(t, k, 5, most, 0)
				checkFill(t, k, 5, first+window, false)
				checkCount(t, k, 5, first+window, 1)
				checkCount(t, k, 5, first, 1)
				checkFill(t, k, 5, first+window, true)
			}
			k = made(t, 2, window)
			checkFill(t, k, 5, first, false)
			checkFill(t, k, 5, later(window-1), true)
		}
	}
}

// TestP1601TheWindowMoves has one fill at each time: as many as a window is long are in it.
func TestP1601TheWindowMoves(t *testing.T) {
	for _, window := range []int64{1, 2, 5, 100, 999} {
		k := made(t, int(window)+1, window)
		for now := int64(-1500); now < 1500; now++ {
			checkFill(t, k, 5, now, false)
			checkCount(t, k, 5, now, int(min(now+1501, window)))
		}
		for by := range window + 3 {
			checkCount(t, k, 5, 1499+by, int(max(window-by, 0)))
		}
		checkFill(t, k, 5, 1499, true)
	}
}

func TestP1601FillsOfOneTimeLeaveTogether(t *testing.T) {
	k := made(t, 1000, 10)
	for range 400 {
		checkFill(t, k, 5, 0, false)
	}
	for range 300 {
		checkFill(t, k, 5, 9, false)
	}
	checkCount(t, k, 5, 9, 700)
	checkCount(t, k, 5, 10, 300)
	checkFill(t, k, 5, 10, false)
	checkCount(t, k, 5, 10, 301)
	for range 698 {
		checkFill(t, k, 5, 18, false)
	}
	checkCount(t, k, 5, 18, 999)
	checkCount(t, k, 5, 19, 699)
	checkCount(t, k, 5, 20, 698)
	checkCount(t, k, 5, 28, 0)
	checkFill(t, k, 5, 18, true)
}

func TestP1601ATimeBelowTheLastIsAsThat(t *testing.T) {
	for _, below := range []int64{99, 91, 90, 0, -100, least} {
		k := made(t, 3, 10)
		checkFill(t, k, 5, 100, false)
		checkCount(t, k, 5, below, 1)
		checkFill(t, k, 5, below, false)
		checkCount(t, k, 5, below, 2)
		checkCount(t, k, 5, 109, 2) // both are of 100
		checkCount(t, k, 5, 110, 0)
		checkFill(t, k, 5, 110, false)
		checkCount(t, k, 5, below, 1) // at 110: those of 100 are out
		checkFill(t, k, 5, below, false)
		checkFill(t, k, 5, below, true)
	}
}

// TestP1601TheFirstTimeIsAnyTime asks it of makers that were off ahead of their first fill, too.
func TestP1601TheFirstTimeIsAnyTime(t *testing.T) {
	for _, now := range times() {
		k := made(t, 2, 1)
		checkTrip(t, k, 6, true)
		checkFill(t, k, 6, 7, false)
		checkEnable(t, k, 6, true)
		for _, m := range []int{5, 6} {
			checkFill(t, k, m, now, false)
			checkCount(t, k, m, least, 1)
			if now < most {
				checkCount(t, k, m, now+1, 0)
				checkFill(t, k, m, now+1, false)
			}
		}
	}
}

func TestP1601TimesFarFromEachOther(t *testing.T) {
	for _, window := range []int64{1, 2, 1000000} {
		k := made(t, 2, window)
		checkFill(t, k, 5, least, false)
		checkCount(t, k, 5, most, 0)
		checkCount(t, k, 5, 0, 0)
		checkCount(t, k, 5, -1, 0)
		checkFill(t, k, 5, 0, false)
		checkCount(t, k, 5, least, 1)
		checkFill(t, k, 5, most, false)
		checkCount(t, k, 5, most, 1)
		checkFill(t, k, 5, least, true)
	}
}

// TestP1601CountPassesNoTime asks far ahead: the last time is that of a fill.
func TestP1601CountPassesNoTime(t *testing.T) {
	k := made(t, 3, 10)
	checkFill(t, k, 5, 0, false)
	checkFill(t, k, 5, 4, false)
	for _, now := range times() {
		k.Count(5, now)
		checkCount(t, k, 5, 9, 2)
		checkCount(t, k, 5, 10, 1)
	}
	checkFill(t, k, 5, 9, true)
}

func TestP1601AnOffMakerCountsNothing(t *testing.T) {
	for _, ahead := range []func(k *Switch){
		func(k *Switch) { k.Fill(5, 0); k.Fill(5, 1) },
		func(k *Switch) { k.Fill(5, 1); k.Trip(5) },
	} {
		k := made(t, 2, 10)
		ahead(k)
		for _, now := range []int64{0, 1, 2, 100, most, least} {
			checkFill(t, k, 5, now, false)
			checkOff(t, k, 5, true)
			checkCount(t, k, 5, now, 0)
			checkCount(t, k, 5, 1, 0)
		}
		checkEnable(t, k, 5, true)
		checkCount(t, k, 5, 1, 0)
		checkFill(t, k, 5, 2, false) // not at most, which came while it was off
		checkCount(t, k, 5, 11, 1)
		checkCount(t, k, 5, 12, 0)
	}
}

func TestP1601TripPutsOffAndTellsWhetherItWasOn(t *testing.T) {
	k := made(t, 3, 10)
	checkFill(t, k, 5, 0, false)
	for _, m := range []int{5, 6} { // one that had a fill, and one that had none
		checkTrip(t, k, m, true)
		checkTrip(t, k, m, false)
		checkOff(t, k, m, true)
		checkCount(t, k, m, 0, 0)
		checkFill(t, k, m, 0, false)
		checkOff(t, k, m, true)
	}
	checkFill(t, k, 7, 0, false)
	checkFill(t, k, 7, 0, false)
	checkFill(t, k, 7, 0, true)
	checkTrip(t, k, 7, false)
}

func TestP1601EnablePutsOnWithNothingCounted(t *testing.T) {
	for _, trip := range []bool{false, true} {
		k := made(t, 3, 10)
		checkFill(t, k, 5, 0, false)
		checkFill(t, k, 5, 1, false)
		if trip {
			checkTrip(t, k, 5, true)
		} else {
			checkFill(t, k, 5, 1, true)
		}
		checkEnable(t, k, 5, true)
		checkOff(t, k, 5, false)
		checkEnable(t, k, 5, false)
		checkCount(t, k, 5, 1, 0)
		checkFill(t, k, 5, 1, false)
		checkFill(t, k, 5, 1, false)
		checkCount(t, k, 5, 1, 2)
		checkFill(t, k, 5, 1, true)
		checkEnable(t, k, 5, true)
	}
}

func TestP1601EnableOfOneThatIsOnChangesNothing(t *testing.T) {
	k := made(t, 3, 10)
	checkEnable(t, k, 5, false)
	checkFill(t, k, 5, 0, false)
	checkEnable(t, k, 5, false)
	checkFill(t, k, 5, 5, false)
	checkEnable(t, k, 5, false)
	checkCount(t, k, 5, 5, 2)
	checkFill(t, k, 5, 5, true)
}

func TestP1601EnableKeepsTheLastTime(t *testing.T) {
	for _, off := range []func(k *Switch){
		func(k *Switch) { k.Trip(5) },
		func(k *Switch) { k.Fill(5, 50) },
		func(k *Switch) { k.Trip(5); k.Enable(5); k.Trip(5) },
	} {
		k := made(t, 2, 10)
		checkFill(t, k, 5, 50, false)
		off(k)
		checkEnable(t, k, 5, true)
		checkFill(t, k, 5, 0, false) // at 50
		checkCount(t, k, 5, 0, 1)
		checkCount(t, k, 5, 59, 1)
		checkCount(t, k, 5, 60, 0)
		checkFill(t, k, 5, 59, true)
		checkEnable(t, k, 5, true)
		checkFill(t, k, 5, 51, false) // the fill that put it off was one: at 59
		checkCount(t, k, 5, 68, 1)
		checkCount(t, k, 5, 69, 0)
	}
}

func TestP1601EachMakerIsItsOwn(t *testing.T) {
	for _, a := range makers() {
		for _, b := range makers() {
			if a == b {
				continue
			}
			k := made(t, 2, 10)
			checkFill(t, k, a, 100, false)
			checkFill(t, k, b, 0, false) // not at 100
			checkCount(t, k, b, 10, 0)
			checkCount(t, k, a, 10, 1)
			checkFill(t, k, a, 100, true)
			checkOff(t, k, b, false)
			checkCount(t, k, b, 0, 1)
			checkEnable(t, k, b, false)
			checkTrip(t, k, b, true)
			checkEnable(t, k, a, true)
			checkOff(t, k, b, true)
			checkFill(t, k, a, 100, false)
		}
	}
}

// step says one of few things to k and to p, and holds what they answer against each other.
func step(t *testing.T, k *Switch, p *plain, what, maker int, now int64) {
	t.Helper()
	switch what {
	case 0:
		checkTrip(t, k, maker, p.trip(maker))
	case 1:
		checkEnable(t, k, maker, p.enable(maker))
	default:
		checkFill(t, k, maker, now, p.fill(maker, now))
	}
	checkOff(t, k, maker, p.of(maker).off)
	checkCount(t, k, maker, now, p.count(maker, now))
}

// TestP1601EveryFiveCalls goes through all rows of five calls for one maker, in windows of few fills.
func TestP1601EveryFiveCalls(t *testing.T) {
	for i := range 6 * 6 * 6 * 6 * 6 {
		for fills := 1; fills <= 4; fills++ {
			for window := int64(1); window <= 3; window++ {
				k, p := made(t, fills, window), newPlain(fills, window)
				for rest, n := i, 0; n < 5; rest, n = rest/6, n+1 {
					step(t, k, p, rest%6, 5, int64(rest%6-2)) // times of 0 to 3
				}
				for now := int64(0); now < 7; now++ {
					checkCount(t, k, 5, now, p.count(5, now))
				}
				if t.Failed() { // enough is told
					t.Fatalf("in row %d of %d fills, window %d", i, fills, window)
				}
			}
		}
	}
}

func TestP1601IsThePlainReading(t *testing.T) {
	state := uint32(1)
	next := func(n int) int {
		state = state*1664525 + 1013904223
		return int(state>>8) % n
	}
	found := map[string]int{}
	for _, fills := range []int{1, 2, 3, 5, 20, 1000} {
		for _, window := range []int64{1, 2, 10, 100, 1000000} {
			for _, start := range []int64{0, -500, least, most - 2000, 1 << 32} {
				k, p := made(t, fills, window), newPlain(fills, window)
				now := start
				for range 300 {
					now += int64(next(8) * next(2))
					at := now - int64(next(20)*next(2))
					if at > now { // below all numbers
						at = least
					}
					maker := []int{3, 4, 1<<32 + 3}[next(3)]
					was := p.of(maker).off
					step(t, k, p, next(60), maker, at)
					switch is := p.of(maker).off; {
					case was && !is:
						found["on"]++
					case is && !was:
						found["off"]++
					case is:
						found["stays off"]++
					case p.count(maker, at) < len(p.of(maker).times):
						found["some are out"]++
					case at < *p.last(maker):
						found["below the last"]++
					}
				}
			}
		}
	}
	for _, w := range []string{"on", "off", "stays off", "some are out", "below the last"} {
		if found[w] < 200 {
			t.Errorf("%s: only %d", w, found[w])
		}
	}
}

// last tells a maker's last time; least of one that has none.
func (p *plain) last(maker int) *int64 {
	if l := p.of(maker).last; l != nil {
		return l
	}
	none := int64(least)
	return &none
}

// TestNoMoreIsKeptThanCounts looks inside: what is past, and what an Enable would drop, is not kept, nor who is only asked.
func TestNoMoreIsKeptThanCounts(t *testing.T) {
	k := made(t, 5, 10)
	for now := range int64(1000) {
		k.Fill(5, now*3)
		if n := len(k.rows[5].times); n > 4 {
			t.Fatalf("%d times are kept", n)
		}
	}
	k.Trip(5)
	if n := len(k.rows[5].times); n != 0 {
		t.Errorf("%d times of one that is off are kept", n)
	}
	k.Enable(5)
	for _, m := range makers() {
		k.Count(m, 0)
		k.Off(m)
		k.Enable(m)
		k.Trip(m)
		k.Fill(m, 0)
		k.Enable(m)
	}
	if len(k.rows) != 1 || len(k.off) != 0 {
		t.Errorf("%d rows, %d off", len(k.rows), len(k.off))
	}
}

// TestT3WhoIsOffStaysOff lets only Enable put a maker on, and only the one that it names.
func TestT3WhoIsOffStaysOff(t *testing.T) {
	for _, ahead := range []func(k *Switch){
		func(k *Switch) { k.Trip(5) },
		func(k *Switch) { k.Fill(5, 0) },
		func(k *Switch) { k.Fill(5, 0); k.Enable(5); k.Trip(5) },
	} {
		k := made(t, 1, 1)
		ahead(k)
		for _, now := range times() {
			checkFill(t, k, 5, now, false)
			checkOff(t, k, 5, true)
			checkCount(t, k, 5, now, 0)
			checkOff(t, k, 5, true)
			checkTrip(t, k, 5, false)
			checkOff(t, k, 5, true)
		}
		for _, m := range makers() {
			k.Fill(m, 0)
			k.Enable(m)
			checkOff(t, k, 5, true)
		}
		checkEnable(t, k, 5, true)
		checkOff(t, k, 5, false)
	}
}

func TestP1AnyNumbersAreAnswered(t *testing.T) {
	for _, fills := range append(makers(), 1000, 1001) {
		for _, window := range times() {
			k, err := New(fills, window)
			if err != api.OK {
				k = &Switch{} // no Switch of New's ends too
			}
			for _, m := range makers() {
				for _, now := range times() {
					k.Count(m, now)
					k.Enable(m)
					k.Fill(m, now)
					k.Off(m)
					k.Trip(m)
				}
			}
		}
	}
}

// look tells all that can be asked of k about a few makers.
func look(k *Switch) string {
	var b strings.Builder
	for _, m := range makers() {
		fmt.Fprint(&b, m, k.Off(m))
		for _, now := range append(times(), 3, 4, 5, 9, 11, 14, 15, 20) {
			fmt.Fprint(&b, " ", k.Count(m, now))
		}
		b.WriteByte('\n')
	}
	return b.String()
}

// run tells what a row of calls answers, and what can be asked behind each; ahead is said ahead of each.
func run(ahead func(k *Switch)) string {
	var b strings.Builder
	k, _ := New(4, 10)
	for i := range 200 {
		m, now := makers()[i*3%5], int64(i/7)
		ahead(k)
		switch {
		case i%11 == 10:
			fmt.Fprintln(&b, k.Enable(m))
		case i%29 == 28:
			fmt.Fprintln(&b, k.Trip(m))
		default:
			fmt.Fprintln(&b, k.Fill(m, now-int64(i%3)))
		}
		b.WriteString(look(k))
	}
	return b.String()
}

func TestP3TheSameCallsAnswerTheSame(t *testing.T) {
	first := run(func(*Switch) {})
	for range 5 {
		if run(func(*Switch) {}) != first {
			t.Fatal("the same calls answered otherwise")
		}
	}
}

func TestP5WhatIsAskedOrRefusedChangesNothing(t *testing.T) {
	first := run(func(*Switch) {})
	for i, ahead := range []func(k *Switch){
		func(*Switch) { New(0, 10); New(4, 0); New(4, 10) },
		func(k *Switch) { look(k) },
		func(k *Switch) {
			for _, m := range append(makers(), 77) {
				if k.Off(m) { // nothing is counted, nothing is put off
					k.Fill(m, most)
					k.Trip(m)
				} else {
					k.Enable(m)
				}
			}
		},
	} {
		if run(ahead) != first {
			t.Errorf("%d: something was changed", i)
		}
	}
}

func TestP7SwitchesAreTheCallersOwn(t *testing.T) {
	a, b := made(t, 2, 10), made(t, 2, 10)
	checkFill(t, a, 5, 100, false)
	checkCount(t, b, 5, 100, 0)
	checkFill(t, a, 5, 100, true)
	checkOff(t, b, 5, false)
	checkFill(t, b, 5, 0, false)
	checkCount(t, b, 5, 10, 0)
	checkTrip(t, b, 5, true)
	checkEnable(t, a, 5, true)
	checkOff(t, b, 5, true)
}
