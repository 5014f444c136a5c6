package sess

import (
	"errors"
	"fmt"
	"math"
	"math/big"
	"slices"
	"strings"
	"testing"

	"straddle/api"
	"straddle/msg"
)

const (
	most  = math.MaxInt64
	least = math.MinInt64
)

// times are numbers about both ends of what there is, and about 0.
func times() []int64 {
	return []int64{0, 1, -1, 2, 10, 1000000, -1000000, 1 << 32, 1<<32 + 1, most, most - 1, most - 1000000, least, least + 1, least + 1000000}
}

// strangers are numbers of no session; of some the lower halves are those of sessions.
func strangers() []int {
	return []int{0, 65, 66, 128, 1000, -1, -5, -63, -64, 1 << 32, 1<<32 + 1, 1<<32 + 64, -1<<32 + 5, most, least, least + 1}
}

// kinds are all that there are, and some that are none.
func kinds() []int {
	l := []int{-1, -2, 99, 255, 256, 257, 259, 1000, 1<<32 + msg.Login, 1<<32 + msg.Beat, 1<<32 + msg.Logout, most, least, least + 1}
	for kind := range 70 {
		l = append(l, kind)
	}
	return l
}

// plain is a Desk as the promise tells it: each session's messages and what befell it, none ever dropped.
type plain struct {
	timeout int64
	rows    [65][]event
	outs    [65]int64
}

// event is a message that was in, or that its session was late.
type event struct {
	kind int // late: that is no kind of a message
	now  int64
}

const late = -77

func newPlain(timeout int64) *plain { return &plain{timeout: timeout} }

func (p *plain) on(sess int) bool {
	if sess < 1 || sess > 64 {
		return false
	}
	on := false
	for _, e := range p.rows[sess] {
		if e.kind == msg.Login {
			on = true
		} else if e.kind == msg.Logout || e.kind == late {
			on = false
		}
	}
	return on
}

func (p *plain) next(sess int) int64 {
	if sess < 1 || sess > 64 {
		return 0
	}
	n := int64(1)
	for _, e := range p.rows[sess] {
		if e.kind != late {
			n++
		}
	}
	return n
}

func (p *plain) out(sess int) int64 {
	if sess < 1 || sess > 64 {
		return 0
	}
	p.outs[sess]++
	return p.outs[sess]
}

// wrongs tells all that the promise finds wrong with a message, in its order.
func (p *plain) wrongs(sess, kind int, seq int64) []api.Errno {
	var w []api.Errno
	if sess < 1 || sess > 64 {
		w = append(w, api.ErrArg)
	}
	if !p.on(sess) && kind != msg.Login || p.on(sess) && kind == msg.Login {
		w = append(w, api.ErrState)
	}
	if seq != p.next(sess) {
		w = append(w, api.ErrSeq)
	}
	return w
}

func (p *plain) comes(sess, kind int, seq, now int64) api.Errno {
	err := append(p.wrongs(sess, kind, seq), api.OK)[0]
	if err == api.OK {
		p.rows[sess] = append(p.rows[sess], event{kind, now})
	}
	return err
}

func (p *plain) live() []int {
	var l []int
	for sess := 1; sess < 65; sess++ {
		if p.on(sess) {
			l = append(l, sess)
		}
	}
	return l
}

// late takes times in numbers of any size.
func (p *plain) late(now int64) []int {
	var l []int
	to := new(big.Int).Sub(big.NewInt(now), big.NewInt(p.timeout))
	for _, sess := range p.live() {
		row := p.rows[sess]
		if big.NewInt(row[len(row)-1].now).Cmp(to) <= 0 { // one that is on was not late behind its last message
			l = append(l, sess)
			p.rows[sess] = append(row, event{late, now})
		}
	}
	return l
}

// walk tells numbers of 0 to n - 1, the same ones of the same seed.
func walk(seed uint32) func(n int) int {
	return func(n int) int {
		seed = seed*1664525 + 1013904223
		return int(seed>>8) % n
	}
}

func made(t *testing.T, timeout int64) *Desk {
	t.Helper()
	d, err := New(timeout)
	if d == nil || err != api.OK {
		t.Fatalf("New(%d): %v", timeout, err)
	}
	return d
}

// withOn tells a desk where these sessions came on, in this order, at 0.
func withOn(t *testing.T, timeout int64, sessions ...int) *Desk {
	t.Helper()
	d := made(t, timeout)
	for _, s := range sessions {
		checkIn(t, d, s, msg.Login, 1, 0, api.OK)
	}
	return d
}

// checkFault asks whether err is none, or a Fault of sess at that session that wraps its number itself.
func checkFault(t *testing.T, what string, err error, sess int, want api.Errno) {
	t.Helper()
	if want == api.OK {
		if err != nil {
			t.Errorf("%s: %v; want nothing", what, err)
		}
		return
	}
	f, ok := err.(*api.Fault)
	if !ok || f == nil || f.Part != "sess" || f.At != sess || f.Err != error(want) {
		t.Errorf("%s: %v; want sess %d: %v", what, err, sess, want)
	}
}

// The calls, each held against what it should tell.

func checkIn(t *testing.T, d *Desk, sess, kind int, seq, now int64, want api.Errno) {
	t.Helper()
	err := d.In(sess, msg.Msg{Kind: kind, Seq: seq}, now)
	checkFault(t, fmt.Sprintf("In(%d, kind %d of turn %d, %d)", sess, kind, seq, now), err, sess, want)
}

func checkOut(t *testing.T, d *Desk, sess int, want int64) {
	t.Helper()
	if got := d.Out(sess); got != want {
		t.Errorf("Out(%d): %d; want %d", sess, got, want)
	}
}

func checkOn(t *testing.T, d *Desk, sess int, want bool) {
	t.Helper()
	if got := d.On(sess); got != want {
		t.Errorf("On(%d): %v; want %v", sess, got, want)
	}
}

func checkNext(t *testing.T, d *Desk, sess int, want int64) {
	t.Helper()
	if got := d.Next(sess); got != want {
		t.Errorf("Next(%d): %d; want %d", sess, got, want)
	}
}

func checkLate(t *testing.T, d *Desk, now int64, want ...int) {
	t.Helper()
	if got := d.Late(now); !slices.Equal(got, want) {
		t.Errorf("Late(%d): %v; want %v", now, got, want)
	}
}

func checkLive(t *testing.T, d *Desk, want ...int) {
	t.Helper()
	if got := d.Live(); !slices.Equal(got, want) {
		t.Errorf("Live(): %v; want %v", got, want)
	}
}

// checkAll holds d against p in all that can be asked of some sessions, but of Late and Out, which do something.
func checkAll(t *testing.T, d *Desk, p *plain, sessions ...int) {
	t.Helper()
	for _, s := range sessions {
		checkOn(t, d, s, p.on(s))
		checkNext(t, d, s, p.next(s))
	}
	checkLive(t, d, p.live()...)
}

func TestP2501NewAtItsBounds(t *testing.T) {
	for timeout, good := range map[int64]bool{
		1: true, 2: true, 10: true, 64: true, 1001: true, 999999: true, 1000000: true,
		0: false, -1: false, -10: false, -1000000: false, 1000001: false, 1000002: false,
		1 << 32: false, 1<<32 + 1: false, 1<<32 + 1000000: false, most: false, least: false, least + 1: false,
	} {
		want := api.ErrArg
		if good {
			want = api.OK
		}
		if d, err := New(timeout); err != want || (d == nil) != !good {
			t.Errorf("New(%d): %v, %v; want %v", timeout, d, err, want)
		}
	}
}

func TestP2501NobodyIsOnAtANewDesk(t *testing.T) {
	d := made(t, 1)
	for s := 1; s <= 64; s++ {
		checkOn(t, d, s, false)
		checkNext(t, d, s, 1)
	}
	checkLive(t, d)
	for _, now := range times() {
		checkLate(t, d, now)
	}
	for s := 1; s <= 64; s++ {
		checkOut(t, d, s, 1)
	}
}

func TestP2501SessionsOf1ToMaxSess(t *testing.T) {
	d, p := made(t, 10), newPlain(10)
	for s := 1; s <= 64; s++ {
		checkIn(t, d, s, msg.Login, 1, 0, p.comes(s, msg.Login, 1, 0))
		checkAll(t, d, p, s, s-1, s+1)
	}
	if n := len(d.Live()); n != 64 {
		t.Errorf("%d are on", n)
	}
	for range 2 {
		for _, s := range strangers() {
			for _, kind := range kinds() {
				for _, seq := range []int64{0, 1, 2, -1, most, least} {
					checkIn(t, d, s, kind, seq, 0, api.ErrArg)
				}
			}
			checkOn(t, d, s, false)
			checkNext(t, d, s, 0)
			checkOut(t, d, s, 0)
			checkOut(t, d, s, 0)
		}
		for s := 1; s <= 64; s++ {
			checkAll(t, d, p, s)
			checkOut(t, d, s, p.out(s))
		}
	}
	checkLate(t, d, 10, p.live()...)
	checkLive(t, d)
}

// turns are those of no message whose turn is next.
func turns(next int64) []int64 {
	return []int64{0, next - 1, next + 1, next + 2, next + 64, -next, -1, 1<<32 + next, 1 << 32, -1<<32 + next, most, least, least + next}
}

func TestP2501WhoIsNotOnSendsALogin(t *testing.T) {
	for _, s := range []int{1, 5, 63, 64} {
		for _, kind := range kinds() {
			d := made(t, 10)
			if kind == msg.Login {
				checkIn(t, d, s, kind, 1, 0, api.OK)
				checkOn(t, d, s, true)
				checkNext(t, d, s, 2)
				continue
			}
			for _, seq := range append(turns(1), 1) {
				checkIn(t, d, s, kind, seq, 0, api.ErrState)
			}
			checkOn(t, d, s, false)
			checkNext(t, d, s, 1)
			checkLive(t, d)
		}
	}
}

func TestP2501WhoIsOnSendsAllButALogin(t *testing.T) {
	for _, s := range []int{1, 5, 63, 64} {
		for _, kind := range kinds() {
			d := withOn(t, 10, s)
			if kind == msg.Login {
				for _, seq := range append(turns(2), 2) {
					checkIn(t, d, s, kind, seq, 0, api.ErrState)
				}
				checkOn(t, d, s, true)
				checkNext(t, d, s, 2)
				continue
			}
			checkIn(t, d, s, kind, 2, 0, api.OK)
			checkOn(t, d, s, kind != msg.Logout)
			checkNext(t, d, s, 3)
		}
	}
}

func TestP2501AMessageOutOfTurn(t *testing.T) {
	d := made(t, 10)
	for _, seq := range turns(1) {
		checkIn(t, d, 5, msg.Login, seq, 0, api.ErrSeq)
		checkOn(t, d, 5, false)
		checkNext(t, d, 5, 1)
	}
	checkIn(t, d, 5, msg.Login, 1, 0, api.OK)
	for next := int64(2); next < 300; next++ {
		for _, seq := range turns(next) {
			checkIn(t, d, 5, msg.Beat, seq, 0, api.ErrSeq)
			checkIn(t, d, 5, msg.Logout, seq, 0, api.ErrSeq)
			checkNext(t, d, 5, next)
		}
		checkOn(t, d, 5, true)
		checkIn(t, d, 5, int(next%13)+4, next, 0, api.OK) // New and what is behind it
		checkNext(t, d, 5, next+1)
	}
}

// TestP2501TurnsGoOnBehindALogin lets a session come again and again, behind its Logout and when it was late.
func TestP2501TurnsGoOnBehindALogin(t *testing.T) {
	d, next := made(t, 10), int64(1)
	for round := range int64(50) {
		for _, seq := range turns(next) { // 1 is among them in the second round
			checkIn(t, d, 5, msg.Login, seq, round*10, api.ErrSeq)
		}
		checkIn(t, d, 5, msg.Login, next, round*10, api.OK)
		checkIn(t, d, 5, msg.Login, next+1, round*10, api.ErrState)
		checkIn(t, d, 5, msg.Beat, next+1, round*10, api.OK)
		next += 2
		if round%2 == 0 {
			checkIn(t, d, 5, msg.Logout, next, round*10, api.OK)
			next++
		} else {
			checkLate(t, d, round*10+10, 5)
		}
		checkOn(t, d, 5, false)
		checkNext(t, d, 5, next)
		checkIn(t, d, 5, msg.Beat, next, round*10, api.ErrState)
		checkIn(t, d, 5, msg.Logout, next, round*10, api.ErrState)
		if round > 0 {
			checkIn(t, d, 5, msg.Login, 1, round*10, api.ErrSeq)
		}
	}
}

func TestP2501TheFirstWrongIsTold(t *testing.T) {
	d := withOn(t, 10, 5)
	for _, c := range []struct {
		name       string
		sess, kind int
		seq        int64
		want       api.Errno
	}{
		{"no session, not on, out of turn", 65, msg.Beat, 7, api.ErrArg},
		{"no session, not on", 0, msg.Beat, 1, api.ErrArg},
		{"no session, out of turn", 0, msg.Login, 7, api.ErrArg},
		{"no session, in its turn", 0, msg.Login, 0, api.ErrArg},
		{"not on, out of turn", 6, msg.Beat, 7, api.ErrState},
		{"not on, of a kind that is none, out of turn", 6, 99, 7, api.ErrState},
		{"on, out of turn", 5, msg.Login, 7, api.ErrState},
		{"out of turn, of a kind that is none", 5, 99, 7, api.ErrSeq},
		{"a Login out of turn", 6, msg.Login, 7, api.ErrSeq},
	} {
		checkIn(t, d, c.sess, c.kind, c.seq, 0, c.want)
		if t.Failed() {
			t.Fatal(c.name)
		}
	}
}

func TestP2501FaultsWordForWord(t *testing.T) {
	d := withOn(t, 10, 5)
	for _, c := range []struct {
		sess, kind int
		seq        int64
		text       string
		err        api.Errno
	}{
		{0, msg.Login, 1, "sess 0: arg", api.ErrArg}, {65, msg.Login, 1, "sess 65: arg", api.ErrArg}, {-1, msg.Beat, 1, "sess -1: arg", api.ErrArg},
		{most, msg.Login, 1, "sess 9223372036854775807: arg", api.ErrArg}, {least, msg.Login, 1, "sess -9223372036854775808: arg", api.ErrArg},
		{5, msg.Login, 2, "sess 5: state", api.ErrState}, {64, msg.Beat, 1, "sess 64: state", api.ErrState},
		{5, msg.Beat, 1, "sess 5: seq", api.ErrSeq}, {1, msg.Login, 2, "sess 1: seq", api.ErrSeq},
	} {
		err := d.In(c.sess, msg.Msg{Kind: c.kind, Seq: c.seq}, 0)
		var f *api.Fault
		if !errors.As(err, &f) || !errors.Is(err, c.err) || errors.Unwrap(err) != error(c.err) || err.Error() != c.text {
			t.Errorf("In(%d, kind %d of turn %d): %v; want %s", c.sess, c.kind, c.seq, err, c.text)
		}
	}
}

// TestP2501OnlyKindAndTurnAreAsked sends messages of any numbers and rows, as many as none may have.
func TestP2501OnlyKindAndTurnAreAsked(t *testing.T) {
	d := made(t, 10)
	for i, rows := range [][]msg.Row{nil, {}, {{1, 2, 3, 4, 5}}, make([]msg.Row, 51), make([]msg.Row, 1000)} {
		seq := int64(i)*3 + 1
		for n, kind := range []int{msg.Login, 1000, msg.Logout} {
			m := msg.Msg{Kind: kind, Seq: seq + int64(n), A: [6]int64{most, least, -1, 5, 99, seq}, L: rows}
			checkFault(t, msg.Text(m), d.In(5, m, 0), 5, api.OK)
			checkOn(t, d, 5, kind != msg.Logout)
		}
	}
}

func TestP2501OutCountsFrom1(t *testing.T) {
	d := made(t, 10)
	for n := int64(1); n < 1000; n++ {
		checkOut(t, d, 5, n)
		checkOut(t, d, 0, 0)
		checkOut(t, d, 65, 0)
	}
	checkNext(t, d, 5, 1) // of what comes, not of what goes
	checkOut(t, d, 6, 1)
	checkOut(t, d, 64, 1)
	checkOut(t, d, 1, 1)
}

// TestP2501OutGoesOn counts what goes to a session whether it is on or not.
func TestP2501OutGoesOn(t *testing.T) {
	d := made(t, 10)
	checkOut(t, d, 5, 1)
	checkIn(t, d, 5, msg.Login, 1, 0, api.OK)
	checkOut(t, d, 5, 2)
	checkIn(t, d, 5, msg.Beat, 2, 0, api.OK)
	checkOut(t, d, 5, 3)
	checkIn(t, d, 5, msg.Logout, 3, 0, api.OK)
	checkOut(t, d, 5, 4)
	checkIn(t, d, 5, msg.Login, 4, 0, api.OK)
	checkLate(t, d, 10, 5)
	checkOut(t, d, 5, 5)
	checkIn(t, d, 5, msg.Login, 5, 10, api.OK)
	checkOut(t, d, 5, 6)
	checkNext(t, d, 5, 6)
}

func TestP2501LateIsWhoIsSilentForATimeout(t *testing.T) {
	for _, timeout := range []int64{1, 2, 3, 10, 999999, 1000000} {
		for _, told := range append(times(), most-timeout, most-timeout+1, least+timeout, least+timeout-1) {
			d := made(t, timeout)
			checkIn(t, d, 5, msg.Login, 1, told, api.OK)
			checkLate(t, d, least)
			checkLate(t, d, told)
			if told <= most-timeout+1 {
				checkLate(t, d, told+(timeout-1))
			}
			checkOn(t, d, 5, true)
			if told > most-timeout { // it can't be late any more
				checkLate(t, d, most)
				checkOn(t, d, 5, true)
				continue
			}
			checkLate(t, d, told+timeout, 5)
			checkOn(t, d, 5, false)
			checkLate(t, d, told+timeout)
			checkLate(t, d, most)
		}
	}
}

func TestP2501LateAtTimesFarFromEachOther(t *testing.T) {
	for _, timeout := range []int64{1, 10, 1000000} {
		for _, told := range times() {
			for _, now := range times() {
				d, p := made(t, timeout), newPlain(timeout)
				checkIn(t, d, 5, msg.Login, 1, told, p.comes(5, msg.Login, 1, told))
				checkLate(t, d, now, p.late(now)...)
				checkAll(t, d, p, 5)
			}
		}
	}
}

func TestP2501EachMessageTellsThatItLives(t *testing.T) {
	for _, kind := range kinds() {
		if kind == msg.Login || kind == msg.Logout {
			continue
		}
		d := withOn(t, 10, 5)
		for n := int64(1); n < 20; n++ {
			checkLate(t, d, n*9)
			checkIn(t, d, 5, kind, n+1, n*9, api.OK)
			checkLate(t, d, n*9+9)
		}
		checkLate(t, d, 19*9+10, 5) // its last one was at 171
	}
}

// TestP2501ALoginTellsThatItLives comes again long behind what was told last.
func TestP2501ALoginTellsThatItLives(t *testing.T) {
	for _, off := range []func(d *Desk){
		func(d *Desk) { d.In(5, msg.Msg{Kind: msg.Logout, Seq: 2}, 3) },
		func(d *Desk) { d.Late(10); d.In(5, msg.Msg{Kind: msg.Login, Seq: 2}, 10); d.Late(20) },
	} {
		for _, now := range []int64{2, 3, 30, 1000, most - 10} {
			d := withOn(t, 10, 5)
			off(d)
			checkOn(t, d, 5, false)
			checkIn(t, d, 5, msg.Login, 3, now, api.OK)
			checkLate(t, d, now+9)
			checkOn(t, d, 5, true)
			checkLate(t, d, now+10, 5)
			checkOn(t, d, 5, false)
		}
	}
}

// TestP2501WhatIsRefusedTellsNothing sends what is out of turn up to the end of the timeout.
func TestP2501WhatIsRefusedTellsNothing(t *testing.T) {
	d := withOn(t, 10, 5, 6)
	for now := range int64(10) {
		for _, kind := range []int{msg.Beat, msg.Logout, msg.New} {
			checkIn(t, d, 5, kind, 1, now, api.ErrSeq)
			checkIn(t, d, 5, kind, 3, now, api.ErrSeq)
		}
		checkIn(t, d, 5, msg.Login, 2, now, api.ErrState)
		checkLate(t, d, now)
	}
	checkIn(t, d, 6, msg.Beat, 2, 9, api.OK)
	checkLate(t, d, 10, 5)
	checkLive(t, d, 6)
	checkNext(t, d, 5, 2)
}

func TestP2501OnlyWhatComesTellsThatItLives(t *testing.T) {
	d := withOn(t, 10, 5)
	for now := range int64(10) {
		d.Out(5)
		d.On(5)
		d.Next(5)
		d.Live()
		checkLate(t, d, now)
	}
	checkLate(t, d, 10, 5)
}

// TestP2501TheLastMessageCounts has messages at times that fall: what was told last is at the last one's.
func TestP2501TheLastMessageCounts(t *testing.T) {
	d := made(t, 10)
	checkIn(t, d, 5, msg.Login, 1, 100, api.OK)
	checkIn(t, d, 5, msg.Beat, 2, 50, api.OK)
	checkLate(t, d, 59)
	checkOn(t, d, 5, true)
	checkLate(t, d, 60, 5)
	checkIn(t, d, 5, msg.Login, 3, 40, api.OK)
	checkLate(t, d, 49)
	checkLate(t, d, 50, 5)
}

func TestP2501LateAndLiveRise(t *testing.T) {
	next := walk(5)
	for round := range 100 {
		d := made(t, 10)
		var on, silent, rest []int
		for s := 1; s <= 64; s++ {
			switch next(3) {
			case 0:
				silent = append(silent, s)
				on = append(on, s)
			case 1:
				rest = append(rest, s)
				on = append(on, s)
			}
		}
		order := slices.Clone(on)
		for i := range order { // they come in any order
			j := next(len(order))
			order[i], order[j] = order[j], order[i]
		}
		for _, s := range order {
			checkIn(t, d, s, msg.Login, 1, int64(next(5)), api.OK)
		}
		for i := len(order) - 1; i >= 0; i-- {
			if slices.Contains(rest, order[i]) {
				checkIn(t, d, order[i], msg.Beat, 2, 5+int64(next(5)), api.OK)
			}
		}
		checkLive(t, d, on...)
		checkLate(t, d, 14, silent...)
		checkLive(t, d, rest...)
		checkLate(t, d, 19, rest...)
		checkLive(t, d)
		if t.Failed() {
			t.Fatalf("in round %d", round)
		}
	}
}

func TestP2501EachSessionIsItsOwn(t *testing.T) {
	for a := 1; a <= 64; a++ {
		for b := 1; b <= 64; b++ {
			if a == b {
				continue
			}
			d := withOn(t, 10, a)
			checkIn(t, d, b, msg.Beat, 1, 0, api.ErrState)
			checkIn(t, d, b, msg.Beat, 2, 0, api.ErrState)
			checkIn(t, d, a, msg.Beat, 2, 3, api.OK)
			checkOut(t, d, a, 1)
			checkOut(t, d, a, 2)
			checkNext(t, d, b, 1)
			checkIn(t, d, b, msg.Login, 1, 7, api.OK)
			checkOut(t, d, b, 1)
			checkLive(t, d, min(a, b), max(a, b))
			checkLate(t, d, 13, a)
			checkOn(t, d, b, true)
			checkIn(t, d, a, msg.Login, 3, 13, api.OK)
			checkIn(t, d, b, msg.Logout, 2, 13, api.OK)
			checkOn(t, d, a, true)
			checkOn(t, d, b, false)
			checkNext(t, d, a, 4)
			checkNext(t, d, b, 3)
			checkLive(t, d, a)
		}
	}
}

// TestP2501EveryFiveCalls goes through all rows of five calls of eight for one session, at short timeouts.
func TestP2501EveryFiveCalls(t *testing.T) {
	for i := range 8 * 8 * 8 * 8 * 8 {
		for timeout := int64(1); timeout <= 3; timeout++ {
			d, p := made(t, timeout), newPlain(timeout)
			for rest, n, now := i, 0, int64(0); n < 5; rest, n = rest/8, n+1 {
				now += int64(n % 2)
				seq := p.next(5)
				switch what := rest % 8; what {
				case 0, 1, 2:
					kind := []int{msg.Login, msg.Beat, msg.Logout}[what]
					checkIn(t, d, 5, kind, seq, now, p.comes(5, kind, seq, now))
				case 3:
					checkIn(t, d, 5, msg.Login, seq-1, now, p.comes(5, msg.Login, seq-1, now))
				case 4:
					checkIn(t, d, 5, msg.Beat, seq+1, now, p.comes(5, msg.Beat, seq+1, now))
				case 5:
					checkOut(t, d, 5, p.out(5))
				case 6:
					checkLate(t, d, now, p.late(now)...)
				case 7:
					checkLate(t, d, now+2, p.late(now+2)...)
				}
				checkAll(t, d, p, 5)
			}
			if t.Failed() { // enough is told
				t.Fatalf("in row %d of timeout %d", i, timeout)
			}
		}
	}
}

// say says one of many things to d and to p, and holds what they answer against each other; it tells in a word what came of it.
func say(t *testing.T, d *Desk, p *plain, next func(n int) int, now int64) string {
	t.Helper()
	s := []int{1, 2, 3, 5, 63, 64}[next(6)]
	if next(25) == 0 {
		s = strangers()[next(len(strangers()))]
	}
	defer checkAll(t, d, p, s, 1+next(64))
	switch next(8) {
	case 0:
		checkOut(t, d, s, p.out(s))
		return "out"
	case 1:
		l := p.late(now)
		checkLate(t, d, now, l...)
		return fmt.Sprint("late ", min(len(l), 3))
	}
	kind, seq := msg.Beat, p.next(s)
	switch next(6) {
	case 0:
		kind = msg.Logout
	case 1, 2:
		kind = msg.Login
	case 3:
		kind = kinds()[next(len(kinds()))]
	}
	if next(6) == 0 {
		l := turns(seq)
		seq = l[next(len(l))]
	}
	err := p.comes(s, kind, seq, now)
	checkIn(t, d, s, kind, seq, now, err)
	return fmt.Sprint("in ", err)
}

func TestP2501IsThePlainReading(t *testing.T) {
	next, found := walk(1), map[string]int{}
	for _, timeout := range []int64{1, 2, 5, 20, 100, 1000, 1000000} {
		for _, start := range []int64{0, 0, -500, least, most - 2000, 1 << 32} {
			d, p := made(t, timeout), newPlain(timeout)
			now := start
			for range 400 {
				now += int64(next(4) * next(2))
				found[say(t, d, p, next, max(now-int64(next(6)*next(2)), start))]++
			}
			if t.Failed() { // enough is told
				t.Fatalf("of timeout %d, from %d", timeout, start)
			}
		}
	}
	for _, w := range []string{"out", "late 0", "late 1", "late 2", "late 3", "in ok", "in arg", "in state", "in seq"} {
		if found[w] < 60 {
			t.Errorf("%s: only %d", w, found[w])
		}
	}
}

// TestW5InTurn keeps what was in, and what went out: each session's turns are 1, 2, 3, .., none twice and none left out.
func TestW5InTurn(t *testing.T) {
	d, next := made(t, 7), walk(2)
	var in, out [65][]int64
	for now := range int64(20000) {
		s := 1 + next(64)
		m := msg.Msg{Kind: 1 + next(3), Seq: int64(len(in[s]) + next(3))}
		if next(2) == 0 {
			m.Seq = int64(len(in[s]) + 1)
		}
		if d.In(s, m, now/20) == nil {
			in[s] = append(in[s], m.Seq)
		}
		out[s] = append(out[s], d.Out(s))
		if next(30) == 0 {
			d.Late(now / 20)
		}
	}
	for s := 1; s <= 64; s++ {
		if len(in[s]) < 50 || len(out[s]) < 50 {
			t.Errorf("session %d: only %d in, %d out", s, len(in[s]), len(out[s]))
		}
		for _, l := range [][]int64{in[s], out[s]} {
			for i, seq := range l {
				if seq != int64(i+1) {
					t.Fatalf("session %d: %v", s, l)
				}
			}
		}
		checkNext(t, d, s, int64(len(in[s])+1))
	}
}

// TestT3WhoIsOffSendsNothing lets only a Login of its own put a session on again.
func TestT3WhoIsOffSendsNothing(t *testing.T) {
	for i, off := range []func(d *Desk){
		func(d *Desk) { d.In(5, msg.Msg{Kind: msg.Logout, Seq: 2}, 0) },
		func(d *Desk) { d.In(5, msg.Msg{Kind: msg.Beat, Seq: 2}, 0); d.Late(10) },
	} {
		d := withOn(t, 10, 5, 6)
		off(d)
		next := d.Next(5)
		for _, kind := range kinds() {
			if kind == msg.Login {
				continue
			}
			for _, seq := range append(turns(next), next) {
				checkIn(t, d, 5, kind, seq, 1, api.ErrState)
			}
		}
		d.In(6, msg.Msg{Kind: msg.Login, Seq: 2}, 20)
		d.In(7, msg.Msg{Kind: msg.Login, Seq: 1}, 20)
		d.Out(5)
		d.Live()
		for _, now := range times() {
			if slices.Contains(d.Late(now), 5) {
				t.Errorf("%d: late at %d, though it is off", i, now)
			}
		}
		checkOn(t, d, 5, false)
		checkNext(t, d, 5, next)
		checkIn(t, d, 5, msg.Login, next, 2, api.OK)
		checkOn(t, d, 5, true)
		checkIn(t, d, 5, msg.Beat, next+1, 2, api.OK)
	}
}

func TestP1AnythingIsAnswered(t *testing.T) {
	desks := []*Desk{{}, made(t, 1), made(t, 1000000)} // no Desk of New's ends too
	for _, d := range desks {
		for _, s := range append(strangers(), 1, 2, 5, 63, 64) {
			for _, now := range times() {
				for _, kind := range kinds() {
					for _, seq := range append(turns(d.Next(s)), d.Next(s)) {
						d.In(s, msg.Msg{Kind: kind, Seq: seq, L: make([]msg.Row, 2)}, now)
					}
				}
				d.In(s, msg.Msg{Kind: msg.Login, Seq: d.Next(s)}, now)
				d.Late(-now)
				d.Out(s)
				d.On(s)
				d.Live()
				New(now)
			}
		}
	}
}

func TestP2WhatIsHandedInIsNotChanged(t *testing.T) {
	d := made(t, 10)
	room := []msg.Row{{1, 2, 3, 4, 5}, {6, 7, 8, 9, 10}, {77}}
	was := slices.Clone(room)
	for i, kind := range []int{msg.Login, msg.Mass, msg.Logout, msg.Logout, msg.Login} {
		m := msg.Msg{Kind: kind, Seq: int64(i + 1), L: room[:2]}
		d.In(5, m, 0)
		if !slices.Equal(room, was) {
			t.Fatalf("In changed the rows of kind %d", kind)
		}
		room[i%3][0]++ // none of it is kept
		was = slices.Clone(room)
	}
	checkNext(t, d, 5, 4)
}

func TestP2AnswersAreNewMemory(t *testing.T) {
	d := withOn(t, 10, 1, 5, 64)
	spoil := func(l []int) {
		for i := range l[:cap(l)] {
			l[:cap(l)][i] = -7
		}
	}
	for range 3 {
		spoil(d.Live())
		checkLive(t, d, 1, 5, 64)
	}
	checkIn(t, d, 5, msg.Beat, 2, 5, api.OK)
	live := d.Live()
	gone := d.Late(10)
	if !slices.Equal(live, []int{1, 5, 64}) {
		t.Errorf("Late changed what Live answered: %v", live)
	}
	spoil(live)
	if !slices.Equal(gone, []int{1, 64}) {
		t.Errorf("Late's list is Live's: %v", gone)
	}
	spoil(gone)
	checkLive(t, d, 5)
	checkLate(t, d, 15, 5)
}

func TestP2FaultsAreTheCallersOwn(t *testing.T) {
	d := withOn(t, 10, 5)
	for range 3 {
		for _, c := range []struct {
			sess, kind int
			seq        int64
			want       api.Errno
		}{{0, msg.Login, 1, api.ErrArg}, {5, msg.Login, 2, api.ErrState}, {6, msg.Beat, 1, api.ErrState}, {5, msg.Beat, 3, api.ErrSeq}} {
			m := msg.Msg{Kind: c.kind, Seq: c.seq}
			*d.In(c.sess, m, 0).(*api.Fault) = api.Fault{Part: "spoilt", At: 77, Err: api.ErrSum}
			checkIn(t, d, c.sess, c.kind, c.seq, 0, c.want)
		}
	}
}

// look tells all that can be asked of d, but of Late and Out, which do something.
func look(d *Desk) string {
	var b strings.Builder
	for s := -1; s <= 66; s++ {
		fmt.Fprint(&b, d.On(s), d.Next(s), " ")
	}
	fmt.Fprintln(&b, d.Live())
	return b.String()
}

// run tells what a row of calls answers, and what can be asked behind each; ahead is said ahead of each, at that time.
func run(ahead func(d *Desk, now int64)) string {
	var b strings.Builder
	d, _ := New(10)
	next := walk(3)
	for now := range int64(400) {
		s := 1 + next(6)
		kind, seq := 1+next(15), d.Next(s)
		if !d.On(s) && next(2) == 0 {
			kind = msg.Login
		}
		if next(7) == 0 {
			seq += int64(next(3) - 1)
		}
		ahead(d, now)
		switch next(8) {
		case 0:
			fmt.Fprintln(&b, d.Late(now))
		case 1:
			fmt.Fprintln(&b, d.Out(s))
		default:
			fmt.Fprintln(&b, d.In(s, msg.Msg{Kind: kind, Seq: seq}, now))
		}
		b.WriteString(look(d))
	}
	for s := range 66 {
		fmt.Fprint(&b, d.Out(s), " ")
	}
	return b.String()
}

func TestP3TheSameCallsAnswerTheSame(t *testing.T) {
	first := run(func(*Desk, int64) {})
	for range 5 {
		if run(func(*Desk, int64) {}) != first {
			t.Fatal("the same calls answered otherwise")
		}
	}
}

// TestP5T5WhatIsRefusedChangesNothing says ahead of each call what is refused, of each kind, and what is only asked.
func TestP5T5WhatIsRefusedChangesNothing(t *testing.T) {
	first := run(func(*Desk, int64) {})
	for i, ahead := range []func(d *Desk, now int64){
		func(*Desk, int64) { New(0); New(1); New(1000001) },
		func(d *Desk, _ int64) { look(d) },
		func(d *Desk, now int64) { d.Late(least); d.Late(now - 400) }, // when nobody is late
		func(d *Desk, now int64) {
			for _, s := range strangers() {
				d.In(s, msg.Msg{Kind: msg.Login, Seq: 1}, now)
				d.Out(s)
			}
		},
		func(d *Desk, now int64) {
			for s := 1; s <= 64; s++ {
				next := d.Next(s)
				for _, kind := range []int{msg.Login, msg.Beat, msg.Logout, msg.Day, 99} {
					for _, seq := range turns(next) {
						d.In(s, msg.Msg{Kind: kind, Seq: seq}, now)
						d.In(s, msg.Msg{Kind: kind, Seq: seq}, most)
					}
				}
				if d.On(s) {
					d.In(s, msg.Msg{Kind: msg.Login, Seq: next}, now)
					continue
				}
				for _, kind := range []int{msg.Beat, msg.Logout, msg.New, 0, 99} {
					d.In(s, msg.Msg{Kind: kind, Seq: next}, now)
				}
			}
		},
	} {
		if run(ahead) != first {
			t.Errorf("%d: something was changed", i)
		}
	}
}

func TestP7DesksAreTheCallersOwn(t *testing.T) {
	a, b := made(t, 10), made(t, 20)
	checkIn(t, a, 5, msg.Login, 1, 0, api.OK)
	checkOut(t, a, 5, 1)
	checkOn(t, b, 5, false)
	checkNext(t, b, 5, 1)
	checkOut(t, b, 5, 1)
	checkIn(t, b, 5, msg.Login, 1, 0, api.OK)
	checkLate(t, b, 19)
	checkLate(t, a, 10, 5)
	checkOn(t, b, 5, true)
	checkIn(t, a, 5, msg.Login, 2, 10, api.OK)
	checkLate(t, b, 20, 5)
	checkOn(t, a, 5, true)
	checkNext(t, b, 5, 2)
}
