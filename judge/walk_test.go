package judge

import (
	"fmt"
	"hash/crc32"
	"math"
	"slices"
	"strings"
	"testing"

	"straddle/api"
	"straddle/frame"
	"straddle/grid"
	"straddle/msg"
	"straddle/risk"
	"straddle/series"
	"straddle/venue"
)

// conf tells a venue of six series: four of class AB, two of class C, on a grid that grows coarse.
func conf() venue.Config {
	c := venue.Config{
		Classes: []string{"AB", "C"},
		Grids:   []grid.Table{{{From: 1, By: 1}}, {{From: 1, By: 1}, {From: 9, By: 2}}},
		Limits:  risk.Limits{Qty: 100, Notional: 100000, Orders: 50},
		Fills:   2, Window: 5, Timeout: 10,
	}
	for i := range 6 {
		s := series.Series{Class: "AB", Expiry: int64(4 + i*i), Strike: int64(100 + i), Right: series.Call}
		if i > 3 {
			s.Class, s.Strike = "C", 11
		}
		c.Series = append(c.Series, s)
	}
	return c
}

// wide tells the same with limits that forbid nothing.
func wide() venue.Config {
	c := conf()
	c.Limits = risk.Limits{Qty: api.MaxQty, Notional: 1 << 50, Orders: 4096}
	c.Fills, c.Timeout = 1000, 1000000
	return c
}

// body tells a message's bytes.
func body(m msg.Msg) []byte {
	b, err := msg.Encode(m)
	if err != nil {
		panic(err)
	}
	return b
}

// wrapped tells the frame of any body.
func wrapped(b []byte) []byte {
	f, err := frame.Wrap(b)
	if err != nil {
		panic(err)
	}
	return f
}

// sent tells the frame of a message.
func sent(kind int, seq int64, l []msg.Row, a ...int64) []byte {
	m := msg.Msg{Kind: kind, Seq: seq, L: l}
	copy(m.A[:], a)
	return wrapped(body(m))
}

// message reads a frame by the document's words, and asks that it is nothing but one.
func message(t *testing.T, b []byte) msg.Msg {
	t.Helper()
	if len(b) < 6 || int(b[0])+256*int(b[1]) != len(b)-6 || len(b)-6 > api.MaxBody {
		t.Fatalf("P2801: %v is no frame", b)
	}
	inner, sum := b[2:len(b)-4], b[len(b)-4:]
	if s := crc32.ChecksumIEEE(inner); !slices.Equal(sum, []byte{byte(s), byte(s >> 8), byte(s >> 16), byte(s >> 24)}) {
		t.Fatalf("P2801: the sum of %v is not %x", b, s)
	}
	m, err := msg.Decode(inner)
	if err != nil {
		t.Fatalf("P2801: %v: %v", b, err)
	}
	return m
}

// texts tells answers, one a line: the session, the message.
func texts(t *testing.T, l []Answer) string {
	t.Helper()
	var w strings.Builder
	for _, a := range l {
		fmt.Fprintf(&w, "%d: %s\n", a.Sess, msg.Text(message(t, a.Bytes)))
	}
	return w.String()
}

// outs tells the same of what a venue tells.
func outs(l []venue.Out) string {
	var w strings.Builder
	for _, o := range l {
		fmt.Fprintf(&w, "%d: %s\n", o.Sess, msg.Text(o.M))
	}
	return w.String()
}

// plain is roads as they are read off the document: a venue that is called by hand.
type plain struct {
	t     *testing.T
	v     *venue.Venue
	held  map[int][]byte
	dead  map[int]bool
	next  map[int]int64
	told  []venue.Out
	asked func()
}

func plainOf(t *testing.T, c venue.Config) *plain {
	t.Helper()
	v, err := venue.New(c)
	if err != nil {
		t.Fatal(err)
	}
	return &plain{t: t, v: v, held: map[int][]byte{}, dead: map[int]bool{}, next: map[int]int64{}, asked: func() {}}
}

func (p *plain) on(sess int) bool { return slices.Contains(p.v.Live(), sess) }

// turn is the one of what a session is to send next.
func (p *plain) turn(sess int) int64 { return p.next[sess] + 1 }

func (p *plain) tell(l []venue.Out) {
	p.told = append(p.told, l...)
	p.asked()
}

// take takes an Item.
func (p *plain) take(x Item) {
	if x.Sess >= 1 && x.Sess <= 64 && !p.dead[x.Sess] {
		p.bytes(x.Sess, x.Bytes)
	}
	if x.Ticks >= 0 && x.Ticks <= 1000 {
		for range x.Ticks {
			p.tell(p.v.Tick())
		}
	}
}

func (p *plain) bytes(sess int, b []byte) {
	h := append(p.held[sess], b...)
	for len(h) >= 2 {
		n := int(h[0]) + 256*int(h[1])
		if n > 1024 {
			p.die(sess, api.ErrLong)
			return
		}
		if len(h) < n+6 {
			break
		}
		inner, sum := h[2:n+2], h[n+2:n+6]
		if s := crc32.ChecksumIEEE(inner); !slices.Equal(sum, []byte{byte(s), byte(s >> 8), byte(s >> 16), byte(s >> 24)}) {
			p.die(sess, api.ErrSum)
			return
		}
		p.whole(sess, inner)
		h = h[n+6:]
	}
	p.held[sess] = slices.Clone(h)
}

func (p *plain) die(sess int, e api.Errno) {
	p.dead[sess] = true
	p.tell(p.v.Refuse(sess, e))
}

func (p *plain) whole(sess int, b []byte) {
	m, err := msg.Decode(b)
	if err != nil {
		p.tell(p.v.Refuse(sess, last(err)))
		return
	}
	if p.on(sess) != (m.Kind == msg.Login) && m.Seq == p.turn(sess) {
		p.next[sess]++
	}
	p.tell(p.v.Do(sess, m))
}

// last tells the number at the very end of an error.
func last(err error) api.Errno {
	for {
		u, ok := err.(interface{ Unwrap() error })
		if !ok || u.Unwrap() == nil {
			return err.(api.Errno)
		}
		err = u.Unwrap()
	}
}

// walk tells numbers below n, each time the same row of them.
func walk(seed uint32) func(n int) int64 {
	return func(n int) int64 {
		seed = seed*1664525 + 1013904223
		return int64(seed>>8) % int64(n)
	}
}

// crowd is sessions that send anything, piece by piece, and the plain roads on which it goes, too.
type crowd struct {
	*plain
	r     func(n int) int64
	queue map[int][]byte // of a session: what it has yet to send
	items []Item
	wild  int // one of so many bodies is spoilt; 0: none
}

func crowdOf(t *testing.T, c venue.Config, seed uint32) *crowd {
	t.Helper()
	return &crowd{plain: plainOf(t, c), r: walk(seed), queue: map[int][]byte{}}
}

// item lets an Item be, on the plain roads, too.
func (c *crowd) item(x Item) {
	c.items = append(c.items, x)
	c.take(x)
}

// do lets a session send a message in its turn, at once.
func (c *crowd) do(sess, kind int, l []msg.Row, a ...int64) {
	c.item(Item{Sess: sess, Bytes: sent(kind, c.turn(sess), l, a...)})
}

// opened lets five sessions come, and all series be open, with four strategies.
func (c *crowd) opened() {
	for s := 1; s <= 5; s++ {
		c.do(s, msg.Login, nil)
	}
	for i := range 6 {
		c.do(1, msg.State, nil, int64(i+1), 2)
	}
	c.do(1, msg.Strat, []msg.Row{{1, 1, 1}, {2, -1, 1}})
	c.do(1, msg.Strat, []msg.Row{{2, -1, 3}, {3, 1, 2}})
	c.do(1, msg.Strat, []msg.Row{{1, 1, 1}, {2, 1, 1}, {4, -1, 1}})
	c.do(1, msg.Strat, []msg.Row{{5, 1, 1}, {6, -1, 1}})
}

// some tells one of these.
func (c *crowd) some(l ...int64) int64 { return l[c.r(len(l))] }

// near tells a number from lo to hi, seldom one that may not be.
func (c *crowd) near(lo, hi int64) int64 {
	if c.r(60) == 0 {
		return c.some(0, -1, 99, math.MaxInt64, math.MinInt64, api.MaxPrice, api.MaxPrice+1, 1<<32+1)
	}
	return lo + c.r(int(hi-lo+1))
}

// id tells an order's number, most often one of a session with something open.
func (c *crowd) id(sess int) int64 {
	var ids []int64
	for id := int64(1); ; id++ {
		e, ok := c.v.Entry(id)
		if !ok {
			break
		}
		if e.Open > 0 && e.Owner == sess {
			ids = append(ids, id)
		}
	}
	if len(ids) == 0 || c.r(20) == 0 {
		return c.near(0, 30)
	}
	return ids[c.r(len(ids))]
}

// anything tells a message that a session may send.
func (c *crowd) anything(sess int) msg.Msg {
	at := c.near(1, 6)
	if c.r(3) > 0 {
		at = 1 + c.r(2)
	}
	of := func(kind int, a ...int64) msg.Msg {
		m := msg.Msg{Kind: kind}
		copy(m.A[:], a)
		return m
	}
	switch k := c.r(100); {
	case !c.on(sess):
		return of(msg.Login)
	case k < 30:
		return of(msg.New, at, c.near(1, 2), c.near(8, 13), c.near(1, 6), c.some(1, 1, 1, 2, 3, 4), c.r(3))
	case k < 36:
		return of(msg.Cancel, c.id(sess))
	case k < 40:
		return of(msg.Reduce, c.id(sess), c.near(1, 3))
	case k < 45:
		return of(msg.Replace, c.id(sess), c.near(8, 13), c.near(1, 6))
	case k < 58:
		m := of(msg.Mass)
		for range 1 + c.r(3) {
			mid := 9 + c.r(3)
			m.L = append(m.L, msg.Row{c.near(1, 6), mid - c.r(2), c.near(0, 5), mid + c.r(3), c.near(0, 5)})
		}
		return m
	case k < 60:
		return of(msg.Purge, c.near(0, 3))
	case k < 64:
		return of(msg.Enable)
	case k < 65:
		m := of(msg.Strat)
		for range 2 + c.r(3) {
			m.L = append(m.L, msg.Row{c.near(1, 5), c.some(1, -1, 1, -1, 0), c.near(1, 4), c.r(3)})
		}
		return m
	case k < 86:
		return of(msg.Complex, c.near(1, 4), c.near(1, 2), c.near(-8, 8), c.near(1, 4), c.some(1, 1, 1, 2))
	case k < 89:
		return of(msg.Drop, c.id(sess))
	case k < 92:
		return of(msg.State, c.near(1, 6), c.some(2, 2, 2, 3, 1, 4, 0))
	case k < 93:
		return of(msg.Day, c.some(1, 2, 3, 4, 5, 8, 13, 0, -1))
	case k < 95:
		return of(int(c.some(msg.Logout, msg.Accept, msg.Trade, msg.Phase)), c.id(sess))
	}
	return of(msg.Beat)
}

// spoilt tells bytes that are no message.
func (c *crowd) spoilt() []byte {
	good := body(msg.Msg{Kind: msg.New, Seq: 1, A: [6]int64{1, 1, 10, 1, 1}})
	switch c.r(6) {
	case 0:
		return good[:c.r(len(good))]
	case 1:
		return append(good, byte(c.r(256)))
	case 2:
		return append([]byte{0}, good[1:]...)
	case 3:
		return append([]byte{good[0], 1}, good[2:]...)
	case 4:
		good[len(good)-1] = 2 // a row
		return append(good, 0, 0, 0, 0, 0)
	}
	return []byte{128, 0}
}

// fill gives a session some frames to send.
func (c *crowd) fill(sess int) {
	next := c.turn(sess)
	for range 1 + c.r(3) {
		if c.wild > 0 && c.r(c.wild) == 0 {
			c.queue[sess] = append(c.queue[sess], wrapped(c.spoilt())...)
			continue
		}
		m := c.anything(sess)
		m.Seq = next
		if c.r(40) == 0 {
			m.Seq = c.some(1, next+1, 1<<40)
		}
		next++
		c.queue[sess] = append(c.queue[sess], wrapped(body(m))...)
	}
	if c.wild > 0 && c.r(c.wild*20) == 0 {
		q := c.queue[sess]
		q[c.r(len(q))] ^= byte(1 + c.r(255))
	}
}

// step lets a session send a piece of what it has to send, and the time go on a little, seldom.
func (c *crowd) step() {
	sess := int(1 + c.r(5))
	if len(c.queue[sess]) == 0 {
		c.fill(sess)
	}
	q := c.queue[sess]
	n := 1 + int(c.r(len(q)))
	x := Item{Sess: sess, Bytes: slices.Clone(q[:n])}
	c.queue[sess] = q[n:]
	if c.r(15) == 0 {
		x.Ticks = int(c.some(1, 1, 1, 2, 3, -1, 1001))
	}
	c.item(x)
}

// same asks that Run tells of the Items what the plain roads tell.
func (c *crowd) same(conf venue.Config, what string) {
	c.t.Helper()
	l, err := Run(conf, c.items...)
	if got, want := texts(c.t, l), outs(c.told); got != want || err != nil {
		c.t.Fatalf("%s: %v\n%swant\n%s", what, err, got, want)
	}
}
