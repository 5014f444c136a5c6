package venue

import (
	"errors"
	"fmt"
	"math"
	"slices"
	"strings"
	"testing"

	"straddle/api"
	"straddle/book"
	"straddle/cbook"
	"straddle/dir"
	"straddle/feed"
	"straddle/grid"
	"straddle/ladder"
	"straddle/legs"
	"straddle/life"
	"straddle/msg"
	"straddle/order"
	"straddle/risk"
	"straddle/series"
)

const (
	most  = math.MaxInt64
	least = math.MinInt64
)

// conf tells a venue of six series: three of class AB that expire at 10, one at 20, and two of class C, on a coarse grid.
func conf() Config {
	return Config{
		Classes: []string{"AB", "C"},
		Grids:   []grid.Table{{{From: 1, By: 1}}, {{From: 1, By: 5}}},
		Series: []series.Series{
			{Class: "AB", Expiry: 10, Strike: 100, Right: series.Call},
			{Class: "AB", Expiry: 10, Strike: 110, Right: series.Call},
			{Class: "AB", Expiry: 10, Strike: 120, Right: series.Call},
			{Class: "AB", Expiry: 20, Strike: 100, Right: series.Put},
			{Class: "C", Expiry: 10, Strike: 6, Right: series.Call},
			{Class: "C", Expiry: 30, Strike: 6, Right: series.Call},
		},
		Limits: risk.Limits{Qty: 100, Notional: 100000, Orders: 50},
		Fills:  2, Window: 5, Timeout: 10,
	}
}

// wide tells the same with limits that forbid nothing.
func wide() Config {
	c := conf()
	c.Limits = risk.Limits{Qty: api.MaxQty, Notional: 1 << 50, Orders: 4096}
	c.Fills, c.Timeout = 1000, 1000000
	return c
}

// play is a venue, and the turns of its sessions.
type play struct {
	t       *testing.T
	v       *Venue
	in, out map[int]int64
}

// begun tells a venue where so many sessions are on, and these series are Open.
func begun(t *testing.T, c Config, sessions int, open ...int) *play {
	t.Helper()
	v, err := New(c)
	if err != nil {
		t.Fatal(err)
	}
	p := &play{t, v, map[int]int64{}, map[int]int64{}}
	for s := 1; s <= sessions; s++ {
		p.do(fmt.Sprint(s, " accept 1"), s, msg.Login)
	}
	for _, id := range open {
		p.do(fmt.Sprint("1 accept ", p.in[1]+1), 1, msg.State, int64(id), dir.Open)
	}
	return p
}

// nums tells numbers without the noughts behind.
func nums(l []int64) string {
	for len(l) > 0 && l[len(l)-1] == 0 {
		l = l[:len(l)-1]
	}
	return strings.Trim(fmt.Sprint(l), "[]")
}

func words(m msg.Msg) string {
	names := map[int]string{msg.Accept: "accept", msg.Reject: "reject", msg.Fill: "fill", msg.Done: "done", msg.Told: "told", msg.Leg: "leg", msg.Level: "level", msg.Trade: "trade", msg.Phase: "phase"}
	s := strings.TrimSpace(names[m.Kind] + " " + nums(m.A[:]))
	for _, r := range m.L {
		s += " [" + nums(r[:]) + "]"
	}
	return s
}

// told asks that each session has what goes to it in its turns, and tells all of it in words.
func (p *play) told(l []Out) string {
	p.t.Helper()
	var out []string
	for _, o := range l {
		p.out[o.Sess]++
		if o.M.Seq != p.out[o.Sess] {
			p.t.Errorf("W5: session %d is told %s as %d; want %d", o.Sess, words(o.M), o.M.Seq, p.out[o.Sess])
		}
		out = append(out, fmt.Sprint(o.Sess)+" "+words(o.M))
	}
	return strings.Join(out, "; ")
}

// do lets a session send a message in its turn, and asks what is told by it.
func (p *play) do(want string, sess, kind int, a ...int64) {
	p.t.Helper()
	p.send(want, sess, kind, nil, a...)
}

func (p *play) send(want string, sess, kind int, l []msg.Row, a ...int64) {
	p.t.Helper()
	p.in[sess]++
	m := msg.Msg{Kind: kind, Seq: p.in[sess], L: l}
	copy(m.A[:], a)
	if got := p.told(p.v.Do(sess, m)); got != want {
		p.t.Errorf("session %d, %d: %s\n tells %s\n want  %s", sess, p.in[sess], msg.Text(m), got, want)
	}
}

// raw lets a session send any message, in its turn or out of it.
func (p *play) raw(want string, sess int, m msg.Msg) {
	p.t.Helper()
	if got := p.told(p.v.Do(sess, m)); got != want {
		p.t.Errorf("session %d: %s\n tells %s\n want  %s", sess, msg.Text(m), got, want)
	}
}

func (p *play) tick(want string) {
	p.t.Helper()
	if got := p.told(p.v.Tick()); got != want {
		p.t.Errorf("Tick at %d tells %s; want %s", p.v.Now(), got, want)
	}
}

// ticks lets so much time go by in which nothing is told.
func (p *play) ticks(n int) {
	p.t.Helper()
	for range n {
		p.tick("")
	}
}

// rests asks who waits in a series, by their texts, those who buy first.
func (p *play) rests(id int, want string) {
	p.t.Helper()
	var l []string
	b := p.v.Book(id)
	for _, o := range append(b.Row(api.Buy), b.Row(api.Sell)...) {
		l = append(l, order.Text(o))
	}
	if got := strings.Join(l, "; "); got != want {
		p.t.Errorf("in %d waits %s; want %s", id, got, want)
	}
}

// waits asks who waits for a strategy.
func (p *play) waits(strat int, want string) {
	p.t.Helper()
	if got := strings.Trim(fmt.Sprint(p.v.Complex(strat)), "[]"); got != want {
		p.t.Errorf("for %d waits %s; want %s", strat, got, want)
	}
}

// feeds asks what a feed tells from a turn on; of each message without the series.
func (p *play) feeds(id, from int, want string) {
	p.t.Helper()
	var l []string
	for i, m := range p.v.Feed(id) {
		if m.Seq != int64(i+1) || m.A[0] != int64(id) {
			p.t.Errorf("feed %d: at %d %s", id, i, msg.Text(m))
		}
		if m.Seq >= int64(from) {
			copy(m.A[:], m.A[1:])
			l = append(l, words(m))
		}
	}
	if got := strings.Join(l, "; "); got != want {
		p.t.Errorf("feed %d from %d on tells\n %s\n want %s", id, from, got, want)
	}
}

// became asks what became of an order: what was entered, filled, cancelled, and is open.
func (p *play) became(id int64, want ...int64) {
	p.t.Helper()
	e, ok := p.v.Entry(id)
	if got := []int64{e.Entered, e.Filled, e.Cancelled, e.Open}; !ok || !slices.Equal(got, want) {
		p.t.Errorf("of %d became %v, %v; want %v", id, got, ok, want)
	}
}

// is tells whether an error is a Fault of a part and a place, with a number at its end.
func is(err error, part string, at int, e api.Errno) bool {
	var f *api.Fault
	return errors.As(err, &f) && f.Part == part && f.At == at && errors.Is(err, e)
}

// scene is all that package cross asks of a strategy.
type scene struct {
	l []legs.Leg
	b []*book.Book
	g []grid.Table
	c *cbook.Book
}

func sceneOf(v *Venue, strat int) scene {
	s := scene{l: v.Legs(strat), c: cbook.New()}
	for _, leg := range s.l {
		s.b = append(s.b, v.Book(leg.Series))
		s.g = append(s.g, v.Grid(leg.Series))
	}
	for _, o := range v.Complex(strat) {
		if s.c.Insert(o) != api.OK {
			panic("an order that can't wait waits")
		}
	}
	return s
}

// spoils are all that may be wrong about a Config, by the places of the parts.
var spoils = []struct {
	spoil func(c *Config)
	at    int
	want  api.Errno
	part  string // of the fault within
}{
	{func(c *Config) { c.Grids = c.Grids[:1] }, 0, api.ErrArg, ""},
	{func(c *Config) { c.Grids = append(c.Grids, c.Grids[0]) }, 0, api.ErrArg, ""},
	{func(c *Config) { c.Grids = nil }, 0, api.ErrArg, ""},
	{func(c *Config) { c.Classes = nil }, 0, api.ErrArg, ""},
	{func(c *Config) { c.Classes[0] = "a" }, 0, api.ErrName, "class"},
	{func(c *Config) { c.Classes[1] = "AB" }, 0, api.ErrTwice, "class"},
	{func(c *Config) { c.Grids[1] = nil }, 0, api.ErrArg, "class"},
	{func(c *Config) { c.Grids[0] = grid.Table{{From: 1, By: 5}, {From: 7, By: 5}} }, 0, api.ErrForm, "class"},
	{func(c *Config) { c.Series[5].Strike = 7 }, 1, api.ErrGrid, "series"},
	{func(c *Config) { c.Series[0].Class = "D" }, 1, api.ErrName, "series"},
	{func(c *Config) { c.Series[1] = c.Series[0] }, 1, api.ErrTwice, "series"},
	{func(c *Config) { c.Series[2].Expiry = 0 }, 1, api.ErrArg, "series"},
	{func(c *Config) { c.Limits.Qty = 0 }, 2, api.ErrArg, ""},
	{func(c *Config) { c.Limits.Notional = 1<<50 + 1 }, 2, api.ErrArg, ""},
	{func(c *Config) { c.Limits.Orders = 4097 }, 2, api.ErrArg, ""},
	{func(c *Config) { c.Fills = 0 }, 3, api.ErrArg, ""},
	{func(c *Config) { c.Fills = 1001 }, 3, api.ErrArg, ""},
	{func(c *Config) { c.Window = 1000001 }, 3, api.ErrArg, ""},
	{func(c *Config) { c.Timeout = 0 }, 4, api.ErrArg, ""},
	{func(c *Config) { c.Timeout = 1000001 }, 4, api.ErrArg, ""},
}

// TestNewFaults (P2701, P4, P6): a Config that may not be, at which part, of whose error; of two parts the first one.
func TestNewFaults(t *testing.T) {
	for i, x := range spoils {
		c := conf()
		x.spoil(&c)
		v, err := New(c)
		if v != nil || !is(err, "venue", x.at, x.want) {
			t.Errorf("P2701: %d: %v, %v; want venue %d: %v", i, v, err, x.at, x.want)
			continue
		}
		var f *api.Fault
		inner := errors.Unwrap(err)
		if x.part == "" && inner != error(x.want) || x.part != "" && (!errors.As(inner, &f) || f.Part != x.part) {
			t.Errorf("P2701: %d: wraps %v", i, inner)
		}
		for k, y := range spoils {
			if y.at <= x.at {
				continue
			}
			c = conf()
			y.spoil(&c)
			x.spoil(&c)
			if v, err := New(c); v != nil || !is(err, "venue", x.at, x.want) {
				t.Errorf("P6: %d and %d: %v", i, k, err)
			}
		}
	}
}

// TestNewOrder (P2701, P6): Classes and Series are told by the first one that may not be.
func TestNewOrder(t *testing.T) {
	c := conf()
	c.Classes, c.Grids[0] = []string{"AB", "x"}, nil
	if _, err := New(c); !is(err, "venue", 0, api.ErrArg) || !is(errors.Unwrap(err), "class", 0, api.ErrArg) {
		t.Errorf("P2701: %v", err)
	}
	c = conf()
	c.Series[2].Strike, c.Series[4].Class = 0, "D"
	if _, err := New(c); !is(err, "venue", 1, api.ErrArg) || !is(errors.Unwrap(err), "series", 2, api.ErrArg) {
		t.Errorf("P2701: %v", err)
	}
}

// TestNewMost (P2701, limits): as many classes and series as may be, and one more.
func TestNewMost(t *testing.T) {
	c := conf()
	c.Classes, c.Grids, c.Series = nil, nil, nil
	for i := range 16 {
		c.Classes = append(c.Classes, fmt.Sprint("A", i))
		c.Grids = append(c.Grids, grid.Table{{From: 1, By: 1}})
	}
	for i := range api.MaxSeries {
		c.Series = append(c.Series, series.Series{Class: "A3", Expiry: int64(i + 1), Strike: 5, Right: series.Put})
	}
	c.Limits, c.Fills, c.Window, c.Timeout = risk.Limits{Qty: 1000000, Notional: 1 << 50, Orders: 4096}, 1000, 1000000, 1000000
	v, err := New(c)
	if err != nil || v.State(64) != dir.Closed || v.State(65) != 0 || v.Book(64) == nil || v.Book(65) != nil {
		t.Fatalf("P2701: %v", err)
	}
	d := c
	d.Classes, d.Grids = append(c.Classes[:16:16], "B"), append(c.Grids[:16:16], c.Grids[0])
	if _, err := New(d); !is(err, "venue", 0, api.ErrFull) {
		t.Errorf("P2701: %v", err)
	}
	d = c
	d.Series = append(c.Series[:64:64], series.Series{Class: "A3", Expiry: 99, Strike: 5, Right: series.Put})
	if _, err := New(d); !is(err, "venue", 1, api.ErrFull) {
		t.Errorf("P2701: %v", err)
	}
	c.Classes, c.Grids, c.Series = nil, nil, nil
	c.Limits, c.Fills, c.Window, c.Timeout = risk.Limits{Qty: 1, Notional: 1, Orders: 1}, 1, 1, 1
	if v, err = New(c); err != nil || v.State(1) != 0 {
		t.Errorf("P2701: of nothing: %v", err)
	}
}

// TestNewVenue (P2701, P2705): a venue as it begins; what there is not is told as nothing.
func TestNewVenue(t *testing.T) {
	v, err := New(conf())
	if err != nil || v.Now() != 0 || len(v.Live()) != 0 || v.Strats() != 0 {
		t.Fatalf("P2701: %v", err)
	}
	for id := 1; id <= 6; id++ {
		bought, sold := v.Volume(id)
		if v.State(id) != dir.Closed || v.Book(id) == nil || v.Book(id).Len() != 0 || len(v.Grid(id)) != 1 || v.Grid(id)[0].By != []int64{1, 5}[id/5] || bought != 0 || sold != 0 || len(v.Feed(id)) != 0 || !feed.Same(v.View(id), feed.View{}) {
			t.Errorf("P2701: series %d", id)
		}
	}
	for _, id := range []int{0, -1, 7, math.MaxInt, math.MinInt} {
		nothing(t, v, id)
	}
}

// nothing asks that there is neither a series, nor a strategy, nor an order of a number.
func nothing(t *testing.T, v *Venue, id int) {
	t.Helper()
	bought, sold := v.Volume(id)
	if v.State(id) != 0 || v.Book(id) != nil || v.Grid(id) != nil || bought != 0 || sold != 0 || len(v.Feed(id)) != 0 || !feed.Same(v.View(id), feed.View{}) {
		t.Errorf("P2705: series %d is there", id)
	}
	if v.Legs(id) != nil || len(v.Complex(id)) != 0 {
		t.Errorf("P2705: strategy %d is there", id)
	}
	if e, ok := v.Entry(int64(id)); ok || e != (life.Entry{}) {
		t.Errorf("P2705: order %d is there", id)
	}
}

// TestZero (P1): a Venue that New did not make answers, as one that lists nothing.
func TestZero(t *testing.T) {
	var v Venue
	p := &play{t, &v, map[int]int64{}, map[int]int64{}}
	p.do("1 accept 1", 1, msg.Login)
	p.do("1 reject 2 5", 1, msg.New, 1, 1, 1, 1, 1)
	p.send("1 told 3 [5]", 1, msg.Mass, []msg.Row{{1, 1, 1, 2, 1}})
	p.send("1 reject 4 5", 1, msg.Strat, []msg.Row{{1, 1, 1}, {2, 1, 1}})
	p.send("1 reject 5 1", 1, msg.Strat, nil)
	p.do("1 reject 6 5", 1, msg.Complex, 1, 1, 1, 1, 1)
	p.do("1 reject 7 5", 1, msg.State, 1, 2)
	p.do("1 accept 8", 1, msg.Day, 5)
	p.do("1 told 9", 1, msg.Purge, 0)
	p.do("1 reject 10 7", 1, msg.Enable)
	p.tick("1 told 1")
	for _, id := range []int{-1, 0, 1} {
		nothing(t, &v, id)
	}
	if v.Now() != 1 || v.Strats() != 0 || len(v.Live()) != 0 || len(v.Refuse(1, api.ErrSum)) != 0 {
		t.Error("P1: a zero Venue")
	}
}

// TestTick (P2701): the time; who is late is off by it, all that he had is cancelled without a word, and he is told how much.
func TestTick(t *testing.T) {
	p := begun(t, conf(), 3, 1, 2)
	p.send("1 accept 4 1", 1, msg.Strat, []msg.Row{{1, 1, 1}, {2, 1, 1}})
	p.do("2 accept 2 1", 2, msg.New, 1, 1, 10, 3, 1)
	p.send("2 told 3 [0 2 3] [0 4]", 2, msg.Mass, []msg.Row{{1, 9, 1, 20, 1}, {2, 5, 7}})
	p.do("2 accept 4 5", 2, msg.Complex, 1, 1, 3, 2, 1)
	p.do("3 accept 2 6", 3, msg.New, 1, 1, 8, 2, 1)
	p.ticks(9)
	p.do("3 accept 3", 3, msg.Beat)
	p.tick("1 told 1; 2 told 1 5")
	if p.v.Now() != 10 || !slices.Equal(p.v.Live(), []int{3}) {
		t.Errorf("P2701: %d, %v", p.v.Now(), p.v.Live())
	}
	p.became(1, 3, 0, 3, 0)
	p.became(4, 7, 0, 7, 0)
	p.became(5, 2, 0, 2, 0)
	p.rests(1, "6 3 B 2@8 day")
	p.rests(2, "")
	p.waits(1, "")
	p.feeds(1, 6, "level 1 10; level 1 9; level 2 20")
	p.raw("2 reject 5 7", 2, msg.Msg{Kind: msg.Beat, Seq: 5})
	p.ticks(8)
	p.tick("3 told 1 1")
	if p.v.Now() != 19 || len(p.v.Live()) != 0 {
		t.Errorf("P2701: %d, %v", p.v.Now(), p.v.Live())
	}
	p.ticks(30)
	p.do("2 accept 5", 2, msg.Login)
	p.do("2 told 6", 2, msg.Purge, 0)
	p.ticks(9)
	p.tick("2 told 1")
}

// TestTickStirs (P2701, P2704): what goes by a Tick may be what others waited for; a refused message is heard, too.
func TestTickStirs(t *testing.T) {
	p := begun(t, conf(), 3, 1, 2)
	p.send("1 accept 4 1", 1, msg.Strat, []msg.Row{{1, 1, 2}, {2, -1, 1}})
	p.do("2 accept 2 1", 2, msg.New, 1, 1, 10, 1, 1)
	p.do("2 accept 3 2", 2, msg.New, 1, 2, 11, 1, 1)
	p.do("2 accept 4 3", 2, msg.New, 2, 1, 5, 1, 1)
	p.do("2 accept 5 4", 2, msg.New, 2, 2, 6, 1, 1)
	p.do("3 accept 2 5", 3, msg.New, 2, 1, 5, 1, 1, 1) // a customer, who keeps others from 5
	p.do("1 accept 5 6", 1, msg.Complex, 1, 1, 17, 2, 1)
	p.do("1 accept 6 7", 1, msg.Complex, 1, 2, 17, 1, 1)
	p.ticks(9)
	p.do("1 accept 7", 1, msg.Beat)
	p.do("2 reject 6 5", 2, msg.Cancel, 99)
	p.tick("3 told 1 1; 1 leg 7 1 11 2 2 17; 1 leg 6 1 11 2 1 17; 1 leg 7 2 5 1 1 17; 1 leg 6 2 5 1 2 17; 1 fill 7 17 1; 1 fill 6 17 1 1 1")
	p.feeds(2, 4, "level 1 5 2 2; trade 5 1; level 1 5 1 1")
}

// TestTurns (P2702, W5): who may say what when; a Reject alone, and nothing to who is no session.
func TestTurns(t *testing.T) {
	p := begun(t, conf(), 0)
	p.raw("1 reject 1 7", 1, msg.Msg{Kind: msg.Beat, Seq: 1})
	p.raw("1 reject 2 13", 1, msg.Msg{Kind: msg.Login, Seq: 2})
	p.raw("1 reject -5 13", 1, msg.Msg{Kind: msg.Login, Seq: -5})
	p.raw("1 accept 1", 1, msg.Msg{Kind: msg.Login, Seq: 1})
	p.raw("1 reject 2 7", 1, msg.Msg{Kind: msg.Login, Seq: 2})
	p.raw("1 reject 1 13", 1, msg.Msg{Kind: msg.Beat, Seq: 1})
	p.raw("1 accept 2", 1, msg.Msg{Kind: msg.Beat, Seq: 2})
	p.raw("1 reject 9223372036854775807 13", 1, msg.Msg{Kind: msg.New, Seq: most})
	for _, sess := range []int{0, -1, 65, math.MaxInt, math.MinInt} {
		p.raw("", sess, msg.Msg{Kind: msg.Login, Seq: 1})
	}
	p.raw("64 accept 1", 64, msg.Msg{Kind: msg.Login, Seq: 1})
	if !slices.Equal(p.v.Live(), []int{1, 64}) {
		t.Errorf("P2702: %v", p.v.Live())
	}
}

// TestKinds (P2702): a kind that none sends is refused in its turn.
func TestKinds(t *testing.T) {
	p := begun(t, conf(), 1)
	for kind := -2; kind < 300; kind++ {
		if kind >= msg.Login && kind <= msg.Day {
			continue
		}
		p.do(fmt.Sprintf("1 reject %d 5", p.in[1]+1), 1, kind, 1, 2, 3)
	}
	p.do(fmt.Sprintf("1 reject %d 5", p.in[1]+1), 1, math.MinInt)
	p.do(fmt.Sprintf("1 accept %d", p.in[1]+1), 1, msg.Beat)
}

// TestLogout (P2702): all that the session has goes, by ID, quotes too; others' stays; its turns go on.
func TestLogout(t *testing.T) {
	p := begun(t, conf(), 2, 1, 2)
	p.send("1 accept 4 1", 1, msg.Strat, []msg.Row{{1, 1, 1}, {2, 1, 1}})
	p.do("1 accept 5 1", 1, msg.New, 1, 1, 10, 3, 1)
	p.do("1 accept 6 2", 1, msg.Complex, 1, 1, 3, 2, 1)
	p.do("2 accept 2 3", 2, msg.New, 1, 2, 15, 3, 1)
	p.send("1 told 7 [0 4 5]", 1, msg.Mass, []msg.Row{{2, 5, 1, 9, 2}})
	p.do("2 accept 3 6; 1 fill 1 10 1 2 0 1; 2 fill 6 10 1 0 1 1", 2, msg.New, 1, 2, 10, 1, 2)
	p.do("1 done 1 2; 1 done 2 2; 1 done 4 1; 1 done 5 2; 1 accept 8", 1, msg.Logout)
	p.rests(1, "3 2 S 3@15 day")
	p.rests(2, "")
	p.waits(1, "")
	if !slices.Equal(p.v.Live(), []int{2}) {
		t.Errorf("P2702: %v", p.v.Live())
	}
	p.raw("1 reject 9 7", 1, msg.Msg{Kind: msg.Beat, Seq: 9})
	p.do("1 accept 9", 1, msg.Login)
	p.send("1 told 10 [0 7]", 1, msg.Mass, []msg.Row{{2, 5, 1}})
	p.do("2 done 3 3; 2 accept 4", 2, msg.Logout)
}

// TestNewRefusals (P2702, P6, W2): why an order is refused, in order; nothing is entered by it.
func TestNewRefusals(t *testing.T) {
	p := begun(t, conf(), 2, 1, 5)
	p.do("2 accept 2 1", 2, msg.New, 1, 2, 20, 5, 1)
	for _, x := range []struct {
		want api.Errno
		a    []int64
	}{
		{api.ErrName, []int64{0, 0, 0, 0, 0}},
		{api.ErrName, []int64{7, 1, 10, 5, 1}},
		{api.ErrName, []int64{-1, 1, 10, 5, 1}},
		{api.ErrName, []int64{1<<32 + 1, 1, 10, 5, 1}},
		{api.ErrName, []int64{least, 1, 10, 5, 1}},
		{api.ErrState, []int64{2, 0, 0, 0, 0}},
		{api.ErrState, []int64{2, 1, 10, 5, 1}},
		{api.ErrArg, []int64{1, 0, 10, 5, 1}},
		{api.ErrArg, []int64{1, 3, 10, 5, 1}},
		{api.ErrArg, []int64{1, 1<<32 + 1, 10, 5, 1}},
		{api.ErrArg, []int64{1, 1, 0, 5, 1}},
		{api.ErrArg, []int64{1, 1, 1000001, 5, 1}},
		{api.ErrArg, []int64{1, 1, 10, 0, 1}},
		{api.ErrArg, []int64{1, 1, 10, 1000001, 1}},
		{api.ErrArg, []int64{1, 1, 10, 101, 0}}, // ahead of risk
		{api.ErrArg, []int64{1, 1, 10, 5, 5}},
		{api.ErrArg, []int64{1, 1, 10, 5, 1<<32 + 1}},
		{api.ErrGrid, []int64{5, 1, 7, 0, 0}},
		{api.ErrGrid, []int64{5, 1, 7, 101, 1}},
		{api.ErrRange, []int64{1, 1, 10, 101, 1}},
		{api.ErrRange, []int64{1, 1, 1001, 100, 1}},
		{api.ErrRange, []int64{1, 1, 20, 101, 4}}, // ahead of the book
		{api.ErrCross, []int64{1, 1, 20, 5, 4}},
	} {
		p.do(fmt.Sprintf("1 reject %d %d", p.in[1]+1, x.want), 1, msg.New, x.a...)
	}
	p.do(fmt.Sprintf("1 accept %d 2", p.in[1]+1), 1, msg.New, 5, 1, 6, 100, 1) // the number that was next all the time
	p.do(fmt.Sprintf("1 accept %d 3", p.in[1]+1), 1, msg.New, 1, 1, 19, 100, 4)
	p.rests(1, "3 1 B 100@19 post; 1 2 S 5@20 day")
	p.feeds(1, 2, "level 2 20 5 1; level 1 19 100 1")
}

// TestLives (P2702, P2703, W3): what trades at whose price, what rests, what is cancelled; what is open then is told.
func TestLives(t *testing.T) {
	p := begun(t, conf(), 3, 1)
	p.do("1 accept 3 1", 1, msg.New, 1, 2, 12, 3, 1, 2)    // no customer
	p.do("1 accept 4 2", 1, msg.New, 1, 2, 12, 2, 4, 1)    // a customer, who stands ahead
	p.do("2 accept 2 3", 2, msg.New, 1, 2, 11, 4, 1, 1<<8) // no customer
	p.rests(1, "3 2 S 4@11 day; 2 1 S 2@12 post c; 1 1 S 3@12 day")
	p.do("3 accept 2 4; 3 done 4 10", 3, msg.New, 1, 1, 12, 10, 3)
	p.do("3 accept 3 5; 3 done 5 7", 3, msg.New, 1, 1, 10, 7, 2)
	p.do("3 accept 4 6; 2 fill 3 11 4 0 0 1; 3 fill 6 11 4 1 1 1; 1 fill 2 12 1 1 0 1; 3 fill 6 12 1 0 1 1", 3, msg.New, 1, 1, 12, 5, 3)
	p.do("3 accept 5 7; 1 fill 2 12 1 0 0 1; 3 fill 7 12 1 6 1 1; 1 fill 1 12 3 0 0 1; 3 fill 7 12 3 3 1 1; 3 done 7 3", 3, msg.New, 1, 1, 90, 7, 2)
	p.do("3 accept 6 8", 3, msg.New, 1, 1, 9, 5, 4)
	p.do("3 accept 7 9; 3 fill 8 9 5 0 0 1; 3 fill 9 9 5 2 1 1", 3, msg.New, 1, 2, 8, 7, 1) // one's own trades, too
	p.rests(1, "9 3 S 2@8 day")
	p.became(4, 10, 0, 10, 0)
	p.became(7, 7, 4, 3, 0)
	p.became(9, 7, 5, 0, 2)
	p.feeds(1, 2, "level 2 12 3 1; level 2 12 5 2; level 2 11 4 1; trade 11 4; trade 12 1; level 2 11; level 2 12 4 2; trade 12 1; trade 12 3; level 2 12; level 1 9 5 1; trade 9 5; level 1 9; level 2 8 2 1")
	if e, _ := p.v.Entry(9); e.Owner != 3 || e.Series != 1 || e.Side != 2 {
		t.Errorf("P2705: %+v", e)
	}
	if x := p.v.View(1); x.Last != 9 || x.LastN != 5 || x.Phase != dir.Open || x.Seq != 15 || !slices.Equal(x.Asks, []ladder.Level{{Price: 8, Qty: 2, N: 1}}) || len(x.Bids) != 0 {
		t.Errorf("P2705: %+v", x)
	}
	if bought, sold := p.v.Volume(1); bought != 14 || sold != 14 {
		t.Errorf("P2705: %d, %d", bought, sold)
	}
}

// TestRisk (P2702): what was filled, reduced or cancelled is open no more, at the price by which it was counted.
func TestRisk(t *testing.T) {
	c := conf()
	c.Limits = risk.Limits{Qty: 10, Notional: 100, Orders: 3}
	p := begun(t, c, 2, 1, 2)
	p.do("2 accept 2 1", 2, msg.New, 1, 2, 2, 10, 1)
	p.do("1 accept 4 2; 2 fill 1 2 4 6 0 1; 1 fill 2 2 4 0 1 1", 1, msg.New, 1, 1, 20, 4, 1) // 80 would be open
	p.do("1 accept 5 3; 2 fill 1 2 5 1 0 1; 1 fill 3 2 5 0 1 1", 1, msg.New, 1, 1, 20, 5, 2)
	p.do("1 accept 6 4; 2 fill 1 2 1 0 0 1; 1 fill 4 2 1 4 1 1", 1, msg.New, 1, 1, 20, 5, 1) // 80 are
	p.do("1 reject 7 9", 1, msg.New, 2, 1, 3, 7, 1)
	p.do("1 accept 8 5", 1, msg.New, 2, 1, 2, 10, 1)
	p.do("1 reject 9 9", 1, msg.New, 2, 1, 1, 1, 1)
	p.do("1 accept 10 4", 1, msg.Reduce, 4, 1)
	p.do("1 reject 11 9", 1, msg.New, 2, 1, 3, 7, 1)
	p.do("1 accept 12 6", 1, msg.New, 2, 1, 4, 5, 1)
	p.do("1 reject 13 9", 1, msg.New, 2, 1, 1, 1, 2) // what is not to rest is asked, too
	p.do("1 accept 14; 1 done 5 10", 1, msg.Cancel, 5)
	p.do("1 accept 15 7", 1, msg.New, 2, 1, 1, 1, 1)
	p.do("1 reject 16 8", 1, msg.New, 2, 1, 1, 1, 1)
	p.do("2 accept 3 8; 1 fill 4 20 3 0 0 1; 2 fill 8 20 3 0 1 1", 2, msg.New, 1, 2, 20, 3, 2)
	p.do("1 accept 17 9", 1, msg.New, 2, 1, 1, 1, 1)
	for i := range 5 { // who filled all, and who had all cancelled, has nothing open
		p.do(fmt.Sprintf("2 accept %d %d; 2 done %d 10", i+4, i+10, i+10), 2, msg.New, 1, 1, 10, 10, 2)
	}
	p.do("2 accept 9 15", 2, msg.New, 1, 1, 10, 10, 1)
}

// TestCancel (P2702): whose, and of which kind, an order must be, with something open.
func TestCancel(t *testing.T) {
	p := begun(t, conf(), 2, 1, 2)
	p.send("1 accept 4 1", 1, msg.Strat, []msg.Row{{1, 1, 1}, {2, 1, 1}})
	p.do("1 accept 5 1", 1, msg.New, 1, 1, 10, 3, 1)
	p.send("1 told 6 [0 2 3]", 1, msg.Mass, []msg.Row{{1, 9, 1, 20, 2}})
	p.do("1 accept 7 4", 1, msg.Complex, 1, 2, 30, 2, 1)
	for _, id := range []int64{0, -1, 5, most, least} {
		p.do(fmt.Sprintf("1 reject %d 5", p.in[1]+1), 1, msg.Cancel, id)
		p.do(fmt.Sprintf("1 reject %d 5", p.in[1]+1), 1, msg.Drop, id)
	}
	for id := range int64(4) {
		p.do(fmt.Sprintf("2 reject %d 5", p.in[2]+1), 2, msg.Cancel, id+1)
		p.do(fmt.Sprintf("2 reject %d 5", p.in[2]+1), 2, msg.Drop, id+1)
	}
	p.do("1 reject 18 5", 1, msg.Cancel, 4)
	for i, id := range []int64{1, 2, 3} {
		p.do(fmt.Sprintf("1 reject %d 5", i+19), 1, msg.Drop, id)
	}
	p.do("2 accept 10 5; 1 fill 1 10 1 2 0 1; 2 fill 5 10 1 0 1 1", 2, msg.New, 1, 2, 10, 1, 2)
	p.do("1 accept 22", 1, msg.State, 1, 3) // what rests stays, and may be cancelled
	p.do("1 accept 23; 1 done 1 2", 1, msg.Cancel, 1)
	p.do("1 accept 24; 1 done 3 2", 1, msg.Cancel, 3)
	p.do("1 accept 25; 1 done 4 2", 1, msg.Drop, 4)
	for i, id := range []int64{1, 3, 5} {
		p.do(fmt.Sprintf("1 reject %d 5", i+26), 1, msg.Cancel, id)
	}
	p.do("1 reject 29 5", 1, msg.Drop, 4)
	p.do("1 told 30 1", 1, msg.Purge, 1) // the bid is there yet
	p.became(1, 3, 1, 2, 0)
	p.became(3, 2, 0, 2, 0)
	p.became(4, 2, 0, 2, 0)
	p.feeds(1, 4, "level 2 20 2 1; trade 10 1; level 1 10 2 1; phase 3; level 1 10; level 2 20; level 1 9")
}

// TestReduce (P2702): by how much an order may be reduced, and that its place stays.
func TestReduce(t *testing.T) {
	p := begun(t, conf(), 2, 1)
	p.do("1 accept 3 1", 1, msg.New, 1, 1, 10, 5, 1)
	p.do("2 accept 2 2", 2, msg.New, 1, 1, 10, 5, 1)
	p.send("1 told 4 [0 3]", 1, msg.Mass, []msg.Row{{1, 9, 4}})
	p.do("2 reject 3 5", 2, msg.Reduce, 1, 1)
	p.do("1 reject 5 5", 1, msg.Reduce, 3, 1)
	p.do("1 reject 6 5", 1, msg.Reduce, 4, 0)
	for _, less := range []int64{0, -1, 5, 6, most, least} {
		p.do(fmt.Sprintf("1 reject %d 1", p.in[1]+1), 1, msg.Reduce, 1, less)
	}
	p.do("1 accept 13 1", 1, msg.Reduce, 1, 4)
	p.do("1 reject 14 1", 1, msg.Reduce, 1, 1)
	p.rests(1, "1 1 B 1@10 day; 2 2 B 5@10 day; 3 1 B 4@9 post")
	p.became(1, 5, 0, 4, 1)
	p.feeds(1, 4, "level 1 9 4 1; level 1 10 6 2")
	p.do("1 accept 15; 1 done 1 1", 1, msg.Cancel, 1)
	p.do("1 reject 16 5", 1, msg.Reduce, 1, 1)
}

// TestReplace (P2702): what is kept of the old order, what refuses the new one, and that nothing is done then.
func TestReplace(t *testing.T) {
	c := conf()
	c.Limits = risk.Limits{Qty: 10, Notional: 100, Orders: 2}
	p := begun(t, c, 2, 1, 2, 5)
	p.send("1 accept 5 1", 1, msg.Strat, []msg.Row{{1, 1, 1}, {2, 1, 1}})
	p.do("1 accept 6 1", 1, msg.New, 1, 1, 10, 9, 4, 1)
	p.send("1 told 7 [0 2]", 1, msg.Mass, []msg.Row{{1, 5, 2}})
	p.do("1 reject 8 5", 1, msg.Replace, 2, 5, 2)
	p.do("2 reject 2 5", 2, msg.Replace, 1, 10, 9)
	for _, x := range []struct {
		price, qty int64
		want       api.Errno
	}{{0, 9, api.ErrArg}, {1000001, 9, api.ErrArg}, {10, 0, api.ErrArg}, {10, 1000001, api.ErrArg}, {1, 11, api.ErrRange}, {91, 1, api.ErrRange}, {10, 10, api.ErrRange}} {
		p.do(fmt.Sprintf("1 reject %d %d", p.in[1]+1, x.want), 1, msg.Replace, 1, x.price, x.qty)
	}
	p.rests(1, "1 1 B 9@10 post c; 2 1 B 2@5 post")
	p.do("1 accept 16 3; 1 done 1 9", 1, msg.Replace, 1, 90, 1) // though two are open, and 100 would be
	p.rests(1, "3 1 B 1@90 day c; 2 1 B 2@5 post")
	p.do("1 reject 17 9", 1, msg.New, 1, 1, 1, 1, 1)
	p.do("1 accept 18 4; 1 done 3 1", 1, msg.Replace, 3, 10, 9)
	p.do("1 reject 19 5", 1, msg.Replace, 3, 10, 9)
	p.do("1 accept 20", 1, msg.State, 1, 3)
	p.do("1 reject 21 7", 1, msg.Replace, 4, 0, 0)
	p.do("1 accept 22", 1, msg.State, 1, 2)
	p.do("2 accept 3 5", 2, msg.New, 1, 2, 12, 4, 1)
	p.do("2 accept 4 6; 1 fill 4 10 2 7 0 1; 2 fill 6 10 2 0 1 1", 2, msg.New, 1, 2, 10, 2, 2)
	p.do("1 accept 23 7; 1 done 4 7; 2 fill 5 12 4 0 0 1; 1 fill 7 12 4 1 1 1", 1, msg.Replace, 4, 13, 5)
	p.rests(1, "7 1 B 1@13 day c; 2 1 B 2@5 post")
	p.became(4, 9, 2, 7, 0)
	p.do("1 told 24 1", 1, msg.Purge, 0)
	p.do("1 accept 25 8", 1, msg.Complex, 1, 1, 3, 2, 1)
	p.do("1 reject 26 5", 1, msg.Replace, 8, 3, 2)
	p.do("2 accept 5 9", 2, msg.New, 5, 2, 11, 1, 1)
	p.do("2 reject 6 10", 2, msg.Replace, 9, 12, 99) // on the grid of its series, ahead of risk
	p.do("2 accept 7 10; 2 done 9 1", 2, msg.Replace, 9, 16, 1)
	if e, _ := p.v.Entry(10); e.Series != 5 || e.Side != api.Sell {
		t.Errorf("P2702: %+v", e)
	}
}

// TestFullBook (P2702, limits): a book of 1024 orders takes what trades, what replaces, what never rests, and no more.
func TestFullBook(t *testing.T) {
	c := wide()
	c.Limits.Qty = 100
	p := begun(t, c, 2, 1)
	for i := range int64(api.MaxOrders - 2) {
		p.do(fmt.Sprintf("1 accept %d %d", i+3, i+1), 1, msg.New, 1, 1, 10, 2, 1)
	}
	p.send("2 told 2 [0 1023 1024]", 2, msg.Mass, []msg.Row{{1, 9, 1, 20, 1}})
	p.do("2 reject 3 8", 2, msg.New, 1, 1, 5, 1, 1)
	p.do("2 reject 4 8", 2, msg.New, 1, 1, 5, 1, 4)
	p.do("2 accept 5 1025; 2 done 1025 1", 2, msg.New, 1, 1, 5, 1, 2)
	p.do("2 accept 6 1026; 2 done 1026 1", 2, msg.New, 1, 1, 5, 1, 3)
	p.send("2 told 7 [0 1027 1028]", 2, msg.Mass, []msg.Row{{1, 8, 1, 21, 1}})
	p.send("1 told 1025 [8] [8] [] [9]", 1, msg.Mass, []msg.Row{{1, 8, 1, 22, 1}, {1, 8, 1}, {1}, {1, 8, 101}}) // risk ahead of the book
	p.do("1 accept 1026 1029; 1 done 1 2", 1, msg.Replace, 1, 10, 3)
	p.do("1 accept 1027; 1 done 2 2", 1, msg.Cancel, 2)
	p.send("1 told 1028 [8] [0 0 1030]", 1, msg.Mass, []msg.Row{{1, 8, 1, 22, 1}, {1, 0, 0, 22, 1}})
	p.do("2 accept 8 1031; 1 fill 3 10 2 0 0 1; 2 fill 1031 10 2 0 1 1", 2, msg.New, 1, 2, 10, 2, 1)
	p.do("2 accept 9 1032; 1 fill 4 10 2 0 0 1; 2 fill 1032 10 2 1 1 1; 1 fill 5 10 1 1 0 1; 2 fill 1032 10 1 0 1 1", 2, msg.New, 1, 2, 10, 3, 1)
	if n := p.v.Book(1).Len(); n != 1022 {
		t.Errorf("P2702: %d", n)
	}
}

// TestMassOutcomes (P2702, P6): row by row, what refuses a quote, in order; what is refused leaves the old one.
func TestMassOutcomes(t *testing.T) {
	p := begun(t, conf(), 2, 1, 5)
	p.do("2 accept 2 1", 2, msg.New, 1, 2, 20, 5, 1)
	p.do("2 accept 3 2", 2, msg.New, 1, 1, 5, 5, 1)
	p.do("1 accept 4 3", 1, msg.New, 1, 2, 19, 5, 1)
	p.send("1 told 5 [0 4 5]", 1, msg.Mass, []msg.Row{{1, 10, 2, 12, 3}})
	for _, x := range []struct {
		want api.Errno
		row  msg.Row
	}{
		{api.ErrName, msg.Row{0, -1, -1, -1, -1}},
		{api.ErrName, msg.Row{7, 10, 1, 12, 1}},
		{api.ErrName, msg.Row{-1, 10, 1, 12, 1}},
		{api.ErrName, msg.Row{1<<32 + 1, 10, 1, 12, 1}},
		{api.ErrName, msg.Row{least, most, least, most, least}},
		{api.ErrState, msg.Row{2, -1, -1, -1, -1}},
		{api.ErrState, msg.Row{2, 10, 1, 12, 1}},
		{api.ErrArg, msg.Row{1, 0, 1, 12, 1}},
		{api.ErrArg, msg.Row{1, 10, -1, 12, 1}},
		{api.ErrArg, msg.Row{1, 10, 1000001, 12, 1}},
		{api.ErrArg, msg.Row{1, 10, 1, 1000001, 1}},
		{api.ErrArg, msg.Row{1, 10, 1, 12, -1}},
		{api.ErrArg, msg.Row{1, 13, 101, 12, 1000001}},
		{api.ErrGrid, msg.Row{5, 7, 101, 6, 1}},
		{api.ErrGrid, msg.Row{5, 6, 1, 12, 1}},
		{api.ErrCross, msg.Row{1, 12, 1, 12, 1}},
		{api.ErrCross, msg.Row{1, 13, 1, 12, 1}},
		{api.ErrCross, msg.Row{1, 20, 101, 30, 1}}, // ahead of risk
		{api.ErrCross, msg.Row{1, 19, 1, 30, 1}},   // with the maker's own, which is no quote
		{api.ErrCross, msg.Row{1, 0, 0, 5, 1}},
		{api.ErrCross, msg.Row{1, 1, 101, 5, 1}},
		{api.ErrRange, msg.Row{1, 10, 101, 12, 1}},
		{api.ErrRange, msg.Row{1, 10, 1, 12, 101}},
	} {
		p.send(fmt.Sprintf("1 told %d [%d]", p.in[1]+1, x.want), 1, msg.Mass, []msg.Row{x.row})
	}
	p.rests(1, "4 1 B 2@10 post; 2 2 B 5@5 day; 5 1 S 3@12 post; 3 1 S 5@19 day; 1 2 S 5@20 day")
	n := p.in[1]
	p.send(fmt.Sprintf("1 told %d [0 6 7] [10] [0 8 9] [0 10] [5] [0 0 11]", n+1), 1, msg.Mass, []msg.Row{{1, 12, 1, 13, 1}, {5, 7, 1, 11, 1}, {1, 14, 2, 15, 3}, {1, 18, 4, 1, 0}, {99}, {5, 0, 0, 11, 1}})
	p.rests(1, "10 1 B 4@18 post; 2 2 B 5@5 day; 3 1 S 5@19 day; 1 2 S 5@20 day")
	p.rests(5, "11 1 S 1@11 post")
	for id, want := range map[int64][]int64{4: {2, 0, 2, 0}, 5: {3, 0, 3, 0}, 6: {1, 0, 1, 0}, 9: {3, 0, 3, 0}, 10: {4, 0, 0, 4}} {
		p.became(id, want...)
	}
	p.send(fmt.Sprintf("1 told %d [] []", n+2), 1, msg.Mass, []msg.Row{{1}, {5, 0, 0, -7, 0}})
	p.rests(5, "")
	p.feeds(1, 4, "level 2 19 5 1; level 1 10 2 1; level 2 12 3 1; level 1 18 4 1; level 1 10; level 2 12; level 1 18")
}

// TestMassRisk (P2702): risk is asked of each side, bid first, with the old ones closed; where it refuses it counts as it did.
func TestMassRisk(t *testing.T) {
	c := conf()
	c.Limits = risk.Limits{Qty: 10, Notional: 100, Orders: 3}
	p := begun(t, c, 2, 1, 2)
	p.send("1 told 4 [9] [0 1 2] [0 3 4] [9] [9]", 1, msg.Mass, []msg.Row{{1, 10, 5, 11, 5}, {1, 10, 5, 11, 4}, {1, 10, 4, 11, 5}, {1, 10, 4, 12, 6}, {2, 6, 1, 7, 1}})
	p.send("1 told 5 [0 5]", 1, msg.Mass, []msg.Row{{2, 5, 1}})
	p.send("1 told 6 [9] [8] [9] [0 6 7]", 1, msg.Mass, []msg.Row{{2, 6, 1}, {2, 1, 1, 2, 1}, {2, 1, 10, 20, 1}, {1, 10, 4, 11, 5}})
	p.do("1 reject 7 9", 1, msg.New, 1, 1, 1, 1, 1)
	p.do("1 told 8 2", 1, msg.Purge, 1)
	p.do("1 accept 9 8", 1, msg.New, 1, 1, 9, 10, 1)
	p.send("1 told 10 [9] [0 9] [] [0 10 11] [8]", 1, msg.Mass, []msg.Row{{1, 6, 1}, {1, 1, 1}, {1}, {2, 1, 1, 2, 1}, {1, 1, 1}})
	p.rests(1, "8 1 B 10@9 day")
}

// TestPurge (P2702): quotes of one series or of all, no others, and without a word of each.
func TestPurge(t *testing.T) {
	p := begun(t, conf(), 2, 1, 2, 4)
	p.do("1 accept 5 1", 1, msg.New, 1, 1, 8, 2, 1)
	p.send("1 told 6 [0 2 3] [0 4] [0 0 5]", 1, msg.Mass, []msg.Row{{1, 9, 1, 10, 1}, {2, 9, 1}, {4, 0, 0, 10, 1}})
	p.send("2 told 2 [0 6]", 2, msg.Mass, []msg.Row{{1, 9, 1}})
	for _, id := range []int64{3, 5, 7, -1, most, least, 1<<32 + 1} {
		p.do(fmt.Sprintf("1 told %d", p.in[1]+1), 1, msg.Purge, id)
	}
	p.do("1 told 14 2", 1, msg.Purge, 1)
	p.do("1 told 15", 1, msg.Purge, 1)
	p.rests(1, "6 2 B 1@9 post; 1 1 B 2@8 day")
	p.do("1 accept 16", 1, msg.State, 4, 1)
	p.do("1 told 17 2", 1, msg.Purge, 0)
	p.do("1 told 18", 1, msg.Purge, 0)
	p.rests(2, "")
	p.rests(4, "")
	p.became(3, 1, 0, 1, 0)
	p.do("2 told 3 1", 2, msg.Purge, 0)
	p.rests(1, "1 1 B 2@8 day")
	p.feeds(1, 3, "level 1 9 1 1; level 2 10 1 1; level 1 9 2 2; level 1 9 1 1; level 2 10; level 1 9")
}

// TestKillWindow (P2703, T3): how many fills of quotes in how long put a maker off, what goes then, and till when.
func TestKillWindow(t *testing.T) {
	c := conf()
	c.Timeout = 100
	p := begun(t, c, 2, 1, 2)
	p.do("1 accept 4 1", 1, msg.New, 1, 2, 10, 9, 1)
	p.send("1 told 5 [0 2 3] [0 0 4]", 1, msg.Mass, []msg.Row{{1, 9, 4, 11, 5}, {2, 0, 0, 20, 3}})
	p.do("2 accept 2 5; 1 fill 1 10 9 0 0 1; 2 fill 5 10 9 1 1 1; 1 fill 3 11 1 4 0 1; 2 fill 5 11 1 0 1 1", 2, msg.New, 1, 1, 11, 10, 1)
	p.ticks(5)
	p.do("2 accept 3 6; 1 fill 3 11 1 3 0 1; 2 fill 6 11 1 0 1 1", 2, msg.New, 1, 1, 11, 1, 1) // the first one is past
	p.ticks(4)
	p.do("2 accept 4 7; 1 fill 4 20 3 0 0 2; 2 fill 7 20 3 1 1 2; 1 told 2 2", 2, msg.New, 2, 1, 20, 4, 1) // the third one, in another series
	p.rests(1, "")
	p.became(2, 4, 0, 4, 0)
	p.became(3, 5, 2, 3, 0)
	p.send("1 reject 6 12", 1, msg.Mass, []msg.Row{{1, 9, 4, 11, 5}})
	p.send("1 reject 7 12", 1, msg.Mass, nil)
	p.do("1 told 8", 1, msg.Purge, 0)
	p.do("1 accept 9 8", 1, msg.New, 1, 2, 10, 9, 1) // who is off quotes no more, but may do all else
	p.ticks(50)
	p.send("1 reject 10 12", 1, msg.Mass, []msg.Row{{1, 9, 4, 11, 5}})
	p.do("1 done 8 9; 1 accept 11", 1, msg.Logout)
	p.do("1 accept 12", 1, msg.Login)
	p.send("1 reject 13 12", 1, msg.Mass, []msg.Row{{1, 9, 4, 11, 5}})
	p.do("2 reject 5 7", 2, msg.Enable)
	p.do("1 accept 14", 1, msg.Enable)
	p.do("1 reject 15 7", 1, msg.Enable)
	p.send("1 told 16 [0 9 10]", 1, msg.Mass, []msg.Row{{1, 9, 4, 11, 5}})
	p.do("2 accept 6 11; 1 fill 9 9 4 0 0 1; 2 fill 11 9 4 0 1 1", 2, msg.New, 1, 2, 9, 4, 1)
	p.do("2 accept 7 12; 1 fill 10 11 5 0 0 1; 2 fill 12 11 5 0 1 1; 1 told 2", 2, msg.New, 1, 1, 11, 5, 1) // nothing is left to go
	p.do("1 accept 17", 1, msg.Enable)
	p.send("1 told 18 [0 13 14]", 1, msg.Mass, []msg.Row{{1, 9, 4, 11, 5}})
}

// TestKillOrder (P2703): makers go off Fill by Fill, and are told behind the Fills and the Done, in that order.
func TestKillOrder(t *testing.T) {
	c := conf()
	c.Fills = 1
	p := begun(t, c, 4, 1, 2)
	p.send("1 told 4 [0 1 2] [0 3]", 1, msg.Mass, []msg.Row{{1, 5, 1, 11, 1}, {2, 5, 1}})
	p.send("2 told 2 [0 4 5]", 2, msg.Mass, []msg.Row{{1, 6, 2, 10, 2}})
	p.send("3 told 2 [0 6 7]", 3, msg.Mass, []msg.Row{{1, 7, 2, 12, 2}})
	p.do("4 accept 2 8; 2 fill 5 10 2 0 0 1; 4 fill 8 10 2 2 1 1; 1 fill 2 11 1 0 0 1; 4 fill 8 11 1 1 1 1; 4 done 8 1; 2 told 2 1; 1 told 2 2", 4, msg.New, 1, 1, 11, 4, 2)
	p.rests(1, "6 3 B 2@7 post; 7 3 S 2@12 post")
	p.rests(2, "")
	p.do("4 accept 3 9", 4, msg.New, 1, 1, 8, 2, 1)
	p.do("4 accept 4 10; 4 done 9 2; 3 fill 7 12 2 0 0 1; 4 fill 10 12 2 1 1 1; 3 told 2 1", 4, msg.Replace, 9, 12, 3)
	p.rests(1, "10 4 B 1@12 day")
}

// TestKillSteps (P2703, T3): a maker who goes off by a step of a strategy is told behind all of it, and is not there for the next one.
func TestKillSteps(t *testing.T) {
	p := begun(t, conf(), 3, 1, 2, 3)
	p.send("1 accept 5 1", 1, msg.Strat, []msg.Row{{1, 1, 1}, {2, -1, 2}})
	p.send("1 told 6 [0 1 2] [0 3 4] [0 5]", 1, msg.Mass, []msg.Row{{1, 10, 1, 11, 1}, {2, 4, 3, 6, 9}, {3, 1, 1}})
	p.do("2 accept 2 6", 2, msg.New, 1, 2, 12, 2, 1)
	p.do("2 accept 3 7", 2, msg.New, 2, 1, 4, 1, 1)
	p.do("2 accept 4 8", 2, msg.New, 2, 1, 3, 2, 1)
	p.do("3 accept 2 9; 1 fill 2 11 1 0 0 1; 3 leg 9 1 11 1 1 3; 1 fill 3 4 2 1 0 2; 3 leg 9 2 4 2 2 3; 3 fill 9 3 1 3 1; 1 told 2 4; 3 done 9 3", 3, msg.Complex, 1, 1, 5, 4, 2)
	p.rests(1, "6 2 S 2@12 day")
	p.rests(2, "7 2 B 1@4 day; 8 2 B 2@3 day")
	p.rests(3, "")
	p.do("2 accept 5; 2 done 7 1", 2, msg.Cancel, 7)
	p.do("3 accept 3 10; 2 fill 6 12 1 1 0 1; 3 leg 10 1 12 1 1 6; 2 fill 8 3 2 0 0 2; 3 leg 10 2 3 2 2 6; 3 fill 10 6 1 1 1", 3, msg.Complex, 1, 1, 7, 2, 1)
	p.waits(1, "{10 3 1 7 1}")
	p.do("1 accept 7", 1, msg.Enable)
	p.send("1 told 8 [0 11 12]; 2 fill 6 12 1 0 0 1; 3 leg 10 1 12 1 1 4; 1 fill 11 4 2 1 0 2; 3 leg 10 2 4 2 2 4; 3 fill 10 4 1 0 1", 1, msg.Mass, []msg.Row{{2, 4, 3, 9, 1}})
	p.feeds(2, 2, "level 1 4 3 1; level 2 6 9 1; level 1 4 4 2; level 1 3 2 1; trade 4 2; level 1 4 1 1; level 2 6; level 1 4; trade 3 2; level 1 3; trade 4 2; level 1 4 1 1; level 2 9 1 1")
}

// TestKillTwo (P2703): of one step several go off, by legs; what is told of the step is told ahead.
func TestKillTwo(t *testing.T) {
	c := conf()
	c.Fills = 1
	p := begun(t, c, 3, 1, 2)
	p.send("1 accept 4 1", 1, msg.Strat, []msg.Row{{1, 1, 1}, {2, 1, 1}})
	p.send("2 told 2 [0 1 2]", 2, msg.Mass, []msg.Row{{2, 5, 1, 7, 1}})
	p.send("1 told 5 [0 3 4] [0 5 6]", 1, msg.Mass, []msg.Row{{2, 4, 1, 8, 1}, {1, 9, 1, 10, 1}})
	p.do("3 accept 2 7; 1 fill 6 10 1 0 0 1; 3 leg 7 1 10 1 1 17; 2 fill 2 7 1 0 0 2; 3 leg 7 2 7 1 1 17; 3 fill 7 17 1 1 1; 1 told 2 3; 2 told 2 1; 3 done 7 1", 3, msg.Complex, 1, 1, 99, 2, 2)
	p.rests(1, "")
	p.rests(2, "")
}

// TestStrat (P2702, P6): what refuses a strategy, in order; the number of each, and of one that is there.
func TestStrat(t *testing.T) {
	p := begun(t, conf(), 2)
	for _, x := range []struct {
		want api.Errno
		l    []msg.Row
	}{
		{api.ErrName, []msg.Row{{1, 9, 9}, {7, 1, 1}}},
		{api.ErrName, []msg.Row{{0, 1, 1}, {5, 1, 1}}},
		{api.ErrName, []msg.Row{{1<<32 + 1, 1, 1}, {2, 1, 1}}},
		{api.ErrArg, []msg.Row{{1, 1, 1}, {5, 1, 1}}},
		{api.ErrArg, []msg.Row{{1, 1, 1}, {1, 1, 1}, {5, 1, 1}}}, // ahead of what is twice
		{api.ErrArg, nil},
		{api.ErrArg, []msg.Row{{1, 1, 1}}},
		{api.ErrArg, []msg.Row{{1, 1, 1}, {2, 1, 5}}},
		{api.ErrArg, []msg.Row{{1, 1, 0}, {2, 1, 1}}},
		{api.ErrArg, []msg.Row{{1, 1, 1}, {2, 2, 1}}},
		{api.ErrArg, []msg.Row{{1, 1, 1}, {2, 1<<32 + 1, 1}}},
		{api.ErrArg, []msg.Row{{1, 1, 1}, {2, 1, 1}, {3, 1, 1}, {4, 1, 1}, {1, 1, 1}}},
		{api.ErrTwice, []msg.Row{{1, 1, 1}, {2, 1, 1}, {1, 1, 1}}},
	} {
		p.send(fmt.Sprintf("1 reject %d %d", p.in[1]+1, x.want), 1, msg.Strat, x.l)
	}
	if p.v.Strats() != 0 {
		t.Errorf("P2705: %d strategies", p.v.Strats())
	}
	p.send("1 accept 15 1 1", 1, msg.Strat, []msg.Row{{2, 1, 4, 7, 7}, {1, -1, 2}}) // the last two numbers say nothing
	p.send("1 accept 16 1", 1, msg.Strat, []msg.Row{{1, 1, 1}, {2, -1, 2}})
	p.send("2 accept 2 2", 2, msg.Strat, []msg.Row{{6, -1, 1}, {5, 1, 1}})
	if legs.Text(p.v.Legs(1)) != "+1*1 -2*2" || legs.Text(p.v.Legs(2)) != "+1*5 -1*6" || p.v.Strats() != 2 || p.v.Legs(3) != nil {
		t.Errorf("P2705: %v, %v", p.v.Legs(1), p.v.Legs(2))
	}
	n := int64(2)
	for _, x := range [][2]int64{{1, 2}, {1, 3}, {1, 4}, {2, 3}, {2, 4}, {3, 4}} {
		for _, y := range [][2]int64{{1, 1}, {1, 3}, {1, 4}, {2, 1}, {2, 3}, {3, 1}} {
			if n++; n <= api.MaxStrats {
				p.send(fmt.Sprintf("2 accept %d %d", p.in[2]+1, n), 2, msg.Strat, []msg.Row{{x[0], 1, y[0]}, {x[1], 1, y[1]}})
			} else {
				p.send(fmt.Sprintf("2 reject %d 8", p.in[2]+1), 2, msg.Strat, []msg.Row{{x[0], 1, y[0]}, {x[1], 1, y[1]}})
			}
		}
	}
	p.send("1 accept 17 1 1", 1, msg.Strat, []msg.Row{{1, -1, 1}, {2, 1, 2}})
	if p.v.Strats() != api.MaxStrats || p.v.Legs(33) != nil || len(p.v.Legs(32)) != 2 {
		t.Errorf("P2705: %d strategies", p.v.Strats())
	}
	if e, ok := p.v.Entry(1); ok {
		t.Errorf("P2701: an order %+v", e)
	}
}

// TestComplexRefusals (P2702, P6): what refuses an order for a strategy, in order.
func TestComplexRefusals(t *testing.T) {
	c := conf()
	c.Limits = risk.Limits{Qty: 100, Notional: 20, Orders: 2}
	p := begun(t, c, 2, 1, 2)
	p.send("1 accept 4 1", 1, msg.Strat, []msg.Row{{1, 1, 1}, {2, 1, 1}})
	p.send("1 accept 5 2", 1, msg.Strat, []msg.Row{{1, 1, 1}, {3, 1, 1}})
	p.do("1 accept 6", 1, msg.State, 3, 3)
	for _, x := range []struct {
		want api.Errno
		a    []int64
	}{
		{api.ErrName, []int64{0, 0, most, 0, 0}},
		{api.ErrName, []int64{3, 1, 5, 1, 1}},
		{api.ErrName, []int64{-1, 1, 5, 1, 1}},
		{api.ErrName, []int64{1<<32 + 1, 1, 5, 1, 1}},
		{api.ErrState, []int64{2, 0, most, 0, 0}},
		{api.ErrState, []int64{2, 1, 5, 1, 1}},
		{api.ErrArg, []int64{1, 0, 5, 1, 1}},
		{api.ErrArg, []int64{1, 3, 5, 1, 1}},
		{api.ErrArg, []int64{1, 1, 5, 0, 1}},
		{api.ErrArg, []int64{1, 1, 5, -1, 1}},
		{api.ErrArg, []int64{1, 1, 5, 1000001, 1}},
		{api.ErrArg, []int64{1, 1, 16000001, 1, 1}},
		{api.ErrArg, []int64{1, 1, -16000001, 1, 2}},
		{api.ErrArg, []int64{1, 1, least, 101, 2}},
		{api.ErrArg, []int64{1, 1, 5, 1, 0}},
		{api.ErrArg, []int64{1, 1, 5, 101, 3}},
		{api.ErrArg, []int64{1, 1, 5, 1, 4}},
		{api.ErrArg, []int64{1, 1, 5, 1, 5}},
		{api.ErrArg, []int64{1, 1, 5, 1, 1<<32 + 1}},
		{api.ErrRange, []int64{1, 1, 5, 101, 1}},
		{api.ErrRange, []int64{1, 1, 5, 101, 2}},
	} {
		p.do(fmt.Sprintf("1 reject %d %d", p.in[1]+1, x.want), 1, msg.Complex, x.a...)
	}
	n := p.in[1]
	p.do(fmt.Sprintf("1 accept %d 1", n+1), 1, msg.Complex, 1, 1, -16000000, 100, 1)
	p.do(fmt.Sprintf("1 accept %d 2", n+2), 1, msg.Complex, 1, 2, 16000000, 100, 1) // nothing of their nets counts for risk
	p.do(fmt.Sprintf("1 reject %d 8", n+3), 1, msg.Complex, 1, 1, 5, 1, 2)
	p.do(fmt.Sprintf("1 reject %d 8", n+4), 1, msg.New, 1, 1, 5, 1, 1)
	p.do(fmt.Sprintf("1 accept %d; 1 done 2 100", n+5), 1, msg.Drop, 2)
	p.do(fmt.Sprintf("1 accept %d 3; 1 done 3 7", n+6), 1, msg.Complex, 1, 1, 5, 7, 2)
	p.do(fmt.Sprintf("1 accept %d 4", n+7), 1, msg.New, 1, 1, 20, 1, 1)
	p.waits(1, "{1 1 1 -16000000 100}")
	if e, _ := p.v.Entry(1); e != (life.Entry{Entered: 100, Open: 100, Owner: 1, Side: 1}) {
		t.Errorf("P2701: %+v", e)
	}
}

// TestFullComplex (P2702): as many wait for a strategy as may, and one more; who does not wait may come all the same.
func TestFullComplex(t *testing.T) {
	p := begun(t, wide(), 2, 1, 2)
	p.send("1 accept 4 1", 1, msg.Strat, []msg.Row{{1, 1, 1}, {2, 1, 1}})
	for i := range int64(256) {
		p.do(fmt.Sprintf("1 accept %d %d", i+5, i+1), 1, msg.Complex, 1, 1+i%2, 5+i%2, 1, 1)
	}
	p.do("2 reject 2 1", 2, msg.Complex, 1, 1, 5, 0, 1)
	p.do("2 reject 3 8", 2, msg.Complex, 1, 1, 5, 1, 1)
	p.do("2 reject 4 8", 2, msg.Complex, 1, 1, 5, 1000000, 1) // ahead of risk, which would take it
	p.do("2 accept 5 257; 2 done 257 1", 2, msg.Complex, 1, 1, 5, 1, 2)
	p.do("1 accept 261; 1 done 4 1", 1, msg.Drop, 4)
	p.do("2 accept 6 258", 2, msg.Complex, 1, 2, 5, 1, 1)
	p.do("2 reject 7 8", 2, msg.Complex, 1, 2, 5, 1, 1)
	if l := p.v.Complex(1); len(l) != 256 || l[0].ID != 1 || l[127].ID != 255 || l[128].ID != 258 || l[129].ID != 2 {
		t.Errorf("P2705: %v", l)
	}
}

// market2 tells two series, 10 to 13 and 4 to 6, with orders of session 2, and the strategy of one bought, one sold.
func market2(t *testing.T, c Config, sessions int) *play {
	t.Helper()
	p := begun(t, c, sessions, 1, 2)
	p.send("1 accept 4 1", 1, msg.Strat, []msg.Row{{1, 1, 1}, {2, -1, 1}})
	p.do("2 accept 2 1", 2, msg.New, 1, 2, 13, 2, 1)
	p.do("2 accept 3 2", 2, msg.New, 1, 1, 10, 3, 1)
	p.do("2 accept 4 3", 2, msg.New, 2, 1, 4, 5, 1)
	p.do("2 accept 5 4", 2, msg.New, 2, 2, 6, 9, 1)
	return p
}

// TestCrossed (P2703, W4, T2): strategy against strategy: both are told leg by leg, who waited first; all know the legs' trades.
func TestCrossed(t *testing.T) {
	p := market2(t, conf(), 4)
	p.do("3 accept 2 5", 3, msg.Complex, 1, 2, 8, 4, 1)
	p.do("4 accept 2 6; 3 leg 5 1 13 3 2 8; 4 leg 6 1 13 3 1 8; 3 leg 5 2 5 3 1 8; 4 leg 6 2 5 3 2 8; 3 fill 5 8 3 1; 4 fill 6 8 3 0 1", 4, msg.Complex, 1, 1, 8, 3, 1)
	p.waits(1, "{5 3 2 8 1}")
	p.do("4 accept 3 7; 3 leg 5 1 13 1 2 8; 4 leg 7 1 13 1 1 8; 3 leg 5 2 5 1 1 8; 4 leg 7 2 5 1 2 8; 3 fill 5 8 1; 4 fill 7 8 1 1 1; 4 done 7 1", 4, msg.Complex, 1, 1, 8, 2, 2)
	p.waits(1, "")
	p.feeds(1, 4, "trade 13 3; trade 13 1")
	p.feeds(2, 4, "trade 5 3; trade 5 1")
	for id := 1; id <= 2; id++ {
		if bought, sold := p.v.Volume(id); bought != 4 || sold != 4 {
			t.Errorf("P2705: %d: %d, %d", id, bought, sold)
		}
	}
	p.became(5, 4, 4, 0, 0)
	p.became(6, 3, 3, 0, 0)
	p.became(7, 2, 1, 1, 0)
	if x := p.v.View(1); x.Last != 13 || x.LastN != 1 {
		t.Errorf("P2705: %+v", x)
	}
	if bought, sold := p.v.Volume(0); bought != 0 || sold != 0 { // where the ledger has what was filled of strategies
		t.Errorf("P2705: %d, %d", bought, sold)
	}
}

// TestInto (P2703, W4, T2): a strategy into the books: ahead of each Leg the Fills of the makers; who sells it takes the other sides.
func TestInto(t *testing.T) {
	p := market2(t, conf(), 4)
	p.do("4 accept 2 5", 4, msg.New, 1, 2, 13, 1, 1, 1)
	p.do("3 accept 2 6; 4 fill 5 13 1 0 0 1; 2 fill 1 13 2 0 0 1; 3 leg 6 1 13 3 1 9; 2 fill 3 4 3 2 0 2; 3 leg 6 2 4 3 2 9; 3 fill 6 9 3 1 1", 3, msg.Complex, 1, 1, 9, 4, 1)
	p.feeds(1, 5, "trade 13 1; trade 13 2; level 2 13")
	p.do("3 accept 3 7; 2 fill 2 10 3 0 0 1; 3 leg 7 1 10 3 2 4; 2 fill 4 6 3 6 0 2; 3 leg 7 2 6 3 1 4; 3 fill 7 4 3 2 1; 3 done 7 2", 3, msg.Complex, 1, 2, 4, 5, 2)
	if bought, sold := p.v.Volume(1); bought != 6 || sold != 6 {
		t.Errorf("P2705: %d, %d", bought, sold)
	}
	p.feeds(2, 4, "trade 4 3; level 1 4 2 1; trade 6 3; level 2 6 6 1")
	p.became(6, 4, 3, 0, 1)
	p.became(7, 5, 3, 2, 0)
	p.do("3 accept 4; 3 done 6 1", 3, msg.Drop, 6)
}

// TestBetter (P2702): step by step whichever net is better: who waits for the strategy at 8, then the books at 9, then who waits at 9.
func TestBetter(t *testing.T) {
	p := market2(t, conf(), 4)
	p.do("3 accept 2 5", 3, msg.Complex, 1, 2, 9, 1, 1)
	p.do("3 accept 3 6", 3, msg.Complex, 1, 2, 8, 1, 1)
	p.do("2 accept 6 7", 2, msg.New, 1, 2, 14, 2, 1)
	p.do("4 accept 2 8; 3 leg 6 1 13 1 2 8; 4 leg 8 1 13 1 1 8; 3 leg 6 2 5 1 1 8; 4 leg 8 2 5 1 2 8; 3 fill 6 8 1; 4 fill 8 8 1 4 1; "+
		"2 fill 1 13 2 0 0 1; 4 leg 8 1 13 2 1 9; 2 fill 3 4 2 3 0 2; 4 leg 8 2 4 2 2 9; 4 fill 8 9 2 2 1; "+
		"3 leg 5 1 14 1 2 9; 4 leg 8 1 14 1 1 9; 3 leg 5 2 5 1 1 9; 4 leg 8 2 5 1 2 9; 3 fill 5 9 1; 4 fill 8 9 1 1 1", 4, msg.Complex, 1, 1, 9, 5, 1)
	p.waits(1, "{8 4 1 9 1}")
}

// TestStirs (P2704): who waits for a strategy trades as soon as a call lets him, as one that came; then others do by it.
func TestStirs(t *testing.T) {
	p := market2(t, conf(), 4)
	p.send("1 accept 5 2", 1, msg.Strat, []msg.Row{{1, 1, 1}, {2, 1, 1}})
	p.do("3 accept 2 5", 3, msg.Complex, 2, 2, 16, 1, 1)
	p.do("4 accept 2 6", 4, msg.Complex, 1, 1, 7, 1, 1)
	p.do("3 accept 3 7", 3, msg.Complex, 1, 1, 8, 1, 1)
	// a new Ask of 12: who waits for strategy 1 takes it, the better one first; that makes nothing for who sells 2
	p.do("2 accept 6 8; 2 fill 8 12 1 1 0 1; 3 leg 7 1 12 1 1 8; 2 fill 3 4 1 4 0 2; 3 leg 7 2 4 1 2 8; 3 fill 7 8 1 0 1", 2, msg.New, 1, 2, 12, 2, 1)
	p.waits(1, "{6 4 1 7 1}")
	p.feeds(1, 4, "trade 12 1; level 2 12 1 1")
	// a Bid of 5 in the other series: 12 less 5
	p.do("2 accept 7 9; 2 fill 8 12 1 0 0 1; 4 leg 6 1 12 1 1 7; 2 fill 9 5 1 2 0 2; 4 leg 6 2 5 1 2 7; 4 fill 6 7 1 0 1", 2, msg.New, 2, 1, 5, 3, 1)
	// a Bid of 11 in the first one: 11 and 5
	p.do("2 accept 8 10; 2 fill 10 11 1 0 0 1; 3 leg 5 1 11 1 2 16; 2 fill 9 5 1 1 0 2; 3 leg 5 2 5 1 2 16; 3 fill 5 16 1 0 1", 2, msg.New, 1, 1, 11, 1, 1)
	p.waits(2, "")
	p.feeds(1, 6, "trade 12 1; level 2 12; trade 11 1")
}

// TestStirsAgain (P2704): strategies by number, and from the first one on again behind each trade; Buy's row ahead of Sell's.
func TestStirsAgain(t *testing.T) {
	c := wide()
	p := begun(t, c, 3, 1, 2, 3)
	p.send("1 accept 5 1", 1, msg.Strat, []msg.Row{{1, 1, 1}, {2, 1, 1}})
	p.send("1 accept 6 2", 1, msg.Strat, []msg.Row{{1, 1, 1}, {3, 1, 1}})
	p.do("2 accept 2 1", 2, msg.Complex, 2, 1, 30, 1, 1)
	p.do("2 accept 3 2", 2, msg.Complex, 1, 1, 20, 1, 1)
	p.do("2 accept 4 3", 2, msg.Complex, 1, 1, 21, 1, 1)
	p.do("3 accept 2 4", 3, msg.New, 2, 2, 10, 9, 1)
	p.do("3 accept 3 5", 3, msg.New, 3, 2, 10, 9, 1)
	p.do("3 accept 4 6; "+
		"3 fill 6 10 1 3 0 1; 2 leg 3 1 10 1 1 20; 3 fill 4 10 1 8 0 2; 2 leg 3 2 10 1 1 20; 2 fill 3 20 1 0 1; "+
		"3 fill 6 10 1 2 0 1; 2 leg 2 1 10 1 1 20; 3 fill 4 10 1 7 0 2; 2 leg 2 2 10 1 1 20; 2 fill 2 20 1 0 1; "+
		"3 fill 6 10 1 1 0 1; 2 leg 1 1 10 1 1 20; 3 fill 5 10 1 8 0 3; 2 leg 1 3 10 1 1 20; 2 fill 1 20 1 0 1", 3, msg.New, 1, 2, 10, 4, 1)
	p.feeds(1, 2, "trade 10 1; trade 10 1; trade 10 1; level 2 10 1 1")
}

// TestStirsFromFirst (P2704): what a strategy has traded may let an earlier one trade, which then comes ahead of it.
func TestStirsFromFirst(t *testing.T) {
	p := begun(t, wide(), 4, 1, 2, 3)
	p.send("1 accept 5 1", 1, msg.Strat, []msg.Row{{1, 1, 2}, {2, -1, 1}})
	p.send("1 accept 6 2", 1, msg.Strat, []msg.Row{{1, 1, 1}, {3, 1, 1}})
	p.do("2 accept 2 1", 2, msg.New, 1, 1, 10, 1, 1)
	p.do("2 accept 3 2", 2, msg.New, 1, 2, 11, 1, 1, 1) // a customer, who keeps others from 11
	p.do("2 accept 4 3", 2, msg.New, 1, 2, 12, 1, 1)
	p.do("2 accept 5 4", 2, msg.New, 2, 1, 5, 1, 1)
	p.do("2 accept 6 5", 2, msg.New, 2, 2, 6, 1, 1)
	p.do("4 accept 2 6", 4, msg.Complex, 1, 1, 17, 1, 1)
	p.do("1 accept 7 7", 1, msg.Complex, 1, 2, 17, 1, 1)
	p.do("3 accept 2 8", 3, msg.Complex, 2, 1, 30, 1, 1)
	p.do("3 accept 3 9", 3, msg.Complex, 2, 1, 29, 1, 1)
	p.do("2 accept 7 10; "+
		"2 fill 2 11 1 0 0 1; 3 leg 8 1 11 1 1 21; 2 fill 10 10 1 1 0 3; 3 leg 8 3 10 1 1 21; 3 fill 8 21 1 0 1; "+
		"1 leg 7 1 11 2 2 17; 4 leg 6 1 11 2 1 17; 1 leg 7 2 5 1 1 17; 4 leg 6 2 5 1 2 17; 1 fill 7 17 1; 4 fill 6 17 1 0 1; "+
		"2 fill 3 12 1 0 0 1; 3 leg 9 1 12 1 1 22; 2 fill 10 10 1 0 0 3; 3 leg 9 3 10 1 1 22; 3 fill 9 22 1 0 1", 2, msg.New, 3, 2, 10, 2, 1)
}

// odd3 tells two series, 10 to 11 and 5 to 6, one of each, and the strategy of three bought, two sold: it is not had in the
// books, and there are prices for 18, 20, 21 and 23 alone.
func odd3(t *testing.T) *play {
	t.Helper()
	p := begun(t, wide(), 4, 1, 2)
	p.send("1 accept 4 1", 1, msg.Strat, []msg.Row{{1, 1, 3}, {2, -1, 2}})
	p.do("2 accept 2 1", 2, msg.New, 1, 1, 10, 1, 1)
	p.do("2 accept 3 2", 2, msg.New, 1, 2, 11, 1, 1)
	p.do("2 accept 4 3", 2, msg.New, 2, 1, 5, 1, 1)
	p.do("2 accept 5 4", 2, msg.New, 2, 2, 6, 1, 1)
	return p
}

// TestStirsRested (P2704): who waits at a net that has no prices may take that of one who comes to wait.
func TestStirsRested(t *testing.T) {
	p := odd3(t)
	p.do("3 accept 2 5", 3, msg.Complex, 1, 2, 19, 2, 1)
	p.do("4 accept 2 6", 4, msg.Complex, 1, 1, 19, 1, 1)
	p.do("4 accept 3 7; 4 leg 7 1 10 3 1 20; 3 leg 5 1 10 3 2 20; 4 leg 7 2 5 2 2 20; 3 leg 5 2 5 2 1 20; 4 fill 7 20 1; 3 fill 5 20 1 1 1", 4, msg.Complex, 1, 1, 20, 1, 1)
	p.do("4 accept 4 8; 4 done 8 1", 4, msg.Complex, 1, 1, 22, 1, 2)
	p.waits(1, "{6 4 1 19 1} {5 3 2 19 1}")
}

// TestStirsBehind (P2704): one too far behind to be asked is, once another one ahead of him has gone.
func TestStirsBehind(t *testing.T) {
	p := odd3(t)
	for i := range int64(64) {
		p.do(fmt.Sprintf("3 accept %d %d", i+2, i+5), 3, msg.Complex, 1, 2, 19, 1, 1)
	}
	p.do("3 accept 66 69", 3, msg.Complex, 1, 2, 20, 1, 1)
	p.do("4 accept 2 70", 4, msg.Complex, 1, 1, 22, 1, 1)
	p.do("3 accept 67; 3 done 9 1; 3 leg 69 1 10 3 2 20; 4 leg 70 1 10 3 1 20; 3 leg 69 2 5 2 1 20; 4 leg 70 2 5 2 2 20; 3 fill 69 20 1; 4 fill 70 20 1 0 1", 3, msg.Drop, 9)
}

// TestState (P2702): which states a series may have; what rests stays and does not trade, till it is Open again.
func TestState(t *testing.T) {
	p := market2(t, conf(), 4)
	for _, x := range []struct {
		want api.Errno
		a    []int64
	}{{api.ErrName, []int64{0, 0}}, {api.ErrName, []int64{7, 2}}, {api.ErrName, []int64{1<<32 + 1, 2}}, {api.ErrName, []int64{least, 9}}, {api.ErrArg, []int64{1, 0}}, {api.ErrArg, []int64{1, 4}}, {api.ErrArg, []int64{1, -1}}, {api.ErrArg, []int64{1, 1<<32 + 2}}} {
		p.do(fmt.Sprintf("1 reject %d %d", p.in[1]+1, x.want), 1, msg.State, x.a...)
	}
	p.do("3 accept 2 5", 3, msg.Complex, 1, 1, 7, 1, 1)
	p.do("4 accept 2 6", 4, msg.New, 2, 1, 5, 1, 1) // 13 less 5
	p.do("4 accept 3", 4, msg.State, 2, 3)
	p.do("4 reject 4 7", 4, msg.New, 2, 1, 5, 1, 1)
	p.do("4 accept 5 7", 4, msg.New, 1, 2, 12, 1, 1) // 12 less 5, but one of them is Halted
	p.waits(1, "{5 3 1 7 1}")
	p.do("4 accept 6", 4, msg.State, 2, 1)
	p.do("4 accept 7", 4, msg.State, 2, 1)
	p.rests(2, "6 4 B 1@5 day; 3 2 B 5@4 day; 4 2 S 9@6 day")
	p.do("4 accept 8; 4 fill 7 12 1 0 0 1; 3 leg 5 1 12 1 1 7; 4 fill 6 5 1 0 0 2; 3 leg 5 2 5 1 2 7; 3 fill 5 7 1 0 1", 4, msg.State, 2, 2)
	p.feeds(2, 4, "level 1 5 1 1; phase 3; phase 1; phase 1; phase 2; trade 5 1; level 1 5")
	if p.v.State(2) != dir.Open || p.v.View(2).Phase != dir.Open {
		t.Error("P2702: State")
	}
}

// TestDay (P2702): what expires, in order; all that rests there goes, by ID, then what waits for strategies with it; others' stays.
func TestDay(t *testing.T) {
	p := begun(t, conf(), 3, 1, 2, 4, 6)
	p.send("1 accept 6 1", 1, msg.Strat, []msg.Row{{1, 1, 1}, {4, -1, 1}})
	p.send("1 accept 7 2", 1, msg.Strat, []msg.Row{{1, 1, 1}, {2, 1, 1}})
	p.send("1 accept 8 3", 1, msg.Strat, []msg.Row{{2, 1, 1}, {4, 1, 1}})
	p.do("2 accept 2 1", 2, msg.Complex, 2, 1, 1, 3, 1)
	p.do("3 accept 2 2", 3, msg.Complex, 1, 2, 90, 4, 1)
	p.do("2 accept 3 3", 2, msg.Complex, 3, 1, 1, 5, 1)
	p.send("1 told 9 [0 4 5] [0 6]", 1, msg.Mass, []msg.Row{{1, 9, 1, 20, 2}, {2, 9, 1}})
	p.do("2 accept 4 7", 2, msg.New, 1, 2, 19, 3, 1)
	p.do("3 accept 3 8", 3, msg.New, 1, 1, 10, 4, 1)
	p.do("3 accept 4 9", 3, msg.New, 6, 1, 11, 4, 1)
	p.do("3 accept 5 10", 3, msg.New, 4, 1, 10, 4, 1)
	for _, day := range []int64{0, -1, least, 9, 9, 3} {
		p.do(fmt.Sprintf("1 accept %d", p.in[1]+1), 1, msg.Day, day)
	}
	p.do("1 done 4 1; 1 done 5 2; 2 done 7 3; 3 done 8 4; 2 done 1 3; 3 done 2 4; 1 done 6 1; 2 done 3 5; 1 accept 16", 1, msg.Day, 10)
	for id, want := range []int{1: 4, 4, 4, 2, 4, 2} {
		if p.v.State(id) != want {
			t.Errorf("P2702: series %d: %d", id, p.v.State(id))
		}
	}
	p.feeds(1, 6, "phase 4; level 1 10; level 1 9; level 2 19; level 2 20")
	p.feeds(3, 1, "phase 4")
	p.feeds(5, 1, "phase 4")
	p.feeds(4, 1, "phase 2; level 1 10 4 1")
	p.rests(4, "10 3 B 4@10 day")
	p.do("1 reject 17 7", 1, msg.State, 1, 2)
	p.do("1 reject 18 7", 1, msg.State, 1, 1)
	p.do("1 reject 19 7", 1, msg.New, 1, 1, 10, 1, 1)
	p.send("1 told 20 [7]", 1, msg.Mass, []msg.Row{{1, 9, 1, 20, 2}})
	p.do("1 reject 21 7", 1, msg.Complex, 1, 1, 9, 1, 1)
	p.do("1 told 22", 1, msg.Purge, 0)
	p.send("1 accept 23 4", 1, msg.Strat, []msg.Row{{1, 1, 1}, {3, 1, 1}})
	p.do("3 done 10 4; 3 done 9 4; 1 accept 24", 1, msg.Day, most)
	if x := p.v.View(6); p.v.State(6) != dir.Expired || x.Phase != dir.Expired || len(x.Bids) != 0 {
		t.Errorf("P2702: %+v", x)
	}
}

// TestRefuse (P2705): who is on is told of what was no message; nobody else is.
func TestRefuse(t *testing.T) {
	p := begun(t, conf(), 2, 1)
	p.do("2 accept 2", 2, msg.Logout)
	for _, sess := range []int{0, -1, 2, 3, 64, 65, math.MaxInt, math.MinInt} {
		if got := p.told(p.v.Refuse(sess, api.ErrSum)); got != "" {
			t.Errorf("P2705: %d is told %s", sess, got)
		}
	}
	for _, e := range []api.Errno{api.ErrSum, api.ErrForm, api.OK, 99} {
		if got, want := p.told(p.v.Refuse(1, e)), strings.TrimSuffix(fmt.Sprint("1 reject 0 ", int(e)), " 0 0"); got != want {
			t.Errorf("P2705: %s; want %s", got, want)
		}
	}
	p.do("1 accept 3", 1, msg.Beat)
}

// busy tells a venue where a bit of everything is.
func busy(t *testing.T) *play {
	t.Helper()
	p := market2(t, conf(), 4)
	p.send("1 told 5 [0 5 6]", 1, msg.Mass, []msg.Row{{1, 9, 1, 20, 2}})
	p.do("3 accept 2 7", 3, msg.Complex, 1, 1, 7, 2, 1)
	p.do("3 accept 3 8", 3, msg.Complex, 1, 2, 9, 2, 1)
	return p
}

// look tells all that the faces of a venue tell of so many series.
func look(v *Venue, series int) string {
	var w strings.Builder
	fmt.Fprintln(&w, v.Now(), v.Live(), v.Strats())
	for i := range series + 2 {
		bought, sold := v.Volume(i)
		fmt.Fprintln(&w, i, v.State(i), v.Grid(i), bought, sold, v.View(i), v.Feed(i), v.Legs(i), v.Complex(i))
		if b := v.Book(i); b != nil {
			fmt.Fprintln(&w, b.Row(api.Buy), b.Row(api.Sell), b.Levels(api.Buy), b.Levels(api.Sell))
		}
	}
	for id := int64(0); id < 2 || v.next() >= id; id++ {
		e, ok := v.Entry(id)
		fmt.Fprintln(&w, id, e, ok)
	}
	return w.String()
}

// spoil changes all of a list, its spare room too.
func spoil[T any](l []T) {
	var zero T
	l = l[:cap(l)]
	for i := range l {
		l[i] = zero
	}
}

// TestAnswersAreNew (P2, P7): what is done to an answer is not seen in the venue, nor in another answer.
func TestAnswersAreNew(t *testing.T) {
	p := busy(t)
	was := look(p.v, 6)
	b := p.v.Book(1)
	b.Insert(order.Order{ID: 99, Side: api.Buy, Price: 10, Qty: 1, Life: order.Day})
	b.Remove(1)
	for id := 1; id <= 2; id++ {
		spoil(p.v.Feed(id))
		spoil(p.v.Grid(id))
		spoil(p.v.View(id).Bids)
		spoil(p.v.View(id).Asks)
		spoil(p.v.Legs(id))
		spoil(p.v.Complex(id))
	}
	spoil(p.v.Live())
	if is := look(p.v, 6); is != was {
		t.Errorf("P2: %s\nwas\n%s", is, was)
	}
	if b == p.v.Book(1) || p.v.Book(1).Len() != 4 || b.Len() != 4 {
		t.Error("P7: Book is no twin")
	}
	c := conf()
	x, _ := New(c)
	y, _ := New(c)
	x.Do(1, msg.Msg{Kind: msg.Login, Seq: 1})
	if x == y || len(y.Live()) != 0 {
		t.Error("P7: two venues are one")
	}
}

// TestOutsAreNew (P2): rows of two answers, and of an answer and what it answers, share nothing.
func TestOutsAreNew(t *testing.T) {
	p := begun(t, conf(), 1, 1)
	rows := append(make([]msg.Row, 0, 4), msg.Row{1, 9, 1, 20, 2}, msg.Row{1, 8, 1, 21, 2})
	spare := rows[:4]
	spare[2], spare[3] = msg.Row{7, 7, 7, 7, 7}, msg.Row{8, 8, 8, 8, 8}
	want := slices.Clone(spare)
	first := p.v.Do(1, msg.Msg{Kind: msg.Mass, Seq: 3, L: rows})
	if !slices.Equal(spare, want) {
		t.Errorf("P2: rows are %v; were %v", spare, want)
	}
	text := msg.Text(first[0].M)
	second := p.v.Do(1, msg.Msg{Kind: msg.Mass, Seq: 4, L: rows})
	spoil(second[0].M.L)
	spoil(second)
	spoil(spare)
	if msg.Text(first[0].M) != text {
		t.Errorf("P2: %s; was %s", msg.Text(first[0].M), text)
	}
	p.rests(1, "7 1 B 1@8 post; 8 1 S 2@21 post")
	spoil(first[0].M.L)
	spoil(first)
	legs := []msg.Row{{1, 1, 1}, {2, -1, 1}}
	p.v.Do(1, msg.Msg{Kind: msg.Strat, Seq: 5, L: legs})
	spoil(legs)
	if l := p.v.Legs(1); len(l) != 2 || l[1].Series != 2 || l[1].Sign != -1 {
		t.Errorf("P2: legs are %v", l)
	}
}

// TestConfigIsLeft (P2): a Config is neither changed nor kept.
func TestConfigIsLeft(t *testing.T) {
	c := conf()
	c.Classes, c.Series = append(make([]string, 0, 9), c.Classes...), append(make([]series.Series, 0, 9), c.Series...)
	c.Classes[:3][2], c.Series[:7][6].Class = "X", "X"
	was := fmt.Sprintf("%+v %v %v", c, c.Classes[:3], c.Series[:7])
	v, err := New(c)
	if is := fmt.Sprintf("%+v %v %v", c, c.Classes[:3], c.Series[:7]); err != nil || is != was {
		t.Errorf("P2: %v, %s; was %s", err, is, was)
	}
	seen := look(v, 6)
	spoil(c.Grids[0])
	spoil(c.Grids)
	spoil(c.Classes)
	spoil(c.Series)
	p := &play{t, v, map[int]int64{}, map[int]int64{}}
	if is := look(v, 6); is != seen {
		t.Errorf("P2: %s\nwas\n%s", is, seen)
	}
	p.do("1 accept 1", 1, msg.Login)
	p.do("1 accept 2", 1, msg.State, 5, 2)
	p.do("1 reject 3 10", 1, msg.New, 5, 1, 7, 1, 1)
	p.do("1 accept 4 1", 1, msg.New, 5, 1, 11, 1, 1)
}

// TestAnything (P1, T5): any messages, ticks and numbers are answered, by turns that rise one by one.
func TestAnything(t *testing.T) {
	odd := []int64{least, least + 1, -1 << 32, -1, 0, 1, 2, 3, 4, 5, 6, 7, 9, 11, 64, 65, api.MaxPrice, api.MaxPrice + 1, 1<<32 + 1, 1 << 62, most}
	for seed := range 20 {
		r := walk(uint32(seed))
		v, err := New(small(seed * 5))
		if err != nil {
			t.Fatal(err)
		}
		turns := map[int]int64{}
		any := func() int64 { return odd[r(len(odd))] }
		for range 1500 {
			sess := int(1 + r(3))
			if r(30) == 0 {
				sess = int(any())
			}
			m := msg.Msg{Kind: int(1 + r(15)), Seq: v.sessions.Next(sess)}
			if r(30) == 0 {
				m.Kind = int(any())
			}
			if r(30) == 0 {
				m.Seq = any()
			}
			if m.Kind == msg.Logout && r(4) > 0 {
				m.Kind = msg.State
			}
			for i := range m.A {
				m.A[i] = any()
				if r(3) > 0 {
					m.A[i] = 1 + r(4)
				}
			}
			if m.Kind == msg.Day && r(20) > 0 {
				m.A[0] = 0
			}
			for range r(5) {
				row := msg.Row{1 + r(4), any(), r(4), any(), r(4)}
				if r(2) == 0 {
					row = msg.Row{1 + r(4), 2*r(2) - 1, 1 + r(3)}
				}
				m.L = append(m.L, row)
			}
			outs := v.Do(sess, m)
			if r(50) == 0 {
				outs = append(outs, v.Tick()...)
			}
			outs = append(outs, v.Refuse(int(any()), api.Errno(any()))...)
			for _, o := range outs {
				turns[o.Sess]++
				if o.Sess < 1 || o.Sess > api.MaxSess || o.M.Seq != turns[o.Sess] || o.M.Kind < msg.Accept || o.M.Kind > msg.Leg {
					t.Fatalf("W5: session %d is told %s; want turn %d", o.Sess, msg.Text(o.M), turns[o.Sess])
				}
				if _, err := msg.Encode(o.M); err != nil {
					t.Fatalf("W1: %s: %v", msg.Text(o.M), err)
				}
			}
			if id := int(any()); id < 1 || id > 6 {
				v.Book(id)
				v.View(id)
				v.Feed(id)
				v.Volume(id)
				v.Complex(id)
				v.Entry(int64(id))
			}
		}
		if look(v, 6) == "" {
			t.Error("P1: nothing")
		}
	}
}
