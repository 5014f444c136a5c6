package judge

import (
	"bytes"
	"errors"
	"fmt"
	"math"
	"slices"
	"strings"
	"testing"

	"straddle/api"
	"straddle/frame"
	"straddle/grid"
	"straddle/msg"
	"straddle/risk"
	"straddle/series"
	"straddle/venue"
)

// row puts pieces one behind the other.
func row(l ...[]byte) []byte { return bytes.Join(l, nil) }

// run asks what the Items are answered: for each the session and the message, without the noughts behind, and `; ` between.
func run(t *testing.T, what, want string, l ...Item) {
	t.Helper()
	answers, err := Run(conf(), l...)
	if got := short(t, answers); got != want || err != nil {
		t.Errorf("%s: %s, %v\n want %s", what, got, err, want)
	}
}

func short(t *testing.T, l []Answer) string {
	t.Helper()
	var words []string
	for _, a := range l {
		m := message(t, a.Bytes)
		n := append([]int64{int64(m.Kind), m.Seq}, m.A[:]...)
		for len(n) > 2 && n[len(n)-1] == 0 {
			n = n[:len(n)-1]
		}
		word := fmt.Sprint(a.Sess, "<", strings.Trim(fmt.Sprint(n), "[]"))
		for _, r := range m.L {
			word += fmt.Sprint(r)
		}
		words = append(words, word)
	}
	return strings.Join(words, "; ")
}

// what most of the tests send: the first three messages of a session.
var (
	login = sent(msg.Login, 1, nil)
	beat  = sent(msg.Beat, 2, nil)
	again = sent(msg.Beat, 3, nil)
)

// TestRun (P2801): what is whole is done, in the order in which it came.
func TestRun(t *testing.T) {
	run(t, "nothing", "")
	run(t, "an empty Item", "", Item{})
	run(t, "a frame", "7<33 1 1", Item{Sess: 7, Bytes: login})
	run(t, "two frames in one Item", "7<33 1 1; 7<33 2 2", Item{Sess: 7, Bytes: row(login, beat)})
	run(t, "two frames in two Items", "7<33 1 1; 7<33 2 2", Item{Sess: 7, Bytes: login}, Item{Sess: 7, Bytes: beat})
	run(t, "less than a frame", "", Item{Sess: 7, Bytes: login[:len(login)-1]})
	run(t, "a frame and less than one", "7<33 1 1", Item{Sess: 7, Bytes: row(login, beat[:len(beat)-1])})
	run(t, "a frame with nothing between", "7<33 1 1", Item{Sess: 7, Bytes: login[:3]}, Item{Sess: 7}, Item{Sess: 7, Bytes: login[3:]})
	run(t, "what may not be now", "7<34 1 2 7", Item{Sess: 7, Bytes: beat})
	run(t, "what is out of turn", "7<33 1 1; 7<34 2 3 13", Item{Sess: 7, Bytes: row(login, again)})
	run(t, "what goes to two", "1<33 1 1; 1<33 2 2; 1<33 3 3 1; 2<33 1 1; 2<33 2 2 2; 1<35 4 1 12 2 3 0 1; 2<35 3 2 12 2 0 1 1",
		Item{Sess: 1, Bytes: row(login, sent(msg.State, 2, nil, 1, 2), sent(msg.New, 3, nil, 1, 2, 12, 5, 1))},
		Item{Sess: 2, Bytes: row(login, sent(msg.New, 2, nil, 1, 1, 13, 2, 1))})
	run(t, "a message with rows", "1<33 1 1; 1<33 2 2; 1<37 3 3[0 1 2 0 0][7 0 0 0 0]",
		Item{Sess: 1, Bytes: row(login, sent(msg.State, 2, nil, 1, 2), sent(msg.Mass, 3, []msg.Row{{1, 9, 4, 11, 5}, {2, 9, 4, 11, 5}}))})
}

// TestSessions (P2801, P9): each session from 1 to MaxSess has a stream of its own, and nobody else has one.
func TestSessions(t *testing.T) {
	run(t, "two that come piece by piece", "4<33 1 1; 3<33 1 1; 3<33 2 2; 4<33 2 2",
		Item{Sess: 3, Bytes: login[:4]}, Item{Sess: 4, Bytes: login}, Item{Sess: 4, Bytes: beat[:9]},
		Item{Sess: 3, Bytes: row(login[4:], beat)}, Item{Sess: 4, Bytes: beat[9:]})
	run(t, "the first and the last", "1<33 1 1; 64<33 1 1", Item{Sess: 1, Bytes: login}, Item{Sess: 64, Bytes: login})
	for _, none := range []int{0, -1, 65, -64, 128, math.MaxInt, math.MinInt, 1<<32 + 1} {
		run(t, fmt.Sprint("session ", none), "", Item{Sess: none, Bytes: login}, Item{Sess: none, Bytes: row(login, beat)}, Item{Sess: none, Bytes: []byte{255, 255}})
		run(t, fmt.Sprint("time behind session ", none), "5<33 1 1; 5<37 2 1", Item{Sess: 5, Bytes: login}, Item{Sess: none, Bytes: login, Ticks: 10})
	}
	var all []Item
	var want []string
	for s := 1; s <= api.MaxSess; s++ {
		all = append(all, Item{Sess: s, Bytes: login[:s%len(login)]})
	}
	for s := api.MaxSess; s > 0; s-- {
		all = append(all, Item{Sess: s, Bytes: login[s%len(login):]})
		want = append(want, fmt.Sprint(s, "<33 1 1"))
	}
	run(t, "all", strings.Join(want, "; "), all...)
}

// TestTicks (P2801, P9): 0 to 1000 ticks, behind what came.
func TestTicks(t *testing.T) {
	on := Item{Sess: 7, Bytes: login}
	late := "7<33 1 1; 7<37 2 1"
	run(t, "9 of 10", "7<33 1 1", on, Item{Ticks: 9})
	run(t, "10 of 10", late, on, Item{Ticks: 10})
	run(t, "10 of 10, bit by bit", late, on, Item{Ticks: 4}, Item{Ticks: 0}, Item{Sess: 8, Ticks: 6})
	run(t, "10 at once with what came", late, Item{Sess: 7, Bytes: login, Ticks: 10})
	run(t, "behind what came, not ahead", "7<33 1 1; 7<33 2 2; 7<37 3 1", Item{Sess: 7, Bytes: login, Ticks: 9}, Item{Sess: 7, Bytes: beat, Ticks: 9}, Item{Ticks: 1})
	run(t, "1000", late, on, Item{Ticks: 1000})
	for _, none := range []int{0, -1, -1000, 1001, math.MaxInt, math.MinInt, 1 << 32, 1<<32 + 10} {
		run(t, fmt.Sprint(none, " ticks"), "7<33 1 1; 7<33 2 2", on, Item{Ticks: none}, Item{Ticks: 9}, Item{Sess: 7, Bytes: beat, Ticks: none})
	}
	c := conf()
	for _, timeout := range []int64{999, 1000, 1001} {
		c.Timeout = timeout
		l, _ := Run(c, Item{Sess: 7, Bytes: login, Ticks: 1000})
		want := late
		if timeout > 1000 {
			want = "7<33 1 1"
		}
		if got := short(t, l); got != want {
			t.Errorf("P2801: 1000 ticks of a timeout of %d: %s; want %s", timeout, got, want)
		}
	}
}

// TestNoMessage (P2801): a body that is no message is refused by the number at the end of Decode's error, and no more.
func TestNoMessage(t *testing.T) {
	good := body(msg.Msg{Kind: msg.Mass, Seq: 2, L: []msg.Row{{1, 9, 1, 11, 1}}})
	with := func(at int, b ...byte) []byte {
		l := slices.Clone(good)
		copy(l[at:], b)
		return l
	}
	for _, x := range []struct {
		what string
		body []byte
		want api.Errno
	}{
		{"nothing", nil, api.ErrShort},
		{"half an Int", []byte{200}, api.ErrShort},
		{"a row that ends within", good[:len(good)-1], api.ErrShort},
		{"a row that is not there", good[:len(good)-5], api.ErrShort},
		{"an Int too long", []byte{128, 0}, api.ErrForm},
		{"bytes behind", append(slices.Clone(good), 0), api.ErrForm},
		{"no kind", with(0, 0), api.ErrName},
		{"a kind that is none", with(0, 32), api.ErrName},
		{"a turn below 0", with(1, 1), api.ErrArg},
		{"no row", with(8, 0), api.ErrLong},
		{"51 rows", with(8, 102), api.ErrLong},
	} {
		bad := wrapped(x.body)
		want := fmt.Sprintf("7<33 1 1; 7<34 2 0 %d; 7<33 3 2", x.want)
		run(t, x.what, want, Item{Sess: 7, Bytes: row(login, bad, beat)})
		run(t, x.what+", in three Items", want, Item{Sess: 7, Bytes: login}, Item{Sess: 7, Bytes: bad}, Item{Sess: 7, Bytes: beat})
		run(t, x.what+", twice", fmt.Sprintf("7<33 1 1; 7<34 2 0 %d; 7<34 3 0 %d; 7<33 4 2", x.want, x.want), Item{Sess: 7, Bytes: row(login, bad, bad, beat)})
		run(t, x.what+" of one who is not on", "7<33 1 1", Item{Sess: 7, Bytes: row(bad, login)})
		run(t, x.what+" of one who is not on, but another is", "8<33 1 1", Item{Sess: 8, Bytes: login}, Item{Sess: 7, Bytes: bad})
	}
}

// TestDead (P2801): what is wrong with a stream is told once, behind what was whole ahead, and nothing comes of it any more.
func TestDead(t *testing.T) {
	sum := slices.Clone(beat)
	sum[len(sum)-1] ^= 1
	inner := slices.Clone(beat)
	inner[3] ^= 2
	for _, x := range []struct {
		what string
		b    []byte
		want api.Errno
	}{
		{"a sum that is wrong", sum, api.ErrSum},
		{"another body", inner, api.ErrSum},
		{"1025 bytes", []byte{1, 4}, api.ErrLong},
		{"65535 bytes", []byte{255, 255}, api.ErrLong},
	} {
		told := fmt.Sprintf("7<33 1 1; 7<34 2 0 %d", x.want)
		run(t, x.what, told, Item{Sess: 7, Bytes: row(login, x.b)})
		run(t, x.what+", once", told, Item{Sess: 7, Bytes: row(login, x.b, beat)}, Item{Sess: 7, Bytes: beat}, Item{Sess: 7}, Item{Sess: 7, Bytes: x.b})
		run(t, x.what+" in an Item of its own", told, Item{Sess: 7, Bytes: login}, Item{Sess: 7, Bytes: x.b}, Item{Sess: 7, Bytes: beat})
		run(t, x.what+" behind two", fmt.Sprintf("7<33 1 1; 7<33 2 2; 7<34 3 0 %d", x.want), Item{Sess: 7, Bytes: row(login, beat, x.b, again)})
		run(t, x.what+" behind what is no message", fmt.Sprintf("7<33 1 1; 7<34 2 0 3; 7<34 3 0 %d", x.want), Item{Sess: 7, Bytes: row(login, wrapped(nil), x.b)})
		run(t, x.what+" of one who is not on", "", Item{Sess: 7, Bytes: x.b}, Item{Sess: 7, Bytes: login})
		run(t, x.what+" behind a Logout", "7<33 1 1; 7<33 2 2", Item{Sess: 7, Bytes: row(login, sent(msg.Logout, 2, nil), x.b)})
		run(t, x.what+", and another goes on", told+"; 8<33 1 1; 8<33 2 2", Item{Sess: 8, Bytes: login[:3]}, Item{Sess: 7, Bytes: row(login, x.b)}, Item{Sess: 8, Bytes: row(login[3:], beat)}, Item{Sess: 7, Bytes: beat})
		run(t, x.what+", and the time goes on", told+"; 7<37 3 1", Item{Sess: 7, Bytes: row(login, x.b), Ticks: 4}, Item{Sess: 7, Bytes: beat, Ticks: 6})
		for cut := range x.b {
			run(t, fmt.Sprint(x.what, " cut at ", cut), told, Item{Sess: 7, Bytes: row(login, x.b[:cut])}, Item{Sess: 7, Bytes: x.b[cut:]}, Item{Sess: 7, Bytes: beat})
		}
	}
	most := row(login, wrapped(make([]byte, api.MaxBody)), beat)
	run(t, "1024 bytes", "7<33 1 1; 7<34 2 0 5; 7<33 3 2", Item{Sess: 7, Bytes: most})
}

// TestStillThere (P2801, T3): who has a dead stream is in the venue till it is late: what it has open trades, and is cancelled then;
// what was cancelled, purged, cut off trades no more.
func TestStillThere(t *testing.T) {
	run(t, "an order of one whose stream is dead",
		"1<33 1 1; 1<33 2 2; 1<33 3 3 1; 1<34 4 0 4; 2<33 1 1; 2<33 2 2 2; 1<35 5 1 12 2 3 0 1; 2<35 3 2 12 2 0 1 1; 1<37 6 1 1; 2<33 4 3 3",
		Item{Sess: 1, Bytes: row(login, sent(msg.State, 2, nil, 1, 2), sent(msg.New, 3, nil, 1, 2, 12, 5, 1), []byte{255, 255}), Ticks: 3},
		Item{Sess: 2, Bytes: row(login, sent(msg.New, 2, nil, 1, 1, 13, 2, 1)), Ticks: 7},
		Item{Sess: 2, Bytes: sent(msg.New, 3, nil, 1, 1, 13, 2, 1)})
	run(t, "an order that is cancelled",
		"1<33 1 1; 1<33 2 2; 1<33 3 3 1; 1<33 4 4; 1<36 5 1 5; 2<33 1 1; 2<33 2 2 2",
		Item{Sess: 1, Bytes: row(login, sent(msg.State, 2, nil, 1, 2), sent(msg.New, 3, nil, 1, 2, 12, 5, 1), sent(msg.Cancel, 4, nil, 1))},
		Item{Sess: 2, Bytes: row(login, sent(msg.New, 2, nil, 1, 1, 13, 2, 1))})
	run(t, "a quote that is purged",
		"1<33 1 1; 1<33 2 2; 1<37 3 3[0 1 2 0 0]; 1<37 4 4 2; 2<33 1 1; 2<33 2 2 3",
		Item{Sess: 1, Bytes: row(login, sent(msg.State, 2, nil, 1, 2), sent(msg.Mass, 3, []msg.Row{{1, 9, 4, 11, 5}}), sent(msg.Purge, 4, nil, 1))},
		Item{Sess: 2, Bytes: row(login, sent(msg.New, 2, nil, 1, 1, 13, 2, 1))})
	run(t, "a quote that is cut off",
		"1<33 1 1; 1<33 2 2; 1<37 3 3[0 1 2 0 0]; 2<33 1 1; 2<33 2 2 3; 1<35 4 2 11 1 4 0 1; 2<35 3 3 11 1 0 1 1; "+
			"2<33 4 3 4; 1<35 5 2 11 1 3 0 1; 2<35 5 4 11 1 0 1 1; 1<37 6 2 2; 2<33 6 4 5; 1<34 7 4 12",
		Item{Sess: 1, Bytes: row(login, sent(msg.State, 2, nil, 1, 2), sent(msg.Mass, 3, []msg.Row{{1, 9, 4, 11, 5}}))},
		Item{Sess: 2, Bytes: row(login, sent(msg.New, 2, nil, 1, 1, 11, 1, 1), sent(msg.New, 3, nil, 1, 1, 11, 1, 1), sent(msg.New, 4, nil, 1, 1, 11, 1, 1))},
		Item{Sess: 1, Bytes: sent(msg.Mass, 4, []msg.Row{{1, 9, 4, 12, 5}})})
}

// TestNewsError (P2801, P4, P5): venue.New's error, whatever comes.
func TestNewsError(t *testing.T) {
	for at, spoil := range []func(c *venue.Config){
		func(c *venue.Config) { c.Grids = c.Grids[:1] },
		func(c *venue.Config) { c.Series[2].Strike = 0 },
		func(c *venue.Config) { c.Limits = risk.Limits{} },
		func(c *venue.Config) { c.Window = 0 },
		func(c *venue.Config) { c.Timeout = 0 },
	} {
		c := conf()
		spoil(&c)
		_, want := venue.New(c)
		for _, l := range [][]Item{nil, {{Sess: 7, Bytes: login, Ticks: 10}}} {
			answers, err := Run(c, l...)
			var f *api.Fault
			if answers != nil || !errors.As(err, &f) || f.Part != "venue" || f.At != at || err.Error() != want.Error() || last(err) != last(want) {
				t.Errorf("P2801: part %d: %v, %v; want %v", at, answers, err, want)
			}
		}
		run(t, "P5: behind an error", "7<33 1 1", Item{Sess: 7, Bytes: login})
	}
	// P6: of all that is wrong the first one
	if l, err := Run(venue.Config{Classes: []string{"A"}, Series: []series.Series{{}}}); l != nil || err == nil || err.Error() != "venue 0: arg" {
		t.Errorf("P6: %v, %v", l, err)
	}
	if l, err := Run(venue.Config{}); l != nil || err == nil || err.Error() != "venue 2: arg" {
		t.Errorf("P6: %v, %v", l, err)
	}
}

// TestPieces (W5): however bytes are cut, they are answered the same.
func TestPieces(t *testing.T) {
	one := row(login, sent(msg.State, 2, nil, 1, 2), sent(msg.Mass, 3, []msg.Row{{1, 9, 4, 11, 5}}), wrapped([]byte{9}), sent(msg.New, 4, nil, 1, 1, 11, 2, 2), sent(msg.Logout, 5, nil))
	all, err := Run(conf(), Item{Sess: 9, Bytes: one})
	want := texts(t, all)
	if err != nil || len(all) != 10 {
		t.Fatalf("W5: %s, %v", want, err)
	}
	for i := range len(one) + 1 {
		for j := i; j <= len(one); j++ {
			l, _ := Run(conf(), Item{Sess: 9, Bytes: one[:i]}, Item{Sess: 9, Bytes: one[i:j]}, Item{Sess: 9, Bytes: one[j:]})
			if got := texts(t, l); got != want {
				t.Fatalf("W5: cut at %d and %d: %s; want %s", i, j, got, want)
			}
		}
	}
	var bits []Item
	for i := range one {
		bits = append(bits, Item{Sess: 9, Bytes: one[i : i+1]})
	}
	if l, _ := Run(conf(), bits...); texts(t, l) != want {
		t.Errorf("W5: byte by byte: %s; want %s", texts(t, l), want)
	}
}

// TestTurns (W5): each session is told in its turns 1, 2, ..
func TestTurns(t *testing.T) {
	c := crowdOf(t, conf(), 11)
	c.wild = 9
	c.opened()
	for range 300 {
		c.step()
	}
	l, _ := Run(conf(), c.items...)
	turns := map[int]int64{}
	for i, a := range l {
		turns[a.Sess]++
		if m := message(t, a.Bytes); m.Seq != turns[a.Sess] {
			t.Fatalf("W5: answer %d to session %d has turn %d; want %d", i, a.Sess, m.Seq, turns[a.Sess])
		}
	}
	if len(turns) != 5 {
		t.Errorf("W5: %v", turns)
	}
}

// TestLongest (P2801): the longest that is told has room in a frame.
func TestLongest(t *testing.T) {
	c := wide()
	c.Series = nil
	for i := range api.MaxSeries {
		c.Series = append(c.Series, series.Series{Class: "AB", Expiry: 10, Strike: int64(i + 1), Right: series.Put})
	}
	road := login
	seq := int64(1)
	for i := range api.MaxMass {
		seq++
		road = row(road, sent(msg.State, seq, nil, int64(i+1), 2))
	}
	var rows []msg.Row
	for i := range api.MaxMass {
		rows = append(rows, msg.Row{int64(i + 1), api.MaxPrice - 1, api.MaxQty, api.MaxPrice, api.MaxQty})
	}
	for range 12 {
		seq++
		road = row(road, sent(msg.Mass, seq, rows))
	}
	l, err := Run(c, Item{Sess: 64, Bytes: road})
	if err != nil || len(l) != 1+50+12 {
		t.Fatalf("P2801: %d, %v", len(l), err)
	}
	for i, a := range l[51:] {
		if m := message(t, a.Bytes); len(m.L) != 50 || m.L[49] != (msg.Row{0, int64(100*i + 99), int64(100*i + 100)}) {
			t.Errorf("P2801: Mass %d: %s", i, msg.Text(m))
		}
	}
	// with numbers as great as there may be
	m := msg.Msg{Kind: msg.Told, Seq: 1<<31 - 1, A: [6]int64{1<<31 - 1}}
	for range api.MaxMass {
		m.L = append(m.L, msg.Row{14, 1<<31 - 2, 1<<31 - 1})
	}
	r := roadsTo(&venue.Venue{})
	r.tell([]venue.Out{{Sess: 1, M: m}})
	if got := message(t, r.answers[0].Bytes); !msg.Same(got, m) {
		t.Errorf("P2801: %s", msg.Text(got))
	}
}

// TestWalks (P2801, W5, T1): any road is answered as one that is read by hand is; and behind each message all holds (P2802, T2 to T4).
func TestWalks(t *testing.T) {
	traded, legged, fills := 0, 0, 0
	for seed := range 60 {
		conf := conf()
		if seed%3 == 0 {
			conf = wide()
		}
		c := crowdOf(t, conf, uint32(seed))
		c.wild = []int{0, 30, 8}[seed/3%3]
		if c.wild == 0 {
			c.asked = func() { c.holds() }
		}
		c.opened()
		for range 250 {
			c.step()
			if c.wild > 0 {
				c.holds()
			}
		}
		c.same(conf, fmt.Sprint("T1: walk ", seed))
		for _, o := range c.told {
			switch o.M.Kind {
			case msg.Fill:
				fills++
			case msg.Leg:
				legged++
			case msg.Done:
				traded++
			}
		}
	}
	if fills < 1000 || legged < 500 || traded < 500 {
		t.Errorf("walks that tell nothing: %d Fills, %d Legs, %d Dones", fills, legged, traded)
	}
}

// holds asks that of a venue as it should be nothing is found.
func (c *crowd) holds() {
	c.t.Helper()
	if l := Look(c.v, 6, c.v.Strats()); len(l) != 0 {
		c.t.Fatalf("T2, T4: %v", l)
	}
	if !Fair(c.v, 1<<40, 6) {
		c.t.Fatal("T4: not Fair")
	}
}

// TestNothingChanges (T5): what is no message, and what is no stream's, changes nothing of what others are told.
func TestNothingChanges(t *testing.T) {
	for seed := range 20 {
		c := crowdOf(t, conf(), uint32(seed))
		c.opened()
		var with []Item
		for range 150 {
			sess := int(1 + c.r(5))
			m := c.anything(sess)
			c.item(Item{Sess: sess, Bytes: sent(m.Kind, c.turn(sess), m.L, m.A[:]...), Ticks: int(c.r(12) / 11)})
		}
		for i, x := range c.items {
			switch c.r(4) {
			case 0:
				with = append(with, Item{Sess: x.Sess, Bytes: wrapped(c.spoilt())})
			case 1:
				x.Bytes = row(wrapped(c.spoilt()), x.Bytes)
			case 2:
				with = append(with, Item{Sess: 9, Bytes: []byte{byte(i), 255}, Ticks: -1}, Item{Sess: 0, Bytes: x.Bytes})
			}
			with = append(with, x)
		}
		plain, _ := Run(conf(), c.items...)
		more, _ := Run(conf(), with...)
		if got, want := unrefused(t, more), unrefused(t, plain); got != want || len(more) == len(plain) {
			t.Fatalf("T5: walk %d: %s\nwant\n%s", seed, got, want)
		}
	}
}

// unrefused tells answers without their turns, and without those to what was no message.
func unrefused(t *testing.T, l []Answer) string {
	t.Helper()
	var w strings.Builder
	for _, a := range l {
		m := message(t, a.Bytes)
		m.Seq = 0
		if m.Kind != msg.Reject || m.A[0] != 0 {
			fmt.Fprintf(&w, "%d: %s\n", a.Sess, msg.Text(m))
		}
	}
	return w.String()
}

// TestAnyBytes (T5, P1): any bytes, any numbers are answered.
func TestAnyBytes(t *testing.T) {
	r := walk(5)
	for range 3000 {
		var l []Item
		for range r(6) {
			b := make([]byte, r(40))
			for i := range b {
				b[i] = byte(r(256) >> (r(3) * 3))
			}
			if r(2) == 0 {
				b = wrapped(b)
			}
			if r(3) == 0 {
				b = row(login, b)
			}
			l = append(l, Item{Sess: int(r(70)) - 3, Bytes: b, Ticks: int(r(20)) - 2})
		}
		answers, err := Run(conf(), l...)
		if err != nil {
			t.Fatal(err)
		}
		texts(t, answers)
	}
	for _, c := range []venue.Config{
		{},
		{Classes: []string{"A"}},
		{Grids: []grid.Table{nil}},
		{Limits: risk.Limits{Qty: 1, Notional: 1, Orders: 1}, Fills: 1, Window: 1, Timeout: 1},
		{Limits: risk.Limits{Qty: math.MaxInt64, Notional: math.MinInt64}, Fills: math.MinInt, Window: math.MaxInt64},
	} {
		if l, err := Run(c, Item{Sess: 1, Bytes: row(login, sent(msg.New, 2, nil, 1, 1, 1, 1, 1)), Ticks: 2}); err != nil && len(l) != 0 {
			t.Errorf("P4: %v, %v", l, err)
		}
	}
}

// TestNoPlace (P2801): a venue that lists nothing answers, too.
func TestNoPlace(t *testing.T) {
	c := venue.Config{Limits: risk.Limits{Qty: 1, Notional: 1, Orders: 1}, Fills: 1, Window: 1, Timeout: 2}
	l, err := Run(c, Item{Sess: 1, Bytes: row(login, sent(msg.New, 2, nil, 1, 1, 1, 1, 1)), Ticks: 2})
	if got := short(t, l); got != "1<33 1 1; 1<34 2 2 5; 1<37 3 1" || err != nil {
		t.Errorf("P2801: %s, %v", got, err)
	}
}

// TestHandedIn (P2): what is handed in stays as it is, and is not kept; answers share no memory.
func TestHandedIn(t *testing.T) {
	c := crowdOf(t, conf(), 3)
	c.wild = 10
	c.opened()
	for range 80 {
		c.step()
	}
	// the Items' bytes lie one behind the other in one piece of memory, so that whoever writes behind one writes into the next
	var store []byte
	for _, x := range c.items {
		store = append(store, x.Bytes...)
	}
	store = append(store, 170, 171, 172)
	was, at := slices.Clone(store), 0
	var l []Item
	for _, x := range c.items {
		l = append(l, Item{Sess: x.Sess, Bytes: store[at : at+len(x.Bytes)], Ticks: x.Ticks})
		at += len(x.Bytes)
	}
	items, config, before := slices.Clone(l), conf(), conf()
	answers, err := Run(config, l...)
	if err != nil || !slices.Equal(store, was) || fmt.Sprint(l) != fmt.Sprint(items) || fmt.Sprint(config) != fmt.Sprint(before) {
		t.Fatalf("P2: what was handed in is another, %v", err)
	}
	want := outs(c.told)
	for i := range store {
		store[i] = 255
	}
	config.Classes[0], config.Grids[0][0].By, config.Series[0].Strike = "Z", 7, 9
	if got := texts(t, answers); got != want {
		t.Fatal("P2: the answers share memory with what was handed in")
	}
	kept := make([][]byte, len(answers))
	for i, a := range answers {
		kept[i] = slices.Clone(a.Bytes)
	}
	for i, a := range answers {
		all := a.Bytes[:cap(a.Bytes)]
		for k := range all {
			all[k] = 255
		}
		for j := i + 1; j < len(answers); j++ {
			if !bytes.Equal(answers[j].Bytes, kept[j]) {
				t.Fatalf("P2: answers %d and %d share memory", i, j)
			}
		}
	}
}

// TestTwice (P3): the same Items are answered the same, whatever was run between.
func TestTwice(t *testing.T) {
	c := crowdOf(t, conf(), 8)
	c.wild = 12
	c.opened()
	for range 200 {
		c.step()
	}
	first, _ := Run(conf(), c.items...)
	Run(wide(), Item{Sess: 1, Bytes: []byte{255, 255}, Ticks: 1000}, Item{Sess: 2, Bytes: login})
	second, _ := Run(conf(), c.items...)
	if texts(t, first) != texts(t, second) {
		t.Error("P3: unlike answers")
	}
	for i := range first {
		if !bytes.Equal(first[i].Bytes, second[i].Bytes) {
			t.Errorf("P3: answer %d", i)
		}
	}
}

// TestFrames (P2801): an answer is Wrap of Encode, and one frame alone.
func TestFrames(t *testing.T) {
	c := crowdOf(t, conf(), 4)
	c.opened()
	for range 60 {
		c.step()
	}
	l, _ := Run(conf(), c.items...)
	if len(l) != len(c.told) {
		t.Fatalf("P2801: %d answers; want %d", len(l), len(c.told))
	}
	for i, o := range c.told {
		if want := wrapped(body(o.M)); l[i].Sess != o.Sess || !bytes.Equal(l[i].Bytes, want) {
			t.Errorf("P2801: answer %d is %v; want %v to %d", i, l[i], want, o.Sess)
		}
		if b, err := frame.All(l[i].Bytes); len(b) != 1 || err != nil {
			t.Errorf("P2801: answer %d is %d frames, %v", i, len(b), err)
		}
	}
}
