package legs

import (
	"errors"
	"fmt"
	"math"
	"math/big"
	"slices"
	"sort"
	"testing"

	"straddle/api"
)

const (
	most  = math.MaxInt64
	least = math.MinInt64
)

// made tells legs of series, sign and ratio, one leg behind the other.
func made(x ...int64) []Leg {
	var l []Leg
	for ; len(x) > 0; x = x[3:] {
		l = append(l, Leg{Series: int(x[0]), Sign: int(x[1]), Ratio: x[2]})
	}
	return l
}

// good is as many legs as asked, all of which may be, in no order and with ratios that nothing divides.
func good(n int) []Leg { return made(7, 1, 4, 3, -1, 1, 9, -1, 2, 1, 1, 3)[:n] }

// plainCheck tells the first of what the promise finds wrong with l, and its place.
func plainCheck(l []Leg) (int, api.Errno) {
	switch {
	case len(l) == 0 || len(l) == 1:
		return len(l), api.ErrArg
	case len(l) >= 5:
		return 4, api.ErrArg
	}
	seen := map[int]int{}
	for at, leg := range l {
		signs := map[int]int{1: 1, -1: 1}
		ratios := map[int64]int{1: 1, 2: 1, 3: 1, 4: 1}
		if leg.Series <= 0 || signs[leg.Sign] == 0 || ratios[leg.Ratio] == 0 {
			return at, api.ErrArg
		}
		if seen[leg.Series]++; seen[leg.Series] > 1 {
			return at, api.ErrTwice
		}
	}
	return 0, api.OK
}

// plainCanon tells the Canon of legs that Check takes, and whether it is turned.
func plainCanon(l []Leg) ([]Leg, bool) {
	byNumber := map[int]Leg{}
	var numbers []int
	for _, leg := range l {
		byNumber[leg.Series] = leg
		numbers = append(numbers, leg.Series)
	}
	sort.Ints(numbers)
	by := int64(1)
	for d := int64(2); d <= 4; d++ {
		if !slices.ContainsFunc(l, func(leg Leg) bool { return leg.Ratio%d != 0 }) {
			by = d
		}
	}
	first := byNumber[numbers[0]].Sign
	var out []Leg
	for _, n := range numbers {
		out = append(out, Leg{n, byNumber[n].Sign * first, byNumber[n].Ratio / by})
	}
	return out, first == -1
}

// plainNet tells the Net of legs that Check takes, in numbers of any size; false: a product or a sum so far is no int64.
func plainNet(l []Leg, prices []int64) (int64, bool) {
	sum := new(big.Int)
	for i, leg := range l {
		part := big.NewInt(int64(leg.Sign))
		part.Mul(part, big.NewInt(leg.Ratio))
		part.Mul(part, big.NewInt(prices[i]))
		sum.Add(sum, part)
		if !part.IsInt64() || !sum.IsInt64() {
			return 0, false
		}
	}
	return sum.Int64(), true
}

// checkFault asks whether err is this: none of OK, else a Fault at that place that wraps want itself.
func checkFault(t *testing.T, what string, l []Leg, err error, at int, want api.Errno) {
	t.Helper()
	if want == api.OK {
		if err != nil {
			t.Errorf("%s of %v: %v", what, l, err)
		}
		return
	}
	f, ok := err.(*api.Fault)
	if !ok || f.Part != "leg" || f.At != at || f.Err != want || !errors.Is(err, want) {
		t.Errorf("%s of %v: %v; want a fault of %v at %d", what, l, err, want, at)
	}
}

// checkCheck asks whether Check, and all that asks it, tells this of l.
func checkCheck(t *testing.T, l []Leg, at int, want api.Errno) {
	t.Helper()
	checkFault(t, "Check", l, Check(l), at, want)
	form, turned, err := Canon(l)
	checkFault(t, "Canon", l, err, at, want)
	if want != api.OK && (len(form) != 0 || turned) {
		t.Errorf("Canon of %v: %v, %v beside an error", l, form, turned)
	}
	wantNet := api.OK
	if want != api.OK {
		wantNet = api.ErrArg // of a series again, too
	}
	if net, wrong := Net(l, make([]int64, len(l))); net != 0 || wrong != wantNet {
		t.Errorf("Net of %v: %d, %v; want %v", l, net, wrong, wantNet)
	}
}

func TestP1701CheckAtItsBounds(t *testing.T) {
	for _, c := range []struct {
		l    []Leg
		at   int
		want api.Errno
	}{
		{made(1, 1, 1, 2, -1, 4), 0, api.OK},
		{made(2, -1, 4, 1, -1, 1), 0, api.OK},
		{made(most, 1, 2, 1, 1, 3), 0, api.OK},
		{made(65, 1, 1, 1<<32+1, 1, 1), 0, api.OK}, // how many series there are is not asked here
		{made(1, 1, 1, 1<<32+1, 1, 1), 0, api.OK},
		{nil, 0, api.ErrArg},
		{[]Leg{}, 0, api.ErrArg},
		{made(1, 1, 1), 1, api.ErrArg},
		{made(0, 0, 0), 1, api.ErrArg},
		{made(0, 1, 1, 2, 1, 1), 0, api.ErrArg},
		{made(-1, 1, 1, 2, 1, 1), 0, api.ErrArg},
		{made(least, 1, 1, 2, 1, 1), 0, api.ErrArg},
		{made(1, 0, 1, 2, 1, 1), 0, api.ErrArg},
		{made(1, 2, 1, 2, 1, 1), 0, api.ErrArg},
		{made(1, -2, 1, 2, 1, 1), 0, api.ErrArg},
		{made(1, 1<<32+1, 1, 2, 1, 1), 0, api.ErrArg},
		{made(1, most, 1, 2, 1, 1), 0, api.ErrArg},
		{made(1, least, 1, 2, 1, 1), 0, api.ErrArg},
		{made(1, 1, 0, 2, 1, 1), 0, api.ErrArg},
		{made(1, 1, -1, 2, 1, 1), 0, api.ErrArg},
		{made(1, 1, 5, 2, 1, 1), 0, api.ErrArg},
		{made(1, 1, 1<<32+1, 2, 1, 1), 0, api.ErrArg},
		{made(1, 1, most, 2, 1, 1), 0, api.ErrArg},
		{made(1, 1, least, 2, 1, 1), 0, api.ErrArg},
		{made(1, 1, 1, 1, 1, 1), 1, api.ErrTwice},
		{made(1, 1, 1, 1, -1, 2), 1, api.ErrTwice},
		{made(1, 1, 1, 2, 1, 1, 1, 1, 1), 2, api.ErrTwice},
		{made(1, 1, 1, 2, 1, 1, 2, 1, 1), 2, api.ErrTwice},
		{made(1, 1, 1, 2, 1, 1, 3, 1, 1, 1, 1, 1), 3, api.ErrTwice},
		{made(1, 1, 1, 2, 1, 1, 3, 1, 1, 2, 1, 1), 3, api.ErrTwice},
		{made(1, 1, 1, 1, 1, 1, 1, 1, 1), 1, api.ErrTwice},
		{made(1, 1, 1, 1, 1, 9), 1, api.ErrArg}, // in one leg ErrArg is ahead
		{made(1, 1, 1, 1, 3, 1), 1, api.ErrArg},
		{made(1, 1, 1, 1, 1, 1, 0, 1, 1), 1, api.ErrTwice}, // the first leg is ahead
		{made(1, 1, 1, 0, 1, 1, 1, 1, 1), 1, api.ErrArg},
		{made(0, 1, 1, 0, 1, 1), 0, api.ErrArg},
	} {
		checkCheck(t, c.l, c.at, c.want)
	}
}

func TestP1701CheckHowMany(t *testing.T) {
	for n := range 40 {
		var l, bad []Leg
		for i := range n {
			l = append(l, Leg{Series: i + 1, Sign: 1, Ratio: 1})
			bad = append(bad, Leg{})
		}
		twice := slices.Clone(l)
		for i := range twice {
			twice[i].Series = 1
		}
		switch {
		case n < 2:
			checkCheck(t, l, n, api.ErrArg)
			checkCheck(t, bad, n, api.ErrArg)
		case n > 4:
			checkCheck(t, l, 4, api.ErrArg)
			checkCheck(t, bad, 4, api.ErrArg)
			checkCheck(t, twice, 4, api.ErrArg)
		default:
			checkCheck(t, l, 0, api.OK)
			checkCheck(t, bad, 0, api.ErrArg)
			checkCheck(t, twice, 1, api.ErrTwice)
		}
	}
}

// spoils tells what may go wrong with the leg at a place behind others.
func spoils() []func(l []Leg, at int) {
	return []func(l []Leg, at int){
		func(l []Leg, at int) { l[at].Series = 0 },
		func(l []Leg, at int) { l[at].Sign = 0 },
		func(l []Leg, at int) { l[at].Sign = -3 },
		func(l []Leg, at int) { l[at].Ratio = 0 },
		func(l []Leg, at int) { l[at].Ratio = 5 },
		func(l []Leg, at int) { l[at].Series = l[max(at-1, 0)].Series },
		func(l []Leg, at int) { l[at].Series = l[0].Series },
	}
}

// TestP1701CheckTellsTheFirstLeg spoils legs at every two places.
func TestP1701CheckTellsTheFirstLeg(t *testing.T) {
	for n := 2; n <= 4; n++ {
		for one := range n {
			for two := range n {
				for _, a := range spoils() {
					for _, b := range spoils() {
						l := good(n)
						a(l, one)
						b(l, two)
						at, want := plainCheck(l)
						checkCheck(t, l, at, want)
						if want != api.OK && at != one && at != two {
							t.Errorf("%v: at %d, spoilt at %d and %d", l, at, one, two)
						}
					}
				}
			}
		}
	}
}

func TestP1701CheckIsThePlainReading(t *testing.T) {
	var every []Leg
	for _, series := range []int64{0, 1, 2, most} {
		for _, sign := range []int64{-2, -1, 0, 1, 2} {
			for _, ratio := range []int64{0, 1, 4, 5} {
				every = append(every, made(series, sign, ratio)...)
			}
		}
	}
	for _, a := range every {
		for _, b := range every {
			l := []Leg{a, b}
			at, want := plainCheck(l)
			checkCheck(t, l, at, want)
		}
	}
	state := uint32(17)
	next := func(n int) int {
		state = state*1664525 + 1013904223
		return int(state>>8) % n
	}
	for range 50000 {
		var l []Leg
		for range next(7) {
			l = append(l, Leg{next(40) / 4, 1 - 2*next(2), int64(1 + next(4))})
			if next(8) == 0 {
				l[len(l)-1] = every[next(len(every))]
			}
		}
		at, want := plainCheck(l)
		checkCheck(t, l, at, want)
	}
}

func TestP1701FaultsAreTheCallersOwn(t *testing.T) {
	l := made(1, 1, 1, 1, 1, 1)
	checkFault(t, "Check", l, Check(l), 1, api.ErrTwice)
	err := Check(l)
	*err.(*api.Fault) = api.Fault{Part: "none"}
	checkFault(t, "Check", l, Check(l), 1, api.ErrTwice)
	if text := Check(l).Error(); text != "leg 1: twice" {
		t.Errorf("told as %q", text)
	}
}

// checkCanon asks whether Canon tells this of l, which stays as it is.
func checkCanon(t *testing.T, l, want []Leg, turned bool) {
	t.Helper()
	was := slices.Clone(l)
	form, got, err := Canon(l)
	if !slices.Equal(form, want) || got != turned || err != nil {
		t.Errorf("Canon of %v: %v, %v, %v; want %v, %v", l, form, got, err, want, turned)
	}
	if !slices.Equal(l, was) {
		t.Errorf("Canon has made %v of %v", l, was)
	}
}

func TestP1701CanonWordForWord(t *testing.T) {
	for _, c := range []struct {
		l, want []Leg
		turned  bool
	}{
		{made(1, 1, 1, 2, 1, 1), made(1, 1, 1, 2, 1, 1), false},
		{made(2, 1, 1, 1, 1, 1), made(1, 1, 1, 2, 1, 1), false},
		{made(1, -1, 1, 2, -1, 1), made(1, 1, 1, 2, 1, 1), true},
		{made(5, 1, 1, 2, -1, 4), made(2, 1, 4, 5, -1, 1), true},
		{made(5, -1, 2, 2, 1, 4), made(2, 1, 2, 5, -1, 1), false}, // of the first by Series, not the first handed in
		{made(2, 1, 4, 5, -1, 2), made(2, 1, 2, 5, -1, 1), false},
		{made(2, -1, 4, 5, 1, 2), made(2, 1, 2, 5, -1, 1), true},
		{made(9, -1, 4, 3, -1, 4, 6, 1, 2), made(3, 1, 2, 6, -1, 1, 9, 1, 2), true},
		{made(1, 1, 3, 2, 1, 3), made(1, 1, 1, 2, 1, 1), false},
		{made(1, 1, 4, 2, 1, 4), made(1, 1, 1, 2, 1, 1), false},
		{made(1, 1, 3, 2, 1, 2), made(1, 1, 3, 2, 1, 2), false},
		{made(1, 1, 4, 2, 1, 3), made(1, 1, 4, 2, 1, 3), false},
		{made(1, 1, 4, 2, 1, 4, 3, 1, 2), made(1, 1, 2, 2, 1, 2, 3, 1, 1), false},
		{made(1, 1, 4, 2, 1, 2, 3, 1, 1), made(1, 1, 4, 2, 1, 2, 3, 1, 1), false},
		{made(1, 1, 2, 2, 1, 2, 3, 1, 2, 4, 1, 3), made(1, 1, 2, 2, 1, 2, 3, 1, 2, 4, 1, 3), false},
		{made(4, -1, 2, 3, 1, 2, 2, -1, 2, 1, 1, 2), made(1, 1, 1, 2, -1, 1, 3, 1, 1, 4, -1, 1), false},
		{made(most, 1, 3, 1, -1, 3), made(1, 1, 1, most, -1, 1), true},
		{made(1<<32+1, 1, 1, 2, 1, 1), made(2, 1, 1, 1<<32+1, 1, 1), false},
		{made(100, 1, 1, 20, 1, 1, 3, 1, 1), made(3, 1, 1, 20, 1, 1, 100, 1, 1), false}, // by number, not by text
	} {
		checkCanon(t, c.l, c.want, c.turned)
	}
}

// forms goes over all legs of these series, in this order.
func forms(series ...int) [][]Leg {
	all := [][]Leg{nil}
	for _, s := range series {
		var longer [][]Leg
		for _, l := range all {
			for ratio := int64(1); ratio <= 4; ratio++ {
				longer = append(longer, append(slices.Clone(l), Leg{s, 1, ratio}), append(slices.Clone(l), Leg{s, -1, ratio}))
			}
		}
		all = longer
	}
	return all
}

// orders tells all orders of l.
func orders[T any](l []T) [][]T {
	if len(l) < 2 {
		return [][]T{l}
	}
	var all [][]T
	for i, first := range l {
		for _, rest := range orders(slices.Delete(slices.Clone(l), i, i+1)) {
			all = append(all, append([]T{first}, rest...))
		}
	}
	return all
}

func TestP1701CanonOfAllLegs(t *testing.T) {
	for _, series := range [][]int{{2, 9}, {2, 9, 5}, {2, 9, 5, 7}} {
		for _, order := range orders(series) {
			for _, l := range forms(order...) {
				want, turned := plainCanon(l)
				checkCanon(t, l, want, turned)
			}
		}
	}
}

// TestP1701CanonIsOne asks whether all that is the same strategy has one Canon, and all else another one.
func TestP1701CanonIsOne(t *testing.T) {
	whose := map[string]int{} // how many lists have a Canon, by its text
	for _, l := range forms(2, 9, 5) {
		form, turned, _ := Canon(l)
		if !Same(form, form) || form[0].Sign != 1 {
			t.Errorf("Canon of %v: %v", l, form)
		}
		checkCanon(t, form, form, false)
		checkCanon(t, Turned(form), form, true)
		checkCanon(t, Turned(l), form, !turned)
		for _, other := range orders(l) {
			checkCanon(t, other, form, turned)
		}
		if double := slices.Clone(l); !slices.ContainsFunc(l, func(leg Leg) bool { return leg.Ratio > 2 }) {
			for i := range double {
				double[i].Ratio *= 2
			}
			checkCanon(t, double, form, turned)
		}
		whose[Text(form)]++
	}
	// of 64 rows of ratios two divides 8, and three divides 1; of 8 rows of signs half are turned
	if want := (64 - 8 - 1) * 4; len(whose) != want {
		t.Errorf("%d forms; want %d", len(whose), want)
	}
}

func TestP1701SameIsLegByLeg(t *testing.T) {
	lists := [][]Leg{
		nil,
		made(1, 1, 1),
		made(2, 1, 1),
		made(1, -1, 1),
		made(1, 1, 2),
		made(1, 1, 1, 2, 1, 1),
		made(2, 1, 1, 1, 1, 1),
		made(1, 1, 2, 2, 1, 2), // Canon is one, the legs are not
		made(1, -1, 1, 2, -1, 1),
		made(1, 1, 1, 2, -1, 1),
		made(1, 1, 1, 2, 1, 2),
		made(1, 1, 1, 3, 1, 1),
		made(1, 1, 1, 2, 1, 1, 3, 1, 1),
		made(1, 1, 1, 2, 1, 1, 3, 1, 1, 4, 1, 1),
		made(0, 0, 0),
		made(least, least, least, most, most, most),
		made(least, least, least, most, most, most-1),
	}
	for i, a := range lists {
		for j, b := range lists {
			if got := Same(a, slices.Clone(b)); got != (i == j) {
				t.Errorf("Same of %v and %v: %v", a, b, got)
			}
		}
	}
	if !Same(nil, []Leg{}) || !Same([]Leg{}, nil) {
		t.Error("no list and an empty one are the same")
	}
	if l := good(4); !Same(l[:2], l[:2:2]) || Same(l[:2], l[:3]) || Same(l[:3], l[:2]) {
		t.Error("Same looks behind the end")
	}
}

func TestP1701TurnedTurnsAllSigns(t *testing.T) {
	for n := range 5 {
		for _, l := range forms([]int{3, 1, 9, 2}[:n]...) {
			var want []Leg
			for _, leg := range l {
				want = append(want, Leg{leg.Series, map[int]int{1: -1, -1: 1}[leg.Sign], leg.Ratio})
			}
			turned := Turned(l)
			if !slices.Equal(turned, want) {
				t.Fatalf("Turned of %v: %v", l, turned)
			}
			if back := Turned(turned); !slices.Equal(back, l) {
				t.Fatalf("Turned of %v: %v", turned, back)
			}
		}
	}
	if l := made(0, 1, 9, 0, -1, -9); !slices.Equal(Turned(l), made(0, -1, 9, 0, 1, -9)) {
		t.Errorf("Turned of %v: %v", l, Turned(l))
	}
}

func TestP1701Text(t *testing.T) {
	for _, c := range []struct {
		l    []Leg
		want string
	}{
		{made(1, 1, 1, 2, -1, 4), "+1*1 -4*2"},
		{made(2, -1, 4, 1, 1, 1), "-4*2 +1*1"}, // as they stand, not by Series
		{made(2, 1, 2, 1, 1, 4), "+2*2 +4*1"},  // nor divided
		{made(10, -1, 3, 64, -1, 2), "-3*10 -2*64"},
		{made(7, 1, 1, 8, -1, 2, 9, 1, 1), "+1*7 -2*8 +1*9"},
		{made(4, 1, 1, 3, -1, 1, 2, -1, 1, 1, 1, 1), "+1*4 -1*3 -1*2 +1*1"},
		{made(most, 1, 4, 1<<32+1, -1, 3), "+4*9223372036854775807 -3*4294967297"},
	} {
		if got := Text(c.l); got != c.want {
			t.Errorf("Text of %v: %q; want %q", c.l, got, c.want)
		}
	}
	for _, l := range forms(12, 3, 5) {
		var want string
		for i, leg := range l {
			if i > 0 {
				want += " "
			}
			want += fmt.Sprintf("%+d*%d", int64(leg.Sign)*leg.Ratio, leg.Series)
		}
		if got := Text(l); got != want {
			t.Errorf("Text of %v: %q; want %q", l, got, want)
		}
	}
}

// checkNet asks whether Net tells this.
func checkNet(t *testing.T, l []Leg, prices []int64, want int64, wrong api.Errno) {
	t.Helper()
	if net, err := Net(l, prices); net != want || err != wrong {
		t.Errorf("Net of %v at %v: %d, %v; want %d, %v", l, prices, net, err, want, wrong)
	}
}

func TestP1701NetWordForWord(t *testing.T) {
	vertical := made(1, 1, 1, 2, -1, 1)
	for _, c := range []struct {
		l      []Leg
		prices []int64
		want   int64
		wrong  api.Errno
	}{
		{vertical, []int64{10, 4}, 6, api.OK},
		{vertical, []int64{4, 10}, -6, api.OK},
		{vertical, []int64{0, 0}, 0, api.OK},
		{vertical, []int64{-3, -5}, 2, api.OK},
		{Turned(vertical), []int64{10, 4}, -6, api.OK},
		{made(1, 1, 1, 2, -1, 2), []int64{10, 4}, 2, api.OK},
		{made(2, -1, 2, 1, 1, 1), []int64{10, 4}, -16, api.OK}, // prices go by place, not by Series
		{made(1, 1, 4, 2, 1, 4), []int64{10, 4}, 56, api.OK},   // ratios as they stand
		{made(1, 1, 1, 2, -1, 2, 3, 1, 1), []int64{30, 20, 12}, 2, api.OK},
		{made(1, 1, 4, 2, 1, 4, 3, 1, 4, 4, 1, 4), []int64{1000000, 1000000, 1000000, 1000000}, 16000000, api.OK},
		{made(1, -1, 4, 2, -1, 4, 3, -1, 4, 4, -1, 4), []int64{1000000, 1000000, 1000000, 1000000}, -16000000, api.OK},
		{vertical, nil, 0, api.ErrArg},
		{vertical, []int64{10}, 0, api.ErrArg},
		{vertical, []int64{10, 4, 0}, 0, api.ErrArg},
		{nil, nil, 0, api.ErrArg},
		{made(1, 1, 1), []int64{10}, 0, api.ErrArg},
		{made(1, 1, 1, 1, -1, 1), []int64{10, 4}, 0, api.ErrArg},
		{made(1, 1, 1, 2, -1, 5), []int64{10, 4}, 0, api.ErrArg},
		{made(1, 1, 4, 2, 1, 5), []int64{most, most}, 0, api.ErrArg}, // ahead of ErrRange
		{made(1, 1, 4, 2, 1, 4), []int64{most}, 0, api.ErrArg},
		{made(1, 1, 4, 2, 1, 4), []int64{most, most, most}, 0, api.ErrArg},
		{made(1, 1, 1, 2, 1, 1, 3, 1, 1, 4, 1, 1, 5, 1, 1), []int64{1, 1, 1, 1, 1}, 0, api.ErrArg},
	} {
		checkNet(t, c.l, c.prices, c.want, c.wrong)
	}
}

func TestP1701NetAtTheEnds(t *testing.T) {
	both, vertical := made(1, 1, 1, 2, 1, 1), made(1, 1, 1, 2, -1, 1)
	for _, c := range []struct {
		l      []Leg
		prices []int64
		want   int64
		wrong  api.Errno
	}{
		{both, []int64{most, 0}, most, api.OK},
		{both, []int64{least, 0}, least, api.OK},
		{both, []int64{most - 1, 1}, most, api.OK},
		{both, []int64{most, 1}, 0, api.ErrRange},
		{both, []int64{least + 1, -1}, least, api.OK},
		{both, []int64{least, -1}, 0, api.ErrRange},
		{both, []int64{least, most}, -1, api.OK},
		{vertical, []int64{-1, most}, least, api.OK},
		{vertical, []int64{-2, most}, 0, api.ErrRange},
		{vertical, []int64{-1 << 62, 1 << 62}, least, api.OK},
		{vertical, []int64{-1, least}, 0, api.ErrRange}, // the product is none, though the sum would be
		{Turned(vertical), []int64{least, 0}, 0, api.ErrRange},
		{Turned(vertical), []int64{least + 1, 0}, most, api.OK},
		{made(1, 1, 4, 2, -1, 4), []int64{1 << 61, 5}, 0, api.ErrRange},
		{made(1, 1, 4, 2, -1, 4), []int64{1<<61 - 1, 5}, 1<<63 - 24, api.OK},
		{made(1, 1, 4, 2, -1, 4), []int64{-1 << 61, 0}, least, api.OK},
		{made(1, -1, 4, 2, -1, 4), []int64{1 << 61, 0}, least, api.OK}, // of Sign, Ratio and price, not of two of them
		{made(1, -1, 2, 2, -1, 4), []int64{1 << 62, 0}, least, api.OK},
		{made(1, 1, 1, 2, -1, 4), []int64{0, 1 << 61}, least, api.OK},
		{made(1, 1, 1, 2, -1, 4), []int64{0, -1 << 61}, 0, api.ErrRange},
		{made(1, 1, 3, 2, 1, 1), []int64{most / 3, 1}, most, api.OK}, // three divides most less 1
		{made(1, 1, 3, 2, 1, 1), []int64{most/3 + 1, -3}, 0, api.ErrRange},
		{made(1, 1, 1, 2, 1, 1, 3, -1, 1), []int64{1 << 62, 1 << 62, 1 << 62}, 0, api.ErrRange}, // a sum so far
		{made(1, 1, 1, 3, -1, 1, 2, 1, 1), []int64{1 << 62, 1 << 62, 1 << 62}, 1 << 62, api.OK},
		{made(1, 1, 1, 2, 1, 1, 3, 1, 1), []int64{least, -1, 1}, 0, api.ErrRange},
		{made(1, 1, 1, 2, 1, 1, 3, 1, 1), []int64{least, 1, -1}, least, api.OK},
		{made(1, 1, 1, 2, 1, 1, 3, 1, 1, 4, 1, 4), []int64{1, 1, 1, most}, 0, api.ErrRange},
		{made(1, 1, 1, 2, 1, 1, 3, 1, 1, 4, 1, 1), []int64{1, 1, 1, most - 2}, 0, api.ErrRange},
		{made(1, 1, 1, 2, 1, 1, 3, 1, 1, 4, 1, 1), []int64{1, 1, 1, most - 3}, most, api.OK},
	} {
		checkNet(t, c.l, c.prices, c.want, c.wrong)
	}
}

// ends tells numbers about both ends, about their parts by each ratio, and about 0.
func ends() []int64 {
	var out []int64
	for _, end := range []int64{0, 1000000, most, most / 2, most / 3, most / 4, least, least / 2, least / 3, least / 4} {
		for by := int64(-1); by <= 1; by++ {
			out = append(out, end+by) // beyond an end it is the other one
		}
	}
	return out
}

func TestP1701NetIsThePlainReading(t *testing.T) {
	check := func(l []Leg, prices []int64) {
		want, ok := plainNet(l, prices)
		wrong := api.OK
		if !ok {
			wrong = api.ErrRange
		}
		checkNet(t, l, prices, want, wrong)
	}
	for _, l := range forms(5, 2) {
		for _, a := range ends() {
			for _, b := range ends() {
				check(l, []int64{a, b})
			}
		}
	}
	state := uint32(1701)
	next := func(n int) int {
		state = state*1664525 + 1013904223
		return int(state>>8) % n
	}
	longer, prices := slices.Concat(forms(8, 1, 6), forms(4, 3, 2, 1)), ends()
	for range 200000 {
		l := longer[next(len(longer))]
		var at []int64
		for range l {
			if next(2) == 0 {
				at = append(at, prices[next(len(prices))])
			} else {
				at = append(at, int64(next(2000001)-1000000))
			}
		}
		check(l, at)
	}
}

// TestW4WhoSellsHasWhatWhoBuysPays asks about the net of what is turned, and of Canon.
func TestW4WhoSellsHasWhatWhoBuysPays(t *testing.T) {
	for _, l := range forms(5, 2, 9) {
		prices := []int64{1000, 1, 30}
		net, _ := Net(l, prices)
		checkNet(t, Turned(l), prices, -net, api.OK)
		form, turned, _ := Canon(l)
		units := l[1].Ratio / form[0].Ratio // of Canon in one of l; 2 is the second here and the first there
		if turned {
			units = -units
		}
		if once, wrong := Net(form, []int64{1, 1000, 30}); net != units*once || wrong != api.OK {
			t.Errorf("%v costs %d, Canon %d, %v", l, net, once, wrong)
		}
	}
}

// strange tells legs that are of all kinds, most of which may not be.
func strange() [][]Leg {
	numbers := []int64{0, 1, -1, 2, 5, 1 << 32, most, least}
	out := [][]Leg{nil, {}, good(2), good(3), good(4), make([]Leg, 5000)}
	for _, a := range numbers {
		for _, b := range numbers {
			for _, c := range numbers {
				out = append(out, made(a, b, c), made(a, b, c, 1, 1, 1), made(1, 1, 1, a, b, c), made(a, b, c, c, a, b, b, c, a, a, a, a, b, b, b))
			}
		}
	}
	return out
}

func TestP1AnythingIsAnswered(t *testing.T) {
	for _, l := range strange() {
		at, want := plainCheck(l)
		checkCheck(t, l, at, want)
		Text(l)
		Turned(l)
		if !Same(l, slices.Clone(l)) {
			t.Errorf("%v is not the same as itself", l)
		}
		for _, prices := range [][]int64{nil, {}, {1}, {most, least}, {least, least, least}, make([]int64, len(l)), make([]int64, 5000)} {
			if net, wrong := Net(l, prices); wrong != api.OK && net != 0 {
				t.Errorf("Net of %v at %v: %d, %v", l, prices, net, wrong)
			}
		}
	}
}

// spoil writes over all of a list, its spare room too.
func spoil[T any](l []T, bad T) {
	l = l[:cap(l)]
	for i := range l {
		l[i] = bad
	}
}

// roomy tells a copy of l with spare room behind it, and the whole of that memory.
func roomy[T any](l []T) (view, whole []T) {
	whole = make([]T, len(l)+6)
	copy(whole, l)
	return whole[:len(l)], whole
}

func TestP2ListsStayAsTheyAre(t *testing.T) {
	for _, l := range strange() {
		view, whole := roomy(l)
		was := slices.Clone(whole)
		prices, all := roomy([]int64{most, least, 3, 4}[:min(len(l), 4)])
		had := slices.Clone(all)
		Check(view)
		Canon(view)
		Same(view, view)
		Turned(view)
		Text(view)
		Net(view, prices)
		if !slices.Equal(whole, was) || !slices.Equal(all, had) {
			t.Errorf("%v at %v is changed to %v at %v", was, had, whole, all)
		}
	}
}

func TestP2AnswersAreNewMemory(t *testing.T) {
	bad := Leg{-9, -9, -9}
	for _, l := range [][]Leg{made(1, 1, 1, 2, 1, 3), made(1, -1, 1, 2, 1, 3), good(2), good(3), good(4)} {
		want, turned := plainCanon(l)
		for _, answer := range []func(l []Leg) []Leg{
			func(l []Leg) []Leg { form, _, _ := Canon(l); return form },
			Turned,
		} {
			view, whole := roomy(l)
			was := slices.Clone(whole)
			first := answer(view)
			told := slices.Clone(first)
			second := answer(view)
			spoil(first, bad)
			if !slices.Equal(whole, was) || !slices.Equal(second, told) {
				t.Errorf("%v and %v share an answer's memory", whole, second)
			}
			spoil(whole, bad)
			if !slices.Equal(second, told) {
				t.Errorf("%v is of what was handed in", second)
			}
		}
		checkCanon(t, l, want, turned)
	}
}

// look tells all that the package answers about l.
func look(l []Leg, prices []int64) string {
	form, turned, err := Canon(l)
	net, wrong := Net(l, prices)
	return fmt.Sprint(Check(l), form, turned, err, Turned(l), Text(l), net, wrong, Same(l, form))
}

func TestP3P5TheSameCallsAnswerTheSame(t *testing.T) {
	var first []string
	prices := []int64{4, 9}
	for _, l := range strange() {
		first = append(first, look(l, prices))
	}
	for range 3 {
		for i, l := range strange() {
			if again := look(l, prices); again != first[i] {
				t.Errorf("%v: %s, ahead %s", l, again, first[i])
			}
		}
	}
}
