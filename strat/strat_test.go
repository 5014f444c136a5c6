package strat

import (
	"errors"
	"fmt"
	"math"
	"slices"
	"strings"
	"testing"

	"straddle/api"
	"straddle/dir"
	"straddle/grid"
	"straddle/legs"
	"straddle/series"
)

const (
	most  = math.MaxInt64
	least = math.MinInt64
)

// made tells legs of series, sign and ratio, one leg behind the other.
func made(x ...int64) []legs.Leg {
	var l []legs.Leg
	for ; len(x) > 0; x = x[3:] {
		l = append(l, legs.Leg{Series: int(x[0]), Sign: int(x[1]), Ratio: x[2]})
	}
	return l
}

// numbers are those that a strategy or a series may have, and what is none.
func numbers() []int {
	l := []int{least, -1 << 32, -33, -2, -1, 0, 1<<32 + 1, most - 1, most}
	for n := range 40 {
		l = append(l, n+1)
	}
	return l
}

// strange tells legs that are of all kinds, most of which may not be.
func strange() [][]legs.Leg {
	out := [][]legs.Leg{nil, {}, made(1, 1, 1, 2, 1, 1, 3, 1, 1, 4, 1, 1, 5, 1, 1), make([]legs.Leg, 5000)}
	few := []int64{0, 1, -1, 2, 5, 1 << 32, most, least}
	for _, a := range few {
		for _, b := range few {
			for _, c := range few {
				out = append(out, made(a, b, c), made(a, b, c, 1, 1, 1), made(1, 1, 1, a, b, c), made(2, 1, 2, c, b, a, 1, -1, 2))
			}
		}
	}
	return out
}

// look tells all that can be asked of r.
func look(r *Registry) string {
	var b strings.Builder
	fmt.Fprintln(&b, r.Len())
	for _, n := range numbers() {
		l, ok := r.Legs(n)
		fmt.Fprintln(&b, n, l, ok, r.With(n))
		id, turned, ok := r.Find(l)
		fmt.Fprintln(&b, id, turned, ok)
	}
	return b.String()
}

// checkAdd asks whether Add tells this of l, and Find the same behind it.
func checkAdd(t *testing.T, r *Registry, l []legs.Leg, id int, turned, fresh bool) {
	t.Helper()
	size := r.Len()
	if fresh {
		checkFind(t, r, l, 0, false)
		size++
	}
	gotID, gotTurned, gotFresh, err := r.Add(l)
	if gotID != id || gotTurned != turned || gotFresh != fresh || err != nil {
		t.Errorf("Add of %v: %d, %v, %v, %v; want %d, %v, %v", l, gotID, gotTurned, gotFresh, err, id, turned, fresh)
	}
	if r.Len() != size {
		t.Errorf("Len behind Add of %v: %d; want %d", l, r.Len(), size)
	}
	checkFind(t, r, l, id, turned)
}

// checkFind asks whether Find tells this of l; 0: that it isn't there.
func checkFind(t *testing.T, r *Registry, l []legs.Leg, id int, turned bool) {
	t.Helper()
	gotID, gotTurned, ok := r.Find(l)
	if gotID != id || gotTurned != turned || ok != (id != 0) {
		t.Errorf("Find of %v: %d, %v, %v; want %d, %v", l, gotID, gotTurned, ok, id, turned)
	}
}

// checkRefused asks whether Add refuses l so, and changes nothing.
func checkRefused(t *testing.T, r *Registry, l []legs.Leg, part string, at int, want api.Errno) {
	t.Helper()
	was := look(r)
	id, turned, fresh, err := r.Add(l)
	if id != 0 || turned || fresh {
		t.Errorf("Add of %v: %d, %v, %v beside an error", l, id, turned, fresh)
	}
	f, ok := err.(*api.Fault)
	if !ok || f.Part != part || f.At != at || f.Err != want || !errors.Is(err, want) {
		t.Errorf("Add of %v: %v; want a fault %s of %v at %d", l, err, part, want, at)
	}
	if look(r) != was {
		t.Errorf("Add of %v, refused, changed something", l)
	}
	checkFind(t, r, l, 0, false)
}

// checkLegs asks whether Legs tells this; nil: that there are none.
func checkLegs(t *testing.T, r *Registry, id int, want []legs.Leg) {
	t.Helper()
	if l, ok := r.Legs(id); !slices.Equal(l, want) || ok != (want != nil) {
		t.Errorf("Legs(%d): %v, %v; want %v", id, l, ok, want)
	}
}

// checkWith asks whether With tells these numbers.
func checkWith(t *testing.T, r *Registry, series int, want ...int) {
	t.Helper()
	if ids := r.With(series); !slices.Equal(ids, want) {
		t.Errorf("With(%d): %v; want %v", series, ids, want)
	}
}

// full tells a registry of as many strategies as there may be: number n of series n and n + 1.
func full(t *testing.T) *Registry {
	t.Helper()
	r := New()
	for n := 1; n <= 32; n++ {
		checkAdd(t, r, made(int64(n), 1, 1, int64(n+1), -1, 2), n, false, true)
	}
	return r
}

func TestP1801NothingIsThereAhead(t *testing.T) {
	for _, r := range []*Registry{New(), {}} {
		for _, n := range numbers() {
			checkLegs(t, r, n, nil)
			checkWith(t, r, n)
		}
		if r.Len() != 0 {
			t.Errorf("Len: %d", r.Len())
		}
		checkFind(t, r, made(1, 1, 1, 2, -1, 1), 0, false)
		checkFind(t, r, made(1, -1, 1, 2, -1, 1), 0, false)
		checkAdd(t, r, made(1, 1, 1, 2, -1, 1), 1, false, true)
	}
}

func TestP1801NumbersAndWhatIsThere(t *testing.T) {
	r := New()
	checkAdd(t, r, made(5, 1, 2, 2, -1, 4), 1, true, true)
	checkAdd(t, r, made(5, 1, 2, 2, -1, 4), 1, true, false)
	checkAdd(t, r, made(2, 1, 2, 5, -1, 1), 1, false, false) // its Canon
	checkAdd(t, r, made(2, -1, 2, 5, 1, 1), 1, true, false)
	checkAdd(t, r, made(5, -1, 1, 2, 1, 2), 1, false, false)
	checkAdd(t, r, made(5, -1, 2, 2, 1, 4), 1, false, false)
	checkAdd(t, r, made(2, 1, 2, 5, 1, 1), 2, false, true) // other signs
	checkAdd(t, r, made(2, 1, 1, 5, -1, 2), 3, false, true)
	checkAdd(t, r, made(2, 1, 1, 5, -1, 1), 4, false, true) // other ratios
	checkAdd(t, r, made(2, 1, 3, 5, -1, 3), 4, false, false)
	checkAdd(t, r, made(2, 1, 2, 6, -1, 1), 5, false, true)           // another series
	checkAdd(t, r, made(6, -1, 1, 5, -1, 1, 2, -1, 2), 6, true, true) // one leg more
	checkAdd(t, r, made(6, 1, 3, 2, 1, 4, 5, 1, 2, 9, 1, 1), 7, false, true)
	checkAdd(t, r, made(2, -1, 2, 5, -1, 1), 2, true, false)
	checkAdd(t, r, made(9, -1, 1, 6, -1, 3, 5, -1, 2, 2, -1, 4), 7, true, false)
	checkFind(t, r, made(2, 1, 2, 5, -1, 1, 7, 1, 1), 0, false)
	checkFind(t, r, made(2, -1, 2, 7, -1, 1), 0, false)
	for n, want := range [][]legs.Leg{
		nil,
		made(2, 1, 2, 5, -1, 1),
		made(2, 1, 2, 5, 1, 1),
		made(2, 1, 1, 5, -1, 2),
		made(2, 1, 1, 5, -1, 1),
		made(2, 1, 2, 6, -1, 1),
		made(2, 1, 2, 5, 1, 1, 6, 1, 1),
		made(2, 1, 4, 5, 1, 2, 6, 1, 3, 9, 1, 1),
		nil,
	} {
		checkLegs(t, r, n, want)
	}
	checkWith(t, r, 2, 1, 2, 3, 4, 5, 6, 7)
	checkWith(t, r, 5, 1, 2, 3, 4, 6, 7)
	checkWith(t, r, 6, 5, 6, 7)
	checkWith(t, r, 9, 7)
	for _, n := range []int{least, -2, -1, 0, 1, 3, 4, 7, 8, 10, 1<<32 + 2, most} {
		checkWith(t, r, n)
	}
}

func TestP1801SeriesOfAnyNumber(t *testing.T) {
	r := New()
	checkAdd(t, r, made(most, 1, 1, 1, 1, 1), 1, false, true)
	checkAdd(t, r, made(65, 1, 1, 1<<32+1, 1, 1), 2, false, true) // how many series there are is not asked here
	checkAdd(t, r, made(65, 1, 1, 1, 1, 1), 3, false, true)
	checkLegs(t, r, 1, made(1, 1, 1, most, 1, 1))
	checkWith(t, r, most, 1)
	checkWith(t, r, 1<<32+1, 2)
	checkWith(t, r, 1, 1, 3)
	checkWith(t, r, 65, 2, 3)
}

// TestP1801CanonsError asks for the refusals of legs, of an empty registry, one with room, and a full one.
func TestP1801CanonsError(t *testing.T) {
	some := New()
	checkAdd(t, some, made(1, 1, 1, 2, -1, 1), 1, false, true)
	for _, r := range []*Registry{New(), some, full(t)} {
		for _, c := range []struct {
			l    []legs.Leg
			at   int
			want api.Errno
		}{
			{nil, 0, api.ErrArg},
			{[]legs.Leg{}, 0, api.ErrArg},
			{made(1, 1, 1), 1, api.ErrArg},
			{made(1, 1, 1, 2, 1, 1, 3, 1, 1, 4, 1, 1, 5, 1, 1), 4, api.ErrArg},
			{make([]legs.Leg, 100), 4, api.ErrArg},
			{made(0, 1, 1, 2, 1, 1), 0, api.ErrArg},
			{made(1, 1, 1, -1, 1, 1), 1, api.ErrArg},
			{made(1, 1, 1, 2, 0, 1), 1, api.ErrArg},
			{made(1, 2, 1, 2, 1, 1), 0, api.ErrArg},
			{made(1, 1, 1, 2, 1, 1, 3, 1, 5), 2, api.ErrArg},
			{made(1, -1, 0, 2, 1, 1), 0, api.ErrArg},
			{made(1, 1, 1, 1, -1, 1), 1, api.ErrTwice},
			{made(9, -1, 1, 2, 1, 1, 3, 1, 1, 2, 1, 1), 3, api.ErrTwice},
			{made(1, 1, 1, 1, 1, 1, 0, 0, 0), 1, api.ErrTwice},
		} {
			checkRefused(t, r, c.l, "leg", c.at, c.want)
		}
		for _, l := range strange() {
			if f, ok := legs.Check(l).(*api.Fault); ok {
				checkRefused(t, r, l, f.Part, f.At, f.Err.(api.Errno))
			}
		}
	}
}

func TestP1801FullAtItsBound(t *testing.T) {
	r := full(t)
	if r.Len() != 32 {
		t.Fatalf("Len: %d", r.Len())
	}
	for _, l := range [][]legs.Leg{made(1, 1, 1, 2, -1, 1), made(1, -1, 1, 2, -1, 2), made(1, 1, 1, 3, -1, 2), made(33, 1, 1, 34, -1, 2), made(1, 1, 1, 2, -1, 2, 3, 1, 1)} {
		checkRefused(t, r, l, "strat", 32, api.ErrFull)
	}
	for n := int64(1); n <= 32; n++ { // what is there is told yet
		checkAdd(t, r, made(n, 1, 1, n+1, -1, 2), int(n), false, false)
		checkAdd(t, r, made(n+1, 1, 4, n, -1, 2), int(n), true, false)
		checkLegs(t, r, int(n), made(n, 1, 1, n+1, -1, 2))
	}
	checkLegs(t, r, 33, nil)
	checkWith(t, r, 1, 1)
	checkWith(t, r, 2, 1, 2)
	checkWith(t, r, 32, 31, 32)
	checkWith(t, r, 33, 32)
	checkWith(t, r, 34)
}

func TestP1801FaultsAreTheCallersOwn(t *testing.T) {
	r := full(t)
	for _, c := range []struct {
		l    []legs.Leg
		want string
	}{
		{made(1, 1, 1, 2, -1, 1), "strat 32: full"},
		{made(1, 1, 1, 1, -1, 1), "leg 1: twice"},
	} {
		for range 2 {
			_, _, _, err := r.Add(c.l)
			if err == nil || err.Error() != c.want {
				t.Fatalf("Add of %v: %v; want %s", c.l, err, c.want)
			}
			*err.(*api.Fault) = api.Fault{Part: "none"}
		}
	}
}

// plainForm tells legs that Check takes in one form, as a text, and whether that is them turned.
func plainForm(l []legs.Leg) (string, bool) {
	first, by := l[0], int64(1)
	for _, leg := range l {
		if leg.Series < first.Series {
			first = leg
		}
	}
	for d := int64(2); d <= 4; d++ {
		if !slices.ContainsFunc(l, func(leg legs.Leg) bool { return leg.Ratio%d != 0 }) {
			by = d
		}
	}
	var words []string
	for _, leg := range l {
		words = append(words, fmt.Sprintf("%3d %+d %d", leg.Series, leg.Sign*first.Sign, leg.Ratio/by))
	}
	slices.Sort(words)
	return strings.Join(words, ", "), first.Sign == -1
}

// walk tells numbers below n, each time the same row of them.
func walk(seed uint32) func(n int) int {
	return func(n int) int {
		seed = seed*1664525 + 1013904223
		return int(seed>>8) % n
	}
}

// drawn tells legs as next has it, of which some may not be.
func drawn(next func(n int) int, series int) []legs.Leg {
	var l []legs.Leg
	for range 2 + next(3) {
		l = append(l, legs.Leg{Series: 1 + next(series), Sign: 1 - 2*next(2), Ratio: int64(1 + next(2))})
	}
	if next(9) == 0 {
		l[next(len(l))].Sign = 0
	}
	return l
}

// TestP1801IsThePlainModel adds legs by long walks, and holds all that is told against the forms in the order in which they came.
func TestP1801IsThePlainModel(t *testing.T) {
	next := walk(1801)
	met := map[string]int{} // how often each was answered
	for range 60 {
		r, series := New(), 2+next(6)
		var known []string
		for range 150 {
			if t.Failed() { // enough is told
				return
			}
			l := drawn(next, series)
			if f, ok := legs.Check(l).(*api.Fault); ok {
				met["leg"]++
				checkRefused(t, r, l, f.Part, f.At, f.Err.(api.Errno))
				continue
			}
			form, turned := plainForm(l)
			switch at := slices.Index(known, form); {
			case at >= 0:
				met["known"]++
				checkAdd(t, r, l, at+1, turned, false)
			case len(known) == 32:
				met["full"]++
				checkRefused(t, r, l, "strat", 32, api.ErrFull)
			default:
				met["fresh"]++
				known = append(known, form)
				checkAdd(t, r, l, len(known), turned, true)
			}
			checkModel(t, r, known)
		}
	}
	for _, what := range []string{"leg", "known", "full", "fresh"} {
		if met[what] < 500 {
			t.Errorf("only %d were %s", met[what], what)
		}
	}
}

// checkModel asks whether r has these forms, in this order.
func checkModel(t *testing.T, r *Registry, known []string) {
	t.Helper()
	with := map[int][]int{}
	for i, form := range known {
		l, ok := r.Legs(i + 1)
		if !ok {
			t.Fatalf("Legs(%d): none of %d", i+1, len(known))
		}
		if got, turned := plainForm(l); got != form || turned || !slices.IsSortedFunc(l, func(a, b legs.Leg) int { return a.Series - b.Series }) {
			t.Errorf("Legs(%d): %v; want %s", i+1, l, form)
		}
		for _, leg := range l {
			with[leg.Series] = append(with[leg.Series], i+1)
		}
	}
	for series := range 10 {
		checkWith(t, r, series, with[series]...)
	}
}

// TestW4WhoIsTurnedPaysTheOtherWay asks about the net of what is handed in and of what is there.
func TestW4WhoIsTurnedPaysTheOtherWay(t *testing.T) {
	next := walk(4)
	prices := []int64{0, 7, 1000, 33, 250, 1} // by Series
	net := func(l []legs.Leg) int64 {
		var at []int64
		for _, leg := range l {
			at = append(at, prices[leg.Series])
		}
		sum, wrong := legs.Net(l, at)
		if wrong != api.OK {
			t.Fatalf("Net of %v: %v", l, wrong)
		}
		return sum
	}
	count := 0
	for range 100 {
		r := New()
		for range 32 {
			l := drawn(next, 5)
			id, turned, _, err := r.Add(l)
			if err != nil {
				continue
			}
			count++
			form, _ := r.Legs(id)
			i := slices.IndexFunc(l, func(leg legs.Leg) bool { return leg.Series == form[0].Series })
			units := l[i].Ratio / form[0].Ratio
			if turned {
				units = -units
			}
			if net(l) != units*net(form) {
				t.Errorf("%v costs %d, number %d, %v, %d (turned: %v)", l, net(l), id, form, net(form), turned)
			}
		}
	}
	if count < 500 {
		t.Errorf("only %d were asked about", count)
	}
}

func TestP1P9AnythingIsAnswered(t *testing.T) {
	r := full(t)
	was := look(r)
	for _, l := range strange() {
		checkFind(t, New(), l, 0, false)
		r.Find(l)
		for _, s := range [][]series.Series{nil, {}, make([]series.Series, len(l)), make([]series.Series, 5000)} {
			Kind(l, s)
		}
	}
	for _, n := range []int{least, -1, 0, 33, 34, 1 << 32, 1<<32 + 1, most} {
		checkLegs(t, r, n, nil)
	}
	if look(r) != was {
		t.Error("what asks alone changed something")
	}
}

// spoil writes over all of a list, its spare room too.
func spoil[T any](l []T, bad T) {
	l = l[:cap(l)]
	for i := range l {
		l[i] = bad
	}
}

// roomy tells a copy of l with spare room behind it, and the whole of that memory.
func roomy[T any](l []T) (view, whole []T) {
	whole = make([]T, len(l)+6)
	copy(whole, l)
	return whole[:len(l)], whole
}

func TestP2ListsStayAsTheyAreAndAreNotKept(t *testing.T) {
	bad := legs.Leg{Series: -9, Sign: -9, Ratio: -9}
	for _, l := range append(strange(), made(1, 1, 1, 2, -1, 2), made(9, -1, 2, 3, 1, 4, 6, 1, 2), made(4, -1, 2, 3, 1, 2, 2, -1, 2, 1, 1, 3)) {
		r := New()
		view, whole := roomy(l)
		had := slices.Clone(whole)
		s, all := roomy(make([]series.Series, len(l)))
		for i := range s {
			s[i] = of(1, int64(300-i), series.Call)
		}
		were := slices.Clone(all)
		r.Add(view)
		r.Find(view)
		Kind(view, s)
		if !slices.Equal(whole, had) || !slices.Equal(all, were) {
			t.Errorf("%v with %v is changed to %v with %v", had, were, whole, all)
		}
		now := look(r)
		spoil(whole, bad)
		if look(r) != now {
			t.Errorf("of %v what was handed in is kept", l)
		}
	}
}

// TestP2KindLeavesItsSeries asks for kinds of which the legs stand in another order than their strikes.
func TestP2KindLeavesItsSeries(t *testing.T) {
	l, s := made(1, 1, 2, 2, -1, 1, 3, -1, 1), []series.Series{of(1, 110, series.Call), of(1, 120, series.Call), of(1, 100, series.Call)}
	hadL, hadS := slices.Clone(l), slices.Clone(s)
	for range 3 {
		checkKind(t, l, s, "butterfly")
	}
	if !slices.Equal(l, hadL) || !slices.Equal(s, hadS) {
		t.Errorf("%v with %v is changed to %v with %v", hadL, hadS, l, s)
	}
}

func TestP2AnswersAreNewMemory(t *testing.T) {
	r := full(t)
	was := look(r)
	for n := 1; n <= 33; n++ {
		one, _ := r.Legs(n)
		two, _ := r.Legs(n)
		told := slices.Clone(two)
		spoil(one, legs.Leg{Series: -9, Sign: -9, Ratio: -9})
		if !slices.Equal(two, told) {
			t.Errorf("two answers of Legs(%d) share memory", n)
		}
		a, b := r.With(n), r.With(n)
		ids := slices.Clone(b)
		spoil(a, -9)
		if !slices.Equal(b, ids) {
			t.Errorf("two answers of With(%d) share memory", n)
		}
	}
	if look(r) != was {
		t.Error("an answer is of what is kept")
	}
}

func TestP3TheSameCallsAnswerTheSame(t *testing.T) {
	var first string
	for i := range 3 {
		var b strings.Builder
		r, next := New(), walk(3)
		for range 300 {
			id, turned, fresh, err := r.Add(drawn(next, 5))
			fmt.Fprintln(&b, id, turned, fresh, err, look(r))
		}
		if i == 0 {
			first = b.String()
		}
		if b.String() != first {
			t.Fatal("the same calls answer something else")
		}
	}
}

func TestP7EachRegistryIsItsOwn(t *testing.T) {
	a, b := New(), New()
	checkAdd(t, a, made(1, 1, 1, 2, -1, 1), 1, false, true)
	checkAdd(t, b, made(1, 1, 1, 3, -1, 1), 1, false, true)
	checkAdd(t, b, made(1, 1, 1, 2, -1, 1), 2, false, true)
	checkAdd(t, a, made(1, 1, 1, 3, -1, 1), 2, false, true)
	checkLegs(t, a, 1, made(1, 1, 1, 2, -1, 1))
	checkLegs(t, b, 1, made(1, 1, 1, 3, -1, 1))
	if New().Len() != 0 {
		t.Error("a new registry is not empty")
	}
}

// of tells a series of class AB.
func of(expiry, strike int64, right int) series.Series {
	return series.Series{Class: "AB", Expiry: expiry, Strike: strike, Right: right}
}

// checkKind asks whether Kind tells this.
func checkKind(t *testing.T, l []legs.Leg, s []series.Series, want string) {
	t.Helper()
	if got := Kind(l, s); got != want {
		t.Errorf("Kind of %v with %v: %q; want %q", l, s, got, want)
	}
}

func TestP1802KindWordForWord(t *testing.T) {
	c100, c110, p100, p110 := of(1, 100, series.Call), of(1, 110, series.Call), of(1, 100, series.Put), of(1, 110, series.Put)
	lateC100, lateC110, lateP100 := of(2, 100, series.Call), of(2, 110, series.Call), of(2, 100, series.Put)
	for _, c := range []struct {
		signs int64 // of the second leg; the first one's is 1
		a, b  int64 // ratios
		s     [2]series.Series
		want  string
	}{
		{-1, 1, 1, [2]series.Series{c100, c110}, "vertical"},
		{-1, 1, 1, [2]series.Series{c110, c100}, "vertical"},
		{-1, 1, 1, [2]series.Series{p100, p110}, "vertical"},
		{-1, 1, 2, [2]series.Series{c100, c110}, "ratio"},
		{-1, 2, 1, [2]series.Series{p110, p100}, "ratio"},
		{-1, 4, 3, [2]series.Series{c100, c110}, "ratio"},
		{1, 1, 1, [2]series.Series{c100, c110}, "other"},
		{1, 1, 2, [2]series.Series{c100, c110}, "other"},
		{1, 1, 1, [2]series.Series{c100, p100}, "straddle"},
		{1, 1, 1, [2]series.Series{p100, c100}, "straddle"},
		{1, 1, 1, [2]series.Series{c100, p110}, "strangle"},
		{1, 1, 1, [2]series.Series{c110, p100}, "strangle"},
		{1, 1, 1, [2]series.Series{p100, c110}, "strangle"},
		{-1, 1, 1, [2]series.Series{c100, p100}, "other"},
		{-1, 1, 1, [2]series.Series{c100, p110}, "other"},
		{-1, 1, 2, [2]series.Series{c100, p110}, "other"},
		{1, 1, 2, [2]series.Series{c100, p100}, "other"},
		{1, 3, 1, [2]series.Series{c110, p100}, "other"},
		{-1, 1, 1, [2]series.Series{c100, lateC100}, "calendar"},
		{-1, 1, 1, [2]series.Series{lateC100, c100}, "calendar"},
		{-1, 1, 1, [2]series.Series{lateP100, p100}, "calendar"},
		{-1, 1, 2, [2]series.Series{c100, lateC100}, "other"},
		{-1, 2, 1, [2]series.Series{c100, lateC100}, "other"},
		{1, 1, 1, [2]series.Series{c100, lateC100}, "other"},
		{-1, 1, 1, [2]series.Series{c100, lateC110}, "other"},
		{-1, 1, 1, [2]series.Series{c100, lateP100}, "other"},
		{1, 1, 1, [2]series.Series{c100, lateP100}, "other"},
		{1, 1, 1, [2]series.Series{p110, lateC100}, "other"},
	} {
		checkKind(t, made(1, 1, c.a, 2, c.signs, c.b), c.s[:], c.want)
		checkKind(t, made(7, 1, c.a, most, c.signs, c.b), c.s[:], c.want)
	}
}

func TestP1802KindOfWhatIsNotCanons(t *testing.T) {
	c100, c110, p100, late := of(1, 100, series.Call), of(1, 110, series.Call), of(1, 100, series.Put), of(2, 100, series.Call)
	two := []series.Series{c100, c110}
	for _, l := range [][]legs.Leg{
		made(2, 1, 1, 1, -1, 1),
		made(1, -1, 1, 2, 1, 1),
		made(1, 1, 2, 2, -1, 2),
		made(1, 1, 2, 2, -1, 4),
		made(1, 1, 3, 2, -1, 3),
		made(2, -1, 1, 1, 1, 1),
		made(0, 1, 1, 1, -1, 1),
		made(1, 1, 1, 1, -1, 1),
		made(1, 1, 1, 2, -1, 5),
		made(1, 1, 1, 2, -1, 0),
		made(1, 1, 1, 2, -2, 1),
		made(1, 2, 1, 2, -1, 1),
	} {
		checkKind(t, l, two, "other")
		checkKind(t, l, []series.Series{c100, late}, "other")
	}
	checkKind(t, made(2, 1, 1, 1, 1, 1), []series.Series{c100, p100}, "other")
	checkKind(t, made(1, -1, 1, 2, -1, 1), []series.Series{c100, p100}, "other")
	checkKind(t, made(1, 1, 2, 2, 1, 2), []series.Series{c100, p100}, "other")
	vertical := made(1, 1, 1, 2, -1, 1)
	for n := range 10 {
		s := make([]series.Series, n)
		for i := range s {
			s[i] = two[i%2]
		}
		want := "other"
		if n == 2 {
			want = "vertical"
		}
		checkKind(t, vertical, s, want)
		checkKind(t, nil, s, "other")
		checkKind(t, vertical[:1], s, "other")
	}
}

func TestP1802KindOfUnlikeClasses(t *testing.T) {
	for _, c := range []struct {
		l    []legs.Leg
		s    []series.Series
		want string
	}{
		{made(1, 1, 1, 2, -1, 1), []series.Series{of(1, 100, series.Call), of(1, 110, series.Call)}, "vertical"},
		{made(1, 1, 1, 2, -1, 2), []series.Series{of(1, 100, series.Call), of(1, 110, series.Call)}, "ratio"},
		{made(1, 1, 1, 2, 1, 1), []series.Series{of(1, 100, series.Call), of(1, 100, series.Put)}, "straddle"},
		{made(1, 1, 1, 2, 1, 1), []series.Series{of(1, 100, series.Call), of(1, 110, series.Put)}, "strangle"},
		{made(1, 1, 1, 2, -1, 1), []series.Series{of(1, 100, series.Call), of(2, 100, series.Call)}, "calendar"},
		{made(1, 1, 1, 2, -1, 2, 3, 1, 1), []series.Series{of(1, 100, series.Call), of(1, 110, series.Call), of(1, 120, series.Call)}, "butterfly"},
	} {
		checkKind(t, c.l, c.s, c.want)
		for i := range c.s {
			for _, class := range []string{"A", "ABC", "AC", "B"} {
				s := slices.Clone(c.s)
				s[i].Class = class
				checkKind(t, c.l, s, "other")
			}
		}
		for i := range c.s {
			c.s[i].Class = "Z9"
		}
		checkKind(t, c.l, c.s, c.want)
	}
}

// plainKind tells the kind of Canon's legs by the promise's words, one behind the other.
func plainKind(l []legs.Leg, s []series.Series) string {
	classes, expiries, strikes, rights := map[string]int{}, map[int64]int{}, map[int64]int{}, map[int]int{}
	shape := map[string]int{} // sign and ratio of each leg, by the strikes
	for i, leg := range l {
		classes[s[i].Class]++
		expiries[s[i].Expiry]++
		strikes[s[i].Strike]++
		rights[s[i].Right]++
		at := 0
		for _, o := range s {
			if o.Strike < s[i].Strike {
				at++
			}
		}
		shape[fmt.Sprintf("%d: %+d", at, int64(leg.Sign)*leg.Ratio)]++
	}
	has := func(words ...string) bool {
		return !slices.ContainsFunc(words, func(w string) bool { return shape[w] != 1 })
	}
	single := !slices.ContainsFunc(l, func(leg legs.Leg) bool { return leg.Ratio != 1 })
	unlike := len(l) == 2 && l[0].Sign+l[1].Sign == 0
	switch {
	case len(classes) != 1:
	case len(l) == 2 && len(expiries) == 1 && len(rights) == 1 && unlike && single:
		return "vertical"
	case len(l) == 2 && len(expiries) == 1 && len(rights) == 1 && unlike:
		return "ratio"
	case len(l) == 2 && len(expiries) == 1 && len(rights) == 2 && !unlike && single && len(strikes) == 1:
		return "straddle"
	case len(l) == 2 && len(expiries) == 1 && len(rights) == 2 && !unlike && single:
		return "strangle"
	case len(l) == 2 && len(expiries) == 2 && len(rights) == 1 && len(strikes) == 1 && unlike && single:
		return "calendar"
	case len(l) == 3 && len(expiries) == 1 && len(rights) == 1 && len(strikes) == 3 && (has("0: +1", "1: -2", "2: +1") || has("0: -1", "1: +2", "2: -1")):
		sum, mid := s[0].Strike+s[1].Strike+s[2].Strike, slices.Sorted(slices.Values([]int64{s[0].Strike, s[1].Strike, s[2].Strike}))[1]
		if sum == 3*mid {
			return "butterfly"
		}
	}
	return "other"
}

// formsOf tells all legs of n series, in this order, of which the first is bought.
func formsOf(n int, ratios int64) [][]legs.Leg {
	all := [][]legs.Leg{nil}
	for i := range n {
		var longer [][]legs.Leg
		for _, l := range all {
			for ratio := int64(1); ratio <= ratios; ratio++ {
				for _, sign := range []int{1, -1}[:min(i+1, 2)] {
					longer = append(longer, append(slices.Clone(l), legs.Leg{Series: i + 1, Sign: sign, Ratio: ratio}))
				}
			}
		}
		all = longer
	}
	return slices.DeleteFunc(all, func(l []legs.Leg) bool { // what two or three divides is no Canon
		form, _, _ := legs.Canon(l)
		return !legs.Same(form, l)
	})
}

// listed tells series of all that makes them unlike.
func listed(classes []string, expiries, strikes []int64) []series.Series {
	var out []series.Series
	for _, class := range classes {
		for _, expiry := range expiries {
			for _, strike := range strikes {
				out = append(out, series.Series{Class: class, Expiry: expiry, Strike: strike, Right: series.Call}, series.Series{Class: class, Expiry: expiry, Strike: strike, Right: series.Put})
			}
		}
	}
	return out
}

func TestP1802KindOfAllTwoIsThePlainReading(t *testing.T) {
	met := map[string]int{}
	all := listed([]string{"A", "B"}, []int64{1, 2, 100000}, []int64{1, 100, 1000000})
	for _, l := range formsOf(2, 4) {
		for _, a := range all {
			for _, b := range all {
				if t.Failed() { // enough is told
					return
				}
				if a == b { // two numbers have two series
					continue
				}
				want := plainKind(l, []series.Series{a, b})
				met[want]++
				checkKind(t, l, []series.Series{a, b}, want)
			}
		}
	}
	for _, kind := range []string{"vertical", "ratio", "straddle", "strangle", "calendar", "other"} {
		if met[kind] < 30 {
			t.Errorf("only %d of kind %s", met[kind], kind)
		}
	}
}

func TestP1802KindOfThreeIsThePlainReading(t *testing.T) {
	met := map[string]int{}
	all := listed([]string{"A"}, []int64{1, 2}, []int64{90, 100, 110, 130})
	for _, l := range formsOf(3, 3) {
		for _, a := range all {
			for _, b := range all {
				for _, c := range all {
					if t.Failed() { // enough is told
						return
					}
					if a == b || b == c || a == c {
						continue
					}
					want := plainKind(l, []series.Series{a, b, c})
					met[want]++
					checkKind(t, l, []series.Series{a, b, c}, want)
				}
			}
		}
	}
	// 90 100 110, 90 110 130; of each six orders, two rights, two expiries, and one row of signs that may be first
	if met["butterfly"] != 2*6*2*2 || met["other"] < 1000 || len(met) != 2 {
		t.Errorf("kinds of three: %v", met)
	}
}

func TestP1802KindOfFourIsOther(t *testing.T) {
	next := walk(1802)
	all := listed([]string{"A"}, []int64{1, 2}, []int64{90, 100, 110})
	for _, l := range formsOf(4, 2) {
		for range 50 {
			var s []series.Series
			for range l {
				s = append(s, all[next(len(all))])
			}
			checkKind(t, l, s, "other")
		}
	}
	s := []series.Series{of(1, 100, series.Call), of(1, 110, series.Call), of(1, 120, series.Call), of(1, 130, series.Call)}
	checkKind(t, made(1, 1, 1, 2, -1, 2, 3, 1, 1, 4, 1, 1), s, "other")
	checkKind(t, made(1, 1, 1, 2, -1, 1, 3, -1, 1, 4, 1, 1), s, "other")
}

func TestP1802ButterflyWordForWord(t *testing.T) {
	calls := func(strikes ...int64) []series.Series {
		var s []series.Series
		for _, strike := range strikes {
			s = append(s, of(7, strike, series.Call))
		}
		return s
	}
	bought := made(1, 1, 1, 2, -1, 2, 3, 1, 1)
	for _, c := range []struct {
		l    []legs.Leg
		s    []series.Series
		want string
	}{
		{bought, calls(100, 110, 120), "butterfly"},
		{bought, calls(120, 110, 100), "butterfly"},
		{bought, calls(1, 2, 3), "butterfly"},
		{bought, calls(2, 500001, 1000000), "butterfly"},
		{bought, calls(1, 500001, 1000000), "other"},
		{bought, calls(3, 500001, 1000000), "other"},
		{bought, calls(100, 110, 121), "other"},
		{bought, calls(100, 110, 119), "other"},
		{bought, calls(100, 120, 110), "other"}, // the middle strike is not that of ratio 2
		{bought, calls(110, 100, 120), "other"},
		{made(1, 1, 2, 2, -1, 1, 3, -1, 1), calls(110, 100, 120), "butterfly"}, // turned, since Canon's first leg is bought
		{made(1, 1, 2, 2, -1, 1, 3, -1, 1), calls(110, 120, 100), "butterfly"},
		{made(1, 1, 2, 2, -1, 1, 3, -1, 1), calls(100, 110, 120), "other"},
		{made(1, 1, 1, 2, 1, 1, 3, -1, 2), calls(100, 120, 110), "butterfly"},
		{made(1, 1, 1, 2, 1, 1, 3, -1, 2), calls(100, 110, 120), "other"},
		{made(1, 1, 1, 2, -1, 1, 3, 1, 1), calls(100, 110, 120), "other"},
		{made(1, 1, 1, 2, -1, 3, 3, 1, 1), calls(100, 110, 120), "other"},
		{made(1, 1, 1, 2, -1, 4, 3, 1, 1), calls(100, 110, 120), "other"},
		{made(1, 1, 2, 2, -1, 4, 3, 1, 2), calls(100, 110, 120), "other"}, // not Canon's
		{made(1, 1, 1, 2, -1, 2, 3, 1, 2), calls(100, 110, 120), "other"},
		{made(1, 1, 2, 2, -1, 2, 3, 1, 1), calls(100, 110, 120), "other"},
		{made(1, 1, 1, 2, 1, 2, 3, 1, 1), calls(100, 110, 120), "other"},
		{made(1, 1, 1, 2, -1, 2, 3, -1, 1), calls(100, 110, 120), "other"},
		{made(1, 1, 1, 2, 1, 2, 3, -1, 1), calls(100, 110, 120), "other"},
	} {
		checkKind(t, c.l, c.s, c.want)
		for i := range c.s {
			c.s[i].Right = series.Put
		}
		checkKind(t, c.l, c.s, c.want)
		for i := range c.s {
			for _, change := range []func(s *series.Series){
				func(s *series.Series) { s.Right = series.Call },
				func(s *series.Series) { s.Expiry = 8 },
				func(s *series.Series) { s.Class = "A" },
			} {
				s := slices.Clone(c.s)
				change(&s[i])
				checkKind(t, c.l, s, "other")
			}
		}
	}
}

// TestP1802ButterflyAtEveryStrike moves each of three strikes about.
func TestP1802ButterflyAtEveryStrike(t *testing.T) {
	l := made(1, 1, 1, 2, -1, 2, 3, 1, 1)
	for low := int64(1); low <= 30; low++ {
		for mid := int64(1); mid <= 30; mid++ {
			for high := int64(1); high <= 60; high++ {
				if low == mid || mid == high || low == high {
					continue
				}
				s := []series.Series{of(1, low, series.Put), of(1, mid, series.Put), of(1, high, series.Put)}
				checkKind(t, l, s, plainKind(l, s))
			}
		}
	}
}

// TestP1802KindOfWhatIsListed goes the whole way: by the directory's numbers into the registry, and back.
func TestP1802KindOfWhatIsListed(t *testing.T) {
	d, r := dir.New(), New()
	if err := d.Class("AB", grid.Table{{From: 1, By: 1}}); err != nil {
		t.Fatal(err)
	}
	for _, s := range []series.Series{of(5, 110, series.Call), of(5, 100, series.Call), of(5, 120, series.Call), of(5, 100, series.Put), of(9, 100, series.Call)} {
		if _, err := d.List(s); err != nil {
			t.Fatal(err)
		}
	}
	for i, c := range []struct {
		l    []legs.Leg
		want string
	}{
		{made(2, -1, 3, 1, 1, 3), "vertical"},
		{made(3, -1, 4, 1, 1, 2), "ratio"},
		{made(4, -1, 2, 2, -1, 2), "straddle"},
		{made(4, 1, 1, 1, 1, 1), "strangle"},
		{made(5, 1, 4, 2, -1, 4), "calendar"},
		{made(3, 1, 2, 2, 1, 2, 1, -1, 4), "butterfly"},
		{made(5, 1, 1, 4, 1, 1), "other"},
	} {
		id, _, fresh, err := r.Add(c.l)
		if id != i+1 || !fresh || err != nil {
			t.Fatalf("Add of %v: %d, %v, %v", c.l, id, fresh, err)
		}
		l, _ := r.Legs(id)
		var s []series.Series
		for _, leg := range l {
			one, ok := d.Series(leg.Series)
			if !ok {
				t.Fatalf("no series %d", leg.Series)
			}
			s = append(s, one)
		}
		checkKind(t, l, s, c.want)
	}
	for _, id := range d.Day(5) {
		if ids := r.With(id); len(ids) == 0 || !slices.IsSorted(ids) {
			t.Errorf("With(%d): %v", id, ids)
		}
	}
	checkWith(t, r, 5, 5, 7)
}

// TestP1KindOfAnySeries asks about series that may not be: that they are answered is all that is promised.
func TestP1KindOfAnySeries(t *testing.T) {
	ends := []int64{least, least + 1, -1, 0, 1, most - 1, most}
	forms := slices.Concat(formsOf(2, 2), formsOf(3, 2))
	for _, a := range ends {
		for _, b := range ends {
			for _, c := range ends {
				s := []series.Series{{Expiry: a, Strike: b, Right: int(c)}, {Expiry: b, Strike: c, Right: int(a)}, {Expiry: c, Strike: a, Right: int(b)}}
				strikes := []series.Series{{Strike: a}, {Strike: b}, {Strike: c}}
				for _, l := range forms {
					Kind(l, s[:len(l)])
					Kind(l, strikes[:len(l)])
				}
			}
		}
	}
}
