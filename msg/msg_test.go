package msg

import (
	"bytes"
	"errors"
	"math"
	"math/big"
	"strings"
	"testing"

	"straddle/api"
	"straddle/codec"
)

const (
	most  = math.MaxInt64
	least = math.MinInt64
)

// bound is how many rows a kind of message has.
type bound struct{ least, most int }

// bounds tells each kind that the chapter names, number by number, and its rows.
func bounds() map[int]bound {
	m := map[int]bound{}
	for _, l := range [][]int{
		{1, 2, 3, 4, 5, 6, 7, 8, 9, 10, 11, 12, 13, 14, 15},
		{33, 34, 35, 36, 37, 38},
		{65, 66, 67, 68},
	} {
		for _, kind := range l {
			m[kind] = bound{}
		}
	}
	m[8], m[11], m[37], m[67] = bound{1, 50}, bound{2, 4}, bound{0, 50}, bound{0, 64}
	return m
}

// kinds are all numbers around those of messages, those that would be ones if they were cut to fewer bits, and both ends.
func kinds() []int {
	l := []int{least, least + 1, least + 4, most - 1, most, 1<<32 + 1, 1<<32 + 8, -1<<32 + 8, 1<<62 + 67, 1<<16 + 2, 1 << 31, -1 << 31}
	for kind := -300; kind <= 600; kind++ {
		l = append(l, kind)
	}
	return l
}

// numbers are those around 0, around where codec needs a byte more, and both ends.
func numbers() []int64 {
	return []int64{0, 1, -1, 63, -64, 64, -65, 8191, -8192, 8192, -8193, 1000000, -1000000, 1 << 62, -1 << 62, most - 1, most, least + 1, least}
}

// rowsOf tells n rows, no two of them the same.
func rowsOf(n int) []Row {
	var l []Row
	some := numbers()
	for i := range n {
		row := Row{int64(i)}
		for j := 1; j < len(row); j++ {
			row[j] = some[(3*i+5*j)%len(some)]
		}
		l = append(l, row)
	}
	return l
}

// messages are such of every kind, with as few, as many, and some rows in between.
func messages() []Msg {
	var l []Msg
	some := numbers()
	for kind := range 256 {
		rows, known := bounds()[kind]
		if !known {
			continue
		}
		for n := rows.least; n <= rows.most; n++ {
			m := Msg{Kind: kind, Seq: max(0, some[len(l)%len(some)]), L: rowsOf(n)}
			for i := range m.A {
				m.A[i] = some[(len(l)+7*i)%len(some)]
			}
			l = append(l, m, Msg{Kind: kind, L: make([]Row, n)}, Msg{Kind: kind, Seq: most, L: rowsOf(n)})
		}
	}
	return l
}

// flat tells a message's numbers in the order of its bytes.
func flat(m Msg) []int64 {
	l := []int64{int64(m.Kind), m.Seq, m.A[0], m.A[1], m.A[2], m.A[3], m.A[4], m.A[5], int64(len(m.L))}
	for _, row := range m.L {
		l = append(l, row[0], row[1], row[2], row[3], row[4])
	}
	return l
}

// bytesOf tells the bytes of numbers.
func bytesOf(l ...int64) []byte {
	var e codec.Enc
	for _, n := range l {
		e.Int(n)
	}
	return e.Bytes()
}

// head tells the bytes of a message without its rows, as whoever made it counts them.
func head(kind, seq, count int64) []byte { return bytesOf(kind, seq, 0, 0, 0, 0, 0, 0, count) }

// place tells a kind cut to 0 to 255.
func place(kind int) int {
	if kind < 0 {
		return 0
	}
	if kind > 255 {
		return 255
	}
	return kind
}

// checkFault asks whether err is a fault of a message at that place, of want itself.
func checkFault(t *testing.T, what string, err error, at int, want api.Errno) {
	t.Helper()
	f, ok := err.(*api.Fault)
	if !ok || f.Part != "msg" || f.At != at || f.Err != want || !errors.Is(err, want) {
		t.Errorf("%s: %v; want %v at %d", what, err, want, at)
	}
}

// checkCodecs asks whether err is a fault of a message at 0, of codec's error at that byte.
func checkCodecs(t *testing.T, what string, err error, at int, want api.Errno) {
	t.Helper()
	f, ok := err.(*api.Fault)
	if !ok || f.Part != "msg" || f.At != 0 || !errors.Is(err, want) {
		t.Errorf("%s: %v; want codec's %v, at 0", what, err, want)
		return
	}
	g, ok := f.Err.(*api.Fault)
	if !ok || g.Part != "byte" || g.At != at || g.Err != want {
		t.Errorf("%s: %v; want codec's %v at byte %d", what, err, want, at)
	}
}

// checkNone asks whether m is what stands beside an error.
func checkNone(t *testing.T, what string, m Msg) {
	t.Helper()
	if m.Kind != 0 || m.Seq != 0 || m.A != [6]int64{} || len(m.L) != 0 {
		t.Errorf("%s: beside an error: %+v", what, m)
	}
}

// equal holds messages against each other number by number.
func equal(a, b Msg) bool {
	x, y := flat(a), flat(b)
	if len(x) != len(y) {
		return false
	}
	for i := range x {
		if x[i] != y[i] {
			return false
		}
	}
	return true
}

func TestP401KindsHaveTheirNumbers(t *testing.T) {
	for i, kind := range []int{Login, Beat, Logout, New, Cancel, Reduce, Replace, Mass, Purge, Enable, Strat, Complex, Drop, State, Day} {
		if kind != 1+i {
			t.Errorf("kind %d is %d", 1+i, kind)
		}
	}
	for i, kind := range []int{Accept, Reject, Fill, Done, Told, Leg} {
		if kind != 33+i {
			t.Errorf("kind %d is %d", 33+i, kind)
		}
	}
	for i, kind := range []int{Level, Trade, Snap, Phase} {
		if kind != 65+i {
			t.Errorf("kind %d is %d", 65+i, kind)
		}
	}
}

func TestP401KnownIsOneOfThese(t *testing.T) {
	for _, kind := range kinds() {
		if _, want := bounds()[kind]; Known(kind) != want {
			t.Errorf("Known(%d): %v", kind, !want)
		}
	}
}

func TestP401RowsOfEachKind(t *testing.T) {
	for _, kind := range kinds() {
		want := bounds()[kind] // none: 0, 0
		if least, most := Rows(kind); least != want.least || most != want.most {
			t.Errorf("Rows(%d): %d, %d; want %d, %d", kind, least, most, want.least, want.most)
		}
	}
	if least, most := Rows(Mass); least != 1 || most != api.MaxMass {
		t.Errorf("Rows of Mass: %d, %d", least, most)
	}
	if least, most := Rows(Strat); least != 2 || most != api.MaxLegs {
		t.Errorf("Rows of Strat: %d, %d", least, most)
	}
}

func TestP401EncodeWordForWord(t *testing.T) {
	for _, c := range []struct {
		m    Msg
		want string
	}{
		{Msg{Kind: Login, Seq: 1}, "\x02\x02\x00\x00\x00\x00\x00\x00\x00"},
		{Msg{Kind: Beat}, "\x04\x00\x00\x00\x00\x00\x00\x00\x00"},
		{Msg{Kind: Phase, Seq: 64, A: [6]int64{1, -1, 2, -2, 3, -3}}, "\x88\x01\x80\x01\x02\x01\x04\x03\x06\x05\x00"},
		{Msg{Kind: Told, Seq: 2}, "\x4a\x04\x00\x00\x00\x00\x00\x00\x00"},
		{Msg{Kind: Told, Seq: 2, L: []Row{}}, "\x4a\x04\x00\x00\x00\x00\x00\x00\x00"},
		{Msg{Kind: Mass, Seq: 3, L: []Row{{1, 2, 3, 4, 5}}}, "\x10\x06\x00\x00\x00\x00\x00\x00\x02\x02\x04\x06\x08\x0a"},
		{Msg{Kind: Strat, A: [6]int64{5: 9}, L: []Row{{-1, 64}, {4: -65}}},
			"\x16\x00\x00\x00\x00\x00\x00\x12\x04\x01\x80\x01\x00\x00\x00\x00\x00\x00\x00\x81\x01"},
	} {
		b, err := Encode(c.m)
		if string(b) != c.want || err != nil {
			t.Errorf("Encode(%+v): %x, %v; want %x", c.m, b, err, c.want)
		}
		if m, err := Decode([]byte(c.want)); !equal(m, c.m) || err != nil {
			t.Errorf("Decode(%x): %+v, %v; want %+v", c.want, m, err, c.m)
		}
	}
}

func TestP401ThereAndBack(t *testing.T) {
	for _, m := range messages() {
		b, err := Encode(m)
		if want := bytesOf(flat(m)...); !bytes.Equal(b, want) || err != nil {
			t.Fatalf("Encode(%+v): %x, %v; want %x", m, b, err, want)
		}
		if back, err := Decode(b); !equal(back, m) || !Same(back, m) || err != nil {
			t.Fatalf("Decode(%x): %+v, %v; want %+v", b, back, err, m)
		}
	}
}

func TestP401EncodeRefuses(t *testing.T) {
	for _, c := range []struct {
		m    Msg
		at   int
		want api.Errno
	}{
		{Msg{}, 0, api.ErrName},
		{Msg{Kind: 16}, 16, api.ErrName},
		{Msg{Kind: 32}, 32, api.ErrName},
		{Msg{Kind: 39}, 39, api.ErrName},
		{Msg{Kind: 64}, 64, api.ErrName},
		{Msg{Kind: 69}, 69, api.ErrName},
		{Msg{Kind: 254}, 254, api.ErrName},
		{Msg{Kind: 255}, 255, api.ErrName},
		{Msg{Kind: 256}, 255, api.ErrName},
		{Msg{Kind: 257}, 255, api.ErrName}, // cut to a byte it would be Login
		{Msg{Kind: 1<<32 + 8, L: rowsOf(1)}, 255, api.ErrName},
		{Msg{Kind: most}, 255, api.ErrName},
		{Msg{Kind: -1}, 0, api.ErrName},
		{Msg{Kind: -255}, 0, api.ErrName},
		{Msg{Kind: least}, 0, api.ErrName},
		{Msg{Kind: New, Seq: -1}, 4, api.ErrArg},
		{Msg{Kind: Phase, Seq: least}, 68, api.ErrArg},
		{Msg{Kind: New, L: rowsOf(1)}, 4, api.ErrLong},
		{Msg{Kind: Accept, L: rowsOf(50)}, 33, api.ErrLong},
		{Msg{Kind: Mass}, 8, api.ErrLong},
		{Msg{Kind: Mass, L: rowsOf(51)}, 8, api.ErrLong},
		{Msg{Kind: Strat}, 11, api.ErrLong},
		{Msg{Kind: Strat, L: rowsOf(1)}, 11, api.ErrLong},
		{Msg{Kind: Strat, L: rowsOf(5)}, 11, api.ErrLong},
		{Msg{Kind: Told, L: rowsOf(51)}, 37, api.ErrLong},
		{Msg{Kind: Snap, L: rowsOf(65)}, 67, api.ErrLong},
		{Msg{Kind: Snap, L: rowsOf(256)}, 67, api.ErrLong}, // cut to a byte they would be none
		{Msg{Kind: Leg, L: rowsOf(1 << 16)}, 38, api.ErrLong},
	} {
		b, err := Encode(c.m)
		if len(b) != 0 {
			t.Errorf("Encode of %d, %d, %d rows: %x", c.m.Kind, c.m.Seq, len(c.m.L), b)
		}
		checkFault(t, "Encode of "+Text(Msg{Kind: c.m.Kind, Seq: c.m.Seq}), err, c.at, c.want)
	}
}

func TestP401EncodeAtEachKindsBounds(t *testing.T) {
	for _, kind := range kinds() {
		rows, known := bounds()[kind]
		for n := range 70 {
			want := api.OK
			switch {
			case !known:
				want = api.ErrName
			case n < rows.least || n > rows.most:
				want = api.ErrLong
			}
			b, err := Encode(Msg{Kind: kind, L: make([]Row, n)})
			if want == api.OK && (err != nil || len(b) == 0) {
				t.Errorf("Encode of %d, %d rows: %x, %v", kind, n, b, err)
			}
			if want != api.OK {
				checkFault(t, "Encode at a bound", err, place(kind), want)
			}
		}
	}
}

func TestP6EncodeAsksInOrder(t *testing.T) {
	_, err := Encode(Msg{Kind: 300, Seq: -1, L: rowsOf(65)})
	checkFault(t, "none, below 0, too many", err, 255, api.ErrName)
	_, err = Encode(Msg{Kind: 16, L: rowsOf(1)})
	checkFault(t, "none, too many", err, 16, api.ErrName)
	_, err = Encode(Msg{Kind: Mass, Seq: -1})
	checkFault(t, "below 0, too few", err, 8, api.ErrArg)
	_, err = Encode(Msg{Kind: Cancel, Seq: -1, L: rowsOf(1)})
	checkFault(t, "below 0, too many", err, 5, api.ErrArg)
}

func TestP401DecodeRefuses(t *testing.T) {
	for _, c := range []struct {
		b    []byte
		at   int
		want api.Errno
	}{
		{head(0, 0, 0), 0, api.ErrName},
		{head(16, 0, 0), 16, api.ErrName},
		{head(64, 0, 0), 64, api.ErrName},
		{head(69, 0, 0), 69, api.ErrName},
		{head(255, 0, 0), 255, api.ErrName},
		{head(256, 0, 0), 255, api.ErrName},
		{head(257, 0, 0), 255, api.ErrName},     // cut to a byte it would be Login
		{head(1<<32+1, 0, 0), 255, api.ErrName}, // cut to 32 bits it would be Login
		{head(most, 0, 0), 255, api.ErrName},
		{head(-1, 0, 0), 0, api.ErrName},
		{head(-1<<32+1, 0, 0), 0, api.ErrName},
		{head(least, 0, 0), 0, api.ErrName},
		{head(1, -1, 0), 1, api.ErrArg},
		{head(68, least, 0), 68, api.ErrArg},
		{head(4, 0, 1), 4, api.ErrLong},
		{head(4, 0, -1), 4, api.ErrLong},
		{head(8, 0, 0), 8, api.ErrLong},
		{head(8, 0, 51), 8, api.ErrLong},
		{head(8, 0, -1), 8, api.ErrLong},
		{head(11, 0, 1), 11, api.ErrLong},
		{head(11, 0, 5), 11, api.ErrLong},
		{head(37, 0, 51), 37, api.ErrLong},
		{head(37, 0, -1), 37, api.ErrLong},
		{head(67, 0, 65), 67, api.ErrLong},
		{head(67, 0, most), 67, api.ErrLong},
		{head(67, 0, least), 67, api.ErrLong},
		{head(67, 0, 1<<32), 67, api.ErrLong}, // cut to 32 bits they would be none
		{head(8, 0, 1<<32+1), 8, api.ErrLong},
		{head(11, 0, -1<<32+2), 11, api.ErrLong},
	} {
		m, err := Decode(c.b)
		checkNone(t, "Decode", m)
		checkFault(t, "Decode", err, c.at, c.want)
		for _, behind := range []string{"\x00", "\x80", "\x80\x00", strings.Repeat("\x02", 70*5)} { // rows are not read
			m, err = Decode(append(bytes.Clone(c.b), behind...))
			checkNone(t, "Decode, with bytes behind", m)
			checkFault(t, "Decode, with bytes behind", err, c.at, c.want)
		}
	}
}

func TestP6DecodeAsksInOrder(t *testing.T) {
	_, err := Decode(bytesOf(16, -1, 0, 0, 0, 0, 0, 0)) // codec's ahead of all others
	checkCodecs(t, "none, below 0, cut short", err, 8, api.ErrShort)
	_, err = Decode(append(bytesOf(16, -1, 0, 0, 0, 0, 0), 128, 0, 2))
	checkCodecs(t, "none, below 0, no number", err, 7, api.ErrForm)
	_, err = Decode(head(300, -1, -5))
	checkFault(t, "none, below 0, too few", err, 255, api.ErrName)
	_, err = Decode(head(2, -1, 9))
	checkFault(t, "below 0, too many, cut short", err, 2, api.ErrArg)
	_, err = Decode(append(head(8, -1, 1), 128, 0))
	checkFault(t, "below 0, a row that is none", err, 8, api.ErrArg)
	_, err = Decode(append(head(2, 0, 1), 0))
	checkFault(t, "too many, cut short", err, 2, api.ErrLong)
}

func TestP401DecodeOfWhatIsCutShort(t *testing.T) {
	for _, m := range messages() {
		b := bytesOf(flat(m)...)
		begin := 0 // of the number in which it is cut
		for _, n := range flat(m) {
			end := begin + len(bytesOf(n))
			for k := begin; k < end; k++ {
				got, err := Decode(b[:k])
				checkNone(t, "Decode, cut short", got)
				checkCodecs(t, "Decode, cut short", err, begin, api.ErrShort)
			}
			begin = end
		}
		if t.Failed() {
			t.Fatalf("of %+v", m)
		}
	}
}

func TestP401DecodeOfNumbersThatAreNone(t *testing.T) {
	m := Msg{Kind: Strat, Seq: 64, A: [6]int64{64, 1, -65, 2, 64, 3}, L: rowsOf(3)}
	l := flat(m)
	for i := range l {
		for _, none := range []string{"\x80\x00", "\xff\x80\x00", strings.Repeat("\xff", 9) + "\x02", strings.Repeat("\x80", 10)} {
			at := len(bytesOf(l[:i]...))
			b := append(bytesOf(l[:i]...), none...)
			b = append(b, bytesOf(l[i+1:]...)...)
			got, err := Decode(b)
			checkNone(t, "Decode, with a number that is none", got)
			checkCodecs(t, "Decode, with a number that is none", err, at, api.ErrForm)
		}
	}
}

func TestP401DecodeOfBytesLeftBehind(t *testing.T) {
	for _, m := range messages() {
		for _, behind := range []string{"\x00", "\x02", "\x80", "\xff", "\x80\x00", "\x02\x04\x06\x08\x0a"} {
			got, err := Decode(append(bytesOf(flat(m)...), behind...))
			checkNone(t, "Decode, with bytes behind", got)
			checkFault(t, "Decode, with bytes behind", err, m.Kind, api.ErrForm)
		}
		if t.Failed() {
			t.Fatalf("of %+v", m)
		}
	}
}

// checkAny decodes b, and holds what comes of it against its numbers one by one.
func checkAny(t *testing.T, b []byte) {
	t.Helper()
	var l []int64
	d, at := codec.Of(b), 0
	for d.Left() > 0 {
		n := d.Int()
		if d.Err() != nil {
			break
		}
		l = append(l, n)
		at = len(b) - d.Left()
	}
	bad, none := api.ErrShort, (*api.Fault)(nil)
	if errors.As(d.Err(), &none) {
		bad = none.Err.(api.Errno)
	}
	m, err := Decode(b)
	if err != nil {
		checkNone(t, "Decode of any bytes", m)
	}
	if len(l) < 9 {
		checkCodecs(t, "Decode of any bytes", err, at, bad)
		return
	}
	kind := int(l[0])
	rows, known := bounds()[kind]
	switch count := l[8]; {
	case !known:
		checkFault(t, "Decode of any bytes", err, place(kind), api.ErrName)
	case l[1] < 0:
		checkFault(t, "Decode of any bytes", err, kind, api.ErrArg)
	case count < int64(rows.least) || count > int64(rows.most):
		checkFault(t, "Decode of any bytes", err, kind, api.ErrLong)
	case int64(len(l)-9) < 5*count:
		checkCodecs(t, "Decode of any bytes", err, at, bad)
	case int64(len(l)-9) > 5*count || d.Err() != nil:
		checkFault(t, "Decode of any bytes", err, kind, api.ErrForm)
	default:
		back, bad := Encode(m)
		if err != nil || bad != nil || !bytes.Equal(back, b) || !bytes.Equal(bytesOf(flat(m)...), b) {
			t.Errorf("Decode of any bytes: %+v, %v; there again: %x, %v", m, err, back, bad)
		}
	}
}

func TestP1AnyBytesAreAnswered(t *testing.T) {
	for _, m := range []Msg{
		{Kind: New, Seq: 7, A: [6]int64{1, 2, -64, 1000000, 0, 1}},
		{Kind: Strat, L: []Row{{1, 1, 1}, {2, -1, 2}}},
		{Kind: Told, Seq: 64, L: rowsOf(2)},
		{Kind: Snap},
	} {
		b := bytesOf(flat(m)...)
		for i := range b {
			for c := range 256 {
				turned := bytes.Clone(b)
				turned[i] = byte(c)
				checkAny(t, turned)
				checkAny(t, turned[:len(b)-1])
				checkAny(t, append(append(bytes.Clone(b[:i]), byte(c)), b[i:]...))
			}
			checkAny(t, append(bytes.Clone(b[:i]), b[i+1:]...))
			checkAny(t, b[i:])
		}
		if t.Failed() {
			t.Fatalf("of %+v", m)
		}
	}
	for c := range 256 {
		for n := range 80 {
			checkAny(t, bytes.Repeat([]byte{byte(c)}, n))
		}
	}
	checkAny(t, nil)
	checkAny(t, []byte{})
}

func TestP401Same(t *testing.T) {
	m := Msg{Kind: Mass, Seq: 5, A: [6]int64{1, 2, 3, 4, 5, 6}, L: []Row{{1, 2, 3, 4, 5}, {6, 7, 8, 9, 10}}}
	copied := m
	copied.L = []Row{{1, 2, 3, 4, 5}, {6, 7, 8, 9, 10}}
	if !Same(m, m) || !Same(m, copied) || !Same(copied, m) || !Same(Msg{}, Msg{}) {
		t.Error("Same: the same message isn't")
	}
	var others []Msg
	for i := range m.A {
		o := m
		o.A[i]++
		others = append(others, o)
	}
	for i := range m.L {
		for j := range m.L[i] {
			o := m
			o.L = append([]Row{}, m.L...)
			o.L[i][j]--
			others = append(others, o)
		}
	}
	kind, turn, none, less, turned, longer := m, m, m, m, m, m
	kind.Kind, turn.Seq, none.L, less.L = Told, 6, nil, m.L[:1]
	turned.L = []Row{m.L[1], m.L[0]}
	longer.L = append([]Row{}, m.L[0], m.L[1], Row{})
	others = append(others, kind, turn, none, less, turned, longer, Msg{})
	for _, o := range others {
		if Same(m, o) || Same(o, m) {
			t.Errorf("Same of %+v and %+v", m, o)
		}
	}
}

func TestP2NoRowsAreTheSame(t *testing.T) {
	none, empty := Msg{Kind: Told, Seq: 1}, Msg{Kind: Told, Seq: 1, L: []Row{}}
	if !Same(none, empty) || !Same(empty, none) || Text(none) != Text(empty) {
		t.Error("no list and an empty one differ")
	}
	a, bad := Encode(none)
	b, worse := Encode(empty)
	if !bytes.Equal(a, b) || bad != nil || worse != nil {
		t.Errorf("Encode of no rows: %x, %v and %x, %v", a, bad, b, worse)
	}
	_, bad = Encode(Msg{Kind: Mass, L: []Row{}})
	checkFault(t, "Encode of an empty Mass", bad, 8, api.ErrLong)
}

func TestP401TextWordForWord(t *testing.T) {
	for _, c := range []struct {
		m    Msg
		want string
	}{
		{Msg{}, "0 0 0 0 0 0 0 0"},
		{Msg{Kind: Login, Seq: 1}, "1 1 0 0 0 0 0 0"},
		{Msg{Kind: New, Seq: 12, A: [6]int64{1, -2, 30, -400, 5000, 6}}, "4 12 1 -2 30 -400 5000 6"},
		{Msg{Kind: Mass, Seq: 5, L: []Row{{1, 2, 3, 4, -5}}}, "8 5 0 0 0 0 0 0 [1 2 3 4 -5]"},
		{Msg{Kind: Strat, A: [6]int64{5: 9}, L: []Row{{}, {4: 7}, {most, least}}},
			"11 0 0 0 0 0 0 9 [0 0 0 0 0] [0 0 0 0 7] [9223372036854775807 -9223372036854775808 0 0 0]"},
		{Msg{Kind: -3, Seq: least, A: [6]int64{most}, L: []Row{{-1}}}, "-3 -9223372036854775808 9223372036854775807 0 0 0 0 0 [-1 0 0 0 0]"}, // what is no message has a text, too
	} {
		if got := Text(c.m); got != c.want {
			t.Errorf("Text: %q; want %q", got, c.want)
		}
	}
}

func TestP401TextOfAll(t *testing.T) {
	for _, m := range append(messages(), Msg{Kind: most, Seq: -7, L: rowsOf(300)}) {
		var want strings.Builder
		for i, n := range flat(m) {
			switch {
			case i == 8: // how many rows: not told
				continue
			case i > 8 && (i-9)%5 == 0:
				want.WriteString(" [")
			case i > 0:
				want.WriteString(" ")
			}
			want.WriteString(big.NewInt(n).String())
			if i > 8 && (i-9)%5 == 4 {
				want.WriteString("]")
			}
		}
		if got := Text(m); got != want.String() {
			t.Fatalf("Text: %q; want %q", got, want.String())
		}
	}
}

func TestP401FaultsTellWhatTheyWrap(t *testing.T) {
	_, err := Decode([]byte{2, 2, 0})
	if err == nil || err.Error() != "msg 0: byte 3: short" {
		t.Errorf("Decode, cut short: %v", err)
	}
	_, err = Encode(Msg{Kind: Mass})
	if err == nil || err.Error() != "msg 8: long" {
		t.Errorf("Encode of a Mass without rows: %v", err)
	}
	f, ok := err.(*api.Fault)
	if !ok {
		t.Fatalf("no fault: %v", err)
	}
	f.Part, f.At, f.Err = "", -1, nil // the caller's own
	_, err = Encode(Msg{Kind: Mass})
	checkFault(t, "Encode of a Mass without rows", err, 8, api.ErrLong)
}

// roomy tells m with spare room behind its rows, and the whole of that memory.
func roomy(m Msg) (Msg, []Row) {
	whole := append(append([]Row{}, m.L...), Row{9, 9, 9, 9, 9}, Row{8, 8, 8, 8, 8})
	m.L = whole[:len(m.L)]
	return m, whole
}

func TestP2WhatIsHandedInStaysAsItIs(t *testing.T) {
	for _, m := range messages() {
		view, whole := roomy(m)
		was := append([]Row{}, whole...)
		b, _ := Encode(view)
		Text(view)
		Same(view, view)
		room := append(bytes.Clone(b), 1, 2, 3, 4, 5, 6, 7, 8)
		wasBytes := bytes.Clone(room)
		back, err := Decode(room[:len(b)]) // the room behind is none of it
		if err != nil || !equal(back, m) {
			t.Fatalf("Decode with spare room: %+v, %v", back, err)
		}
		for i := range whole {
			if whole[i] != was[i] {
				t.Fatalf("the rows, handed in, are now %d; were %d", whole, was)
			}
		}
		if !bytes.Equal(room, wasBytes) {
			t.Fatalf("the bytes, handed in, are now %x; were %x", room, wasBytes)
		}
	}
}

func TestP2AnswersAreNewMemory(t *testing.T) {
	m := Msg{Kind: Snap, Seq: 1, L: rowsOf(5)}
	b, _ := Encode(m)
	was := bytes.Clone(b)
	m.L[0] = Row{}
	again, _ := Encode(Msg{Kind: Snap, Seq: 1, L: rowsOf(5)})
	if !bytes.Equal(b, was) {
		t.Errorf("what Encode told changes with the message: %x; want %x", b, was)
	}
	for i := range b[:cap(b)] {
		b[:cap(b)][i] = 0x5A
	}
	if !bytes.Equal(again, was) {
		t.Errorf("what Encode told twice is one: %x; want %x", again, was)
	}
	first, _ := Decode(again)
	second, _ := Decode(again)
	for i := range again {
		again[i] = 0x5A
	}
	for i := range first.L[:cap(first.L)] {
		first.L[:cap(first.L)][i] = Row{7, 7, 7, 7, 7}
	}
	if !equal(second, Msg{Kind: Snap, Seq: 1, L: rowsOf(5)}) {
		t.Errorf("what Decode told shares memory: %+v", second)
	}
}

func TestP3TheSameCallsAnswerTheSame(t *testing.T) {
	round := func() string {
		var told strings.Builder
		for _, m := range messages() {
			b, err := Encode(m)
			back, bad := Decode(b[:len(b)-len(b)%3])
			told.WriteString(string(b) + Text(m) + Text(back))
			for _, e := range []error{err, bad} {
				if e != nil {
					told.WriteString(e.Error())
				}
			}
		}
		return told.String()
	}
	if round() != round() {
		t.Error("two rounds differ")
	}
}
