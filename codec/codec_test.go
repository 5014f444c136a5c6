package codec

import (
	"bytes"
	"errors"
	"math"
	"math/big"
	"testing"

	"straddle/api"
)

const (
	most  = math.MaxInt64
	least = math.MinInt64
)

// samples are the numbers around 0, around each power of two, where a byte more is needed, and at both ends.
func samples() []int64 {
	l := []int64{least, least + 1, most - 1, most, 1000000, -1000000}
	for n := int64(-130); n <= 130; n++ {
		l = append(l, n)
	}
	for bit := 7; bit < 63; bit++ {
		p := int64(1) << bit
		l = append(l, p-1, p, p+1, -p-1, -p, -p+1)
	}
	return l
}

// texts are byte strings of every length about those where a length needs a byte more.
func texts() [][]byte {
	l := [][]byte{nil, {}, {0}, {1}, {128}, {255}}
	for _, n := range []int{2, 9, 10, 11, 63, 64, 65, 127, 128, 8191, 8192, 8193} {
		b := make([]byte, n)
		for i := range b {
			b[i] = byte(41*i + 7*n)
		}
		l = append(l, b)
	}
	return l
}

// slow tells a number as the promise has it, by sums of any size.
func slow(n int64) []byte {
	z := new(big.Int).Mul(big.NewInt(2), big.NewInt(n))
	if n < 0 {
		z.Sub(big.NewInt(-1), z)
	}
	var b []byte
	digit := new(big.Int)
	for {
		z.DivMod(z, big.NewInt(128), digit)
		if z.Sign() == 0 {
			return append(b, byte(digit.Int64()))
		}
		b = append(b, byte(digit.Int64())+128)
	}
}

// slowFirst tells the number that b begins with, by trying what slow would make of it.
func slowFirst(b []byte) (n int64, size int, err api.Errno) {
	for size < len(b) && b[size] >= 128 {
		size++
	}
	switch {
	case size >= 10: // whether it ends or not
		return 0, 0, api.ErrForm
	case size == len(b):
		return 0, 0, api.ErrShort
	}
	size++
	z := new(big.Int)
	for i := size - 1; i >= 0; i-- {
		z.Mul(z, big.NewInt(128))
		z.Add(z, big.NewInt(int64(b[i]%128)))
	}
	odd := z.Bit(0) == 1
	z.Rsh(z, 1)
	if odd {
		z.Not(z)
	}
	if !z.IsInt64() || !bytes.Equal(slow(z.Int64()), b[:size]) {
		return 0, 0, api.ErrForm
	}
	return z.Int64(), size, api.OK
}

// of tells the bytes of an Enc that was given the numbers alone.
func of(l ...int64) []byte {
	var e Enc
	e.Int(l...)
	return e.Bytes()
}

// roomy tells a copy of b with spare room behind it, and the whole of that memory.
func roomy(b []byte) (view, whole []byte) {
	whole = append(bytes.Clone(b), bytes.Repeat([]byte{0x02}, 16)...)
	return whole[:len(b)], whole
}

// fill writes over b and its spare room.
func fill(b []byte) {
	b = b[:cap(b)]
	for i := range b {
		b[i] = 0x5A
	}
}

// checkDead asks whether d tells that fault, and nothing else any more.
func checkDead(t *testing.T, d *Dec, at int, want api.Errno) {
	t.Helper()
	for range 2 {
		err := d.Err()
		var f *api.Fault
		if !errors.As(err, &f) || f.Part != "byte" || f.At != at || f.Err != want || !errors.Is(err, want) {
			t.Errorf("fault: %v; want %v at %d", err, want, at)
		}
		if n := d.Left(); n != 0 {
			t.Errorf("%d left behind %v", n, err)
		}
		if n := d.Int(); n != 0 {
			t.Errorf("Int: %d behind %v", n, err)
		}
		if b := d.Raw(); len(b) != 0 {
			t.Errorf("Raw: %x behind %v", b, err)
		}
	}
}

func TestP301AZeroEncIsEmpty(t *testing.T) {
	var e Enc
	if b := e.Bytes(); len(b) != 0 {
		t.Errorf("a zero Enc: %x", b)
	}
	e.Int()
	e.Int([]int64{}...)
	if b := e.Bytes(); len(b) != 0 {
		t.Errorf("an Enc of no number: %x", b)
	}
	if b := new(Enc).Bytes(); len(b) != 0 {
		t.Errorf("a new Enc: %x", b)
	}
}

func TestP301IntWordForWord(t *testing.T) {
	for n, want := range map[int64]string{
		0: "\x00", -1: "\x01", 1: "\x02", -2: "\x03", 2: "\x04",
		63: "\x7e", -64: "\x7f", 64: "\x80\x01", -65: "\x81\x01", 65: "\x82\x01", 150: "\xac\x02",
		8191: "\xfe\x7f", -8192: "\xff\x7f", 8192: "\x80\x80\x01", -8193: "\x81\x80\x01",
		1 << 61: "\x80\x80\x80\x80\x80\x80\x80\x80\x40",
		1 << 62: "\x80\x80\x80\x80\x80\x80\x80\x80\x80\x01",
		most:    "\xfe\xff\xff\xff\xff\xff\xff\xff\xff\x01",
		least:   "\xff\xff\xff\xff\xff\xff\xff\xff\xff\x01",
	} {
		if got := of(n); string(got) != want {
			t.Errorf("Int(%d): %x; want %x", n, got, want)
		}
		d := Of([]byte(want))
		if got := d.Int(); got != n || d.Left() != 0 || d.Err() != nil {
			t.Errorf("Int of %x: %d, %d left, %v; want %d", want, got, d.Left(), d.Err(), n)
		}
	}
}

func TestP301IntsOneBehindTheOther(t *testing.T) {
	l := samples()
	var want []byte
	var oneByOne Enc
	for _, n := range l {
		want = append(want, slow(n)...)
		oneByOne.Int(n)
	}
	if got := of(l...); !bytes.Equal(got, want) || !bytes.Equal(oneByOne.Bytes(), want) {
		t.Fatalf("Int of all: %.80x; one by one: %.80x; want %.80x", got, oneByOne.Bytes(), want)
	}
	d, left := Of(want), len(want)
	for _, n := range l {
		if d.Left() != left {
			t.Fatalf("ahead of %d: %d left; want %d", n, d.Left(), left)
		}
		if got := d.Int(); got != n || d.Err() != nil {
			t.Fatalf("Int: %d, %v; want %d", got, d.Err(), n)
		}
		left -= len(slow(n))
	}
	if d.Left() != 0 || d.Err() != nil {
		t.Errorf("behind the last: %d left, %v", d.Left(), d.Err())
	}
	checkEnd(t, d, len(want))
}

// checkEnd asks whether d is at its end, where the next item is missing.
func checkEnd(t *testing.T, d *Dec, at int) {
	t.Helper()
	if n := d.Int(); n != 0 {
		t.Errorf("Int behind the end: %d", n)
	}
	checkDead(t, d, at, api.ErrShort)
}

func TestP301RawWordForWord(t *testing.T) {
	var e Enc
	e.Raw(nil)
	e.Raw([]byte("ab"))
	e.Int(-3)
	e.Raw([]byte{})
	e.Raw([]byte{255})
	if got := e.Bytes(); string(got) != "\x00\x04ab\x05\x00\x02\xff" {
		t.Fatalf("Raw: %x", got)
	}
	d := Of(e.Bytes())
	a, b, n, c := d.Raw(), d.Raw(), d.Int(), d.Raw()
	if len(a) != 0 || string(b) != "ab" || n != -3 || len(c) != 0 || d.Left() != 2 || d.Err() != nil {
		t.Errorf("back: %x, %x, %d, %x, %d left, %v", a, b, n, c, d.Left(), d.Err())
	}
	if z := d.Raw(); string(z) != "\xff" || d.Left() != 0 || d.Err() != nil {
		t.Errorf("back: %x, %d left, %v", z, d.Left(), d.Err())
	}
	checkEnd(t, d, 8)
}

func TestP301RawsOneBehindTheOther(t *testing.T) {
	var e Enc
	var want []byte
	for i, b := range texts() {
		e.Raw(b)
		e.Int(int64(i))
		want = append(append(append(want, slow(int64(len(b)))...), b...), slow(int64(i))...)
	}
	if got := e.Bytes(); !bytes.Equal(got, want) {
		t.Fatalf("Raw and Int: %.80x; want %.80x", got, want)
	}
	d := Of(want)
	for i, b := range texts() {
		if got := d.Raw(); !bytes.Equal(got, b) || d.Err() != nil {
			t.Fatalf("Raw: %.80x, %v; want %.80x", got, d.Err(), b)
		}
		if got := d.Int(); got != int64(i) {
			t.Fatalf("Int: %d, %v; want %d", got, d.Err(), i)
		}
	}
	if d.Left() != 0 || d.Err() != nil {
		t.Errorf("behind the last: %d left, %v", d.Left(), d.Err())
	}
}

func TestP301BytesTellsAllSoFar(t *testing.T) {
	var e Enc
	e.Int(1, 64)
	first := e.Bytes()
	e.Raw([]byte("x"))
	if again := e.Bytes(); string(first) != "\x02\x80\x01" || string(again) != "\x02\x80\x01\x02x" {
		t.Errorf("Bytes: %x, then %x", first, again)
	}
}

func TestP301IntThatIsNone(t *testing.T) {
	for s, want := range map[string]api.Errno{
		"":                                     api.ErrShort,
		"\x80":                                 api.ErrShort,
		"\xff\x80":                             api.ErrShort,
		"\x80\x80":                             api.ErrShort,
		"\xff\xff\xff\xff\xff\xff\xff\xff\xff": api.ErrShort,
		"\x80\x80\x80\x80\x80\x80\x80\x80\x80": api.ErrShort,
		"\x80\x00":                             api.ErrForm, // 0, in a byte more than it needs
		"\x81\x00":                             api.ErrForm,
		"\xff\x00":                             api.ErrForm,
		"\xff\x80\x00":                         api.ErrForm,
		"\xff\xff\xff\xff\xff\xff\xff\xff\xff\x00":         api.ErrForm,
		"\xff\xff\xff\xff\xff\xff\xff\xff\xff\x02":         api.ErrForm, // a bit above the 64
		"\x80\x80\x80\x80\x80\x80\x80\x80\x80\x02":         api.ErrForm,
		"\xff\xff\xff\xff\xff\xff\xff\xff\xff\x03":         api.ErrForm,
		"\xff\xff\xff\xff\xff\xff\xff\xff\xff\x7f":         api.ErrForm,
		"\x80\x80\x80\x80\x80\x80\x80\x80\x80\x80\x00":     api.ErrForm,
		"\xff\xff\xff\xff\xff\xff\xff\xff\xff\x81\x00":     api.ErrForm,
		"\xff\xff\xff\xff\xff\xff\xff\xff\xff\x80\x01":     api.ErrForm,
		"\xff\xff\xff\xff\xff\xff\xff\xff\xff\xff\xff\x01": api.ErrForm,
	} {
		for _, ahead := range []int{0, 1, 300} {
			b := append(bytes.Repeat([]byte{4}, ahead), s...)
			for _, behind := range []string{"", "\x02\x02"} {
				if behind != "" && want == api.ErrShort {
					continue // it would go on
				}
				d := Of(append(bytes.Clone(b), behind...))
				for range ahead {
					if n := d.Int(); n != 2 || d.Err() != nil {
						t.Fatalf("ahead of %x: %d, %v", s, n, d.Err())
					}
				}
				if n := d.Int(); n != 0 {
					t.Errorf("Int of %x: %d", s, n)
				}
				checkDead(t, d, ahead, want)
			}
		}
	}
}

func TestP301RawThatIsNone(t *testing.T) {
	for _, c := range []struct {
		s    string
		want api.Errno
	}{
		{"", api.ErrShort},
		{"\x80", api.ErrShort}, // its length ends within
		{"\x80\x80", api.ErrShort},
		{"\x02", api.ErrShort},
		{"\x04a", api.ErrShort},
		{"\x80\x01" + string(make([]byte, 63)), api.ErrShort},
		{string(of(most)) + "abc", api.ErrShort},
		{string(of(1<<32)) + "", api.ErrShort},
		{string(of(1<<32+1)) + "a", api.ErrShort}, // cut to 32 bits it would be there
		{string(of(1<<62+1)) + "a", api.ErrShort},
		{"\x01", api.ErrForm},
		{"\x01abc", api.ErrForm},
		{"\x03a", api.ErrForm},
		{string(of(least)), api.ErrForm},
		{string(of(least)) + "abc", api.ErrForm},
		{string(of(-1<<32+1)) + "a", api.ErrForm}, // cut to 32 bits it would be there
		{"\x82\x00a", api.ErrForm},                // a length in a byte more than it needs
		{"\xff\xff\xff\xff\xff\xff\xff\xff\xff\x02a", api.ErrForm},
	} {
		for _, ahead := range []int{0, 1, 5} {
			b := append(bytes.Repeat([]byte{2, 'x'}, ahead), c.s...)
			d := Of(b)
			for range ahead {
				if x := d.Raw(); string(x) != "x" || d.Err() != nil {
					t.Fatalf("ahead of %.40x: %q, %v", c.s, x, d.Err())
				}
			}
			if x := d.Raw(); len(x) != 0 {
				t.Errorf("Raw of %.40x: %x", c.s, x)
			}
			checkDead(t, d, 2*ahead, c.want)
		}
	}
}

func TestP301EveryShortTextIsAsTheRuleHasIt(t *testing.T) {
	alphabet := []byte{0, 1, 2, 3, 4, 126, 127, 128, 129, 255}
	heads := [][]byte{nil, bytes.Repeat([]byte{128}, 7), bytes.Repeat([]byte{255}, 8)}
	for _, head := range heads {
		round := [][]byte{head}
		for range 5 {
			var longer [][]byte
			for _, b := range round {
				checkInts(t, b)
				checkRaws(t, b)
				for _, c := range alphabet {
					longer = append(longer, append(bytes.Clone(b), c))
				}
			}
			round = longer
		}
	}
}

// checkInts reads b number by number, beside slowFirst.
func checkInts(t *testing.T, b []byte) {
	t.Helper()
	d, at := Of(b), 0
	for range len(b) + 1 {
		n, size, err := slowFirst(b[at:])
		if got := d.Int(); got != n {
			t.Fatalf("Int of %x at %d: %d; want %d", b, at, got, n)
		}
		if err != api.OK {
			checkDead(t, d, at, err)
			return
		}
		at += size
		if d.Left() != len(b)-at || d.Err() != nil {
			t.Fatalf("of %x at %d: %d left, %v", b, at, d.Left(), d.Err())
		}
	}
}

// checkRaws reads b text by text, beside slowFirst.
func checkRaws(t *testing.T, b []byte) {
	t.Helper()
	d, at := Of(b), 0
	for range len(b) + 1 {
		n, size, err := slowFirst(b[at:])
		switch {
		case err != api.OK:
		case n < 0:
			err = api.ErrForm
		case n > int64(len(b)-at-size):
			err = api.ErrShort
		}
		got := d.Raw()
		if err != api.OK {
			if len(got) != 0 {
				t.Fatalf("Raw of %x at %d: %x", b, at, got)
			}
			checkDead(t, d, at, err)
			return
		}
		begin := at + size
		at = begin + int(n)
		if !bytes.Equal(got, b[begin:at]) || d.Left() != len(b)-at || d.Err() != nil {
			t.Fatalf("Raw of %x up to %d: %x, %d left, %v", b, at, got, d.Left(), d.Err())
		}
	}
}

func TestP301OfTellsWhatIsLeft(t *testing.T) {
	for _, b := range texts() {
		if d := Of(b); d.Left() != len(b) || d.Err() != nil {
			t.Errorf("Of(%.80x): %d left, %v", b, d.Left(), d.Err())
		}
	}
	checkEnd(t, Of(nil), 0)
	checkEnd(t, Of([]byte{}), 0)
	checkEnd(t, new(Dec), 0)
	view, _ := roomy(nil) // room behind the end is none of it
	checkEnd(t, Of(view), 0)
	view, _ = roomy([]byte{4, 'a'})
	d := Of(view)
	d.Raw()
	checkDead(t, d, 0, api.ErrShort)
}

func TestP301TheFirstFaultStays(t *testing.T) {
	d := Of([]byte{2, 128, 0, 2, 1})
	d.Int()
	d.Raw() // a length that is no number
	checkDead(t, d, 1, api.ErrForm)
	d = Of([]byte{2, 1, 2, 2})
	d.Int()
	d.Raw() // a length below 0
	checkDead(t, d, 1, api.ErrForm)
	d = Of([]byte{0, 6, 'a', 'b'})
	d.Int()
	d.Raw() // too long: its length isn't read again as a number
	checkDead(t, d, 1, api.ErrShort)
}

func TestP301FaultsAreTheCallersOwn(t *testing.T) {
	d := Of([]byte{2, 128, 0})
	d.Int()
	d.Int()
	err := d.Err()
	var f *api.Fault
	if !errors.As(err, &f) || err.Error() != "byte 1: form" || errors.Unwrap(err) != api.ErrForm {
		t.Fatalf("fault: %v", err)
	}
	f.Part, f.At, f.Err = "", -1, nil
	checkDead(t, d, 1, api.ErrForm)
}

func TestP6TheFormIsAskedAheadOfTheEnd(t *testing.T) {
	for _, s := range []string{ // whatever would follow, so no number goes on
		"\xff\xff\xff\xff\xff\xff\xff\xff\xff\x80",
		"\x80\x80\x80\x80\x80\x80\x80\x80\x80\x80",
		"\xff\xff\xff\xff\xff\xff\xff\xff\xff\xff",
		"\xff\xff\xff\xff\xff\xff\xff\xff\xff\x81",
		"\x80\x80\x80\x80\x80\x80\x80\x80\x80\x80\x80\x80",
	} {
		d := Of([]byte(s))
		d.Int()
		checkDead(t, d, 0, api.ErrForm)
		d = Of([]byte(s))
		d.Raw()
		checkDead(t, d, 0, api.ErrForm)
	}
	d := Of(of(least)) // below 0, and nothing is left behind it
	d.Raw()
	checkDead(t, d, 0, api.ErrForm)
}

func TestP2WhatIsHandedInStaysAsItIs(t *testing.T) {
	for _, b := range texts() {
		view, whole := roomy(b)
		was := bytes.Clone(whole)
		var e Enc
		e.Raw(view)
		e.Int(5)
		e.Raw(view)
		d := Of(view)
		for range 5 {
			d.Int()
			d.Raw()
		}
		if !bytes.Equal(whole, was) {
			t.Errorf("%.80x, handed in, is now %.80x", was, whole)
		}
	}
	l := []int64{7, -7, most, 9}
	var e Enc
	e.Int(l[:3]...)
	e.Int(1)
	if l[0] != 7 || l[1] != -7 || l[2] != most || l[3] != 9 {
		t.Errorf("the list of numbers, handed in, is now %d", l)
	}
}

func TestP2NothingIsKept(t *testing.T) {
	var e Enc
	b, l := []byte("straddle"), []int64{1, 2}
	e.Raw(b)
	e.Int(l...)
	fill(b)
	l[0], l[1] = 8, 9
	told := e.Bytes()
	if string(told) != "\x10straddle\x02\x04" {
		t.Fatalf("an Enc changes with what was put: %x", told)
	}
	d := Of(told)
	fill(told)
	if x, n, m := d.Raw(), d.Int(), d.Int(); string(x) != "straddle" || n != 1 || m != 2 || d.Err() != nil {
		t.Errorf("a Dec changes with what it was made of: %x, %d, %d, %v", x, n, m, d.Err())
	}
}

func TestP2AnswersAreNewMemory(t *testing.T) {
	var e Enc
	for range 40 { // so that there is spare room at some of the lengths
		e.Raw([]byte("ab"))
		told, was := e.Bytes(), e.Bytes()
		fill(was)
		if got := e.Bytes(); !bytes.Equal(got, told) {
			t.Fatalf("what Bytes told is kept: %x; want %x", got, told)
		}
		was = bytes.Clone(told)
		e.Raw([]byte("ab"))
		if !bytes.Equal(told, was) {
			t.Fatalf("what Bytes told changes: %x; want %x", told, was)
		}
	}
	b := e.Bytes()
	d := Of(b)
	first := d.Raw()
	second := d.Raw()
	fill(first)
	third := d.Raw()
	if string(second) != "ab" || string(third) != "ab" || string(b[:3]) != "\x04ab" {
		t.Errorf("what Raw told shares memory: %x, %x, %x", second, third, b[:3])
	}
	fill(second)
	if string(third) != "ab" || d.Int() != 2 {
		t.Error("what Raw told shares memory with what is left")
	}
}

func TestP7EachDecIsItsOwn(t *testing.T) {
	b := of(1, 2, 3)
	c, d := Of(b), Of(b)
	c.Int()
	c.Int()
	c.Int()
	checkEnd(t, c, 3)
	if n := d.Int(); n != 1 || d.Left() != 2 || d.Err() != nil {
		t.Errorf("one Dec goes on with the other: %d, %d left, %v", n, d.Left(), d.Err())
	}
}

func TestP3TheSameCallsAnswerTheSame(t *testing.T) {
	round := func() []byte {
		var e Enc
		for _, b := range texts() {
			d := Of(b)
			for range 4 {
				e.Int(d.Int(), int64(d.Left()))
				e.Raw(d.Raw())
			}
			if err := d.Err(); err != nil {
				e.Raw([]byte(err.Error()))
			}
		}
		return e.Bytes()
	}
	if first, again := round(), round(); !bytes.Equal(first, again) {
		t.Errorf("two rounds differ: %x, %x", first, again)
	}
}
