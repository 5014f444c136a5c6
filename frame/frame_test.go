package frame

import (
	"bytes"
	"errors"
	"hash/crc32"
	"slices"
	"strconv"
	"testing"

	"straddle/api"
)

// verdict is what a road of bytes comes to.
type verdict struct {
	bodies [][]byte
	held   int
	text   string // of the error; empty if there is none
}

// slow tells what the promise makes of all that came to a stream, looking at the whole road at once.
func slow(road []byte) verdict {
	var v verdict
	for {
		at := strconv.Itoa(len(v.bodies))
		if len(road) < 2 {
			v.held = len(road)
			return v
		}
		n := int(road[0]) + 256*int(road[1])
		if n > 1024 {
			v.text = "frame " + at + ": long"
			return v
		}
		if len(road) < 2+n+4 {
			v.held = len(road)
			return v
		}
		sum := crc32.ChecksumIEEE(road[2 : 2+n])
		if !bytes.Equal(road[2+n:2+n+4], []byte{byte(sum), byte(sum >> 8), byte(sum >> 16), byte(sum >> 24)}) {
			v.text = "frame " + at + ": sum " + strconv.Itoa(n+4) + ": sum"
			return v
		}
		v.bodies = append(v.bodies, bytes.Clone(road[2:2+n]))
		road = road[2+n+4:]
	}
}

// body tells n bytes, not the same for any two n.
func body(n int) []byte {
	b := make([]byte, n)
	for i := range b {
		b[i] = byte(37*i + 11*n + i/256 + 5)
	}
	return b
}

// plain tells the frame of a body of at most 1024 bytes, as the promise has it.
func plain(b []byte) []byte {
	sum := crc32.ChecksumIEEE(b)
	l := append([]byte{byte(len(b) % 256), byte(len(b) / 256)}, b...)
	return append(l, byte(sum), byte(sum>>8), byte(sum>>16), byte(sum>>24))
}

// road tells frames of bodies of those lengths, one behind the other.
func road(sizes ...int) []byte {
	var l []byte
	for _, n := range sizes {
		l = append(l, plain(body(n))...)
	}
	return l
}

// turned tells b with one of its bits turned.
func turned(b []byte, bit int) []byte {
	l := bytes.Clone(b)
	l[bit/8] ^= 1 << (bit % 8)
	return l
}

// roomy tells a copy of b with spare room behind it, and the whole of that memory.
func roomy(b []byte) (view, whole []byte) {
	whole = append(bytes.Clone(b), bytes.Repeat([]byte{0xA5}, 16)...)
	return whole[:len(b)], whole
}

// fill writes over b and its spare room.
func fill(b []byte) {
	b = b[:cap(b)]
	for i := range b {
		b[i] = 0x5A
	}
}

// equal tells whether two lists are of the same bodies.
func equal(a, b [][]byte) bool { return slices.EqualFunc(a, b, bytes.Equal) }

// textOf tells an error's text; none if there is none.
func textOf(err error) string {
	if err == nil {
		return ""
	}
	return err.Error()
}

// checkFault asks whether err is a fault at that frame: of ErrLong or ErrShort itself, or of crc's fault of a body of that size.
func checkFault(t *testing.T, what string, err error, at int, want api.Errno, size int) {
	t.Helper()
	f, ok := err.(*api.Fault)
	if !ok || f.Part != "frame" || f.At != at || !errors.Is(err, want) {
		t.Errorf("%s: %v; want a fault of %v at %d", what, err, want, at)
		return
	}
	if want != api.ErrSum {
		if f.Err != want {
			t.Errorf("%s: %v; want %v itself", what, err, want)
		}
		return
	}
	g, ok := f.Err.(*api.Fault)
	if !ok || g.Part != "sum" || g.At != size+4 || g.Err != want {
		t.Errorf("%s: %v; want crc's fault at %d", what, err, size+4)
	}
}

// checkDead asks whether s is dead of that, and takes nothing.
func checkDead(t *testing.T, what string, s *Stream, at int, want api.Errno, size int) {
	t.Helper()
	for _, b := range [][]byte{nil, {}, {0}, road(3, 2), {255, 255}, turned(road(7), 20), bytes.Repeat([]byte{0}, 3000)} {
		bodies, err := s.Feed(b)
		checkFault(t, what+", fed again", err, at, want, size)
		checkFault(t, what+", asked", s.Err(), at, want, size)
		if len(bodies) != 0 || s.Held() != 0 {
			t.Errorf("%s, fed again: %x, %d held", what, bodies, s.Held())
		}
	}
}

// checkRoad asks whether a stream to which the road comes in those pieces, and each twin on the way, tells what the promise makes of it.
func checkRoad(t *testing.T, what string, pieces ...[]byte) {
	t.Helper()
	s := New()
	var came []byte
	var bodies [][]byte
	for _, b := range pieces {
		w := s.Twin()
		told, err := s.Feed(b)
		twins, twinErr := w.Feed(b)
		came = append(came, b...)
		bodies = append(bodies, told...)
		want := slow(came)
		if !equal(bodies, want.bodies) || s.Held() != want.held || textOf(err) != want.text || textOf(s.Err()) != want.text {
			t.Fatalf("%s: behind %.100x: %d bodies, %d held, %v, %v; want %d, %d, %s", what, came, len(bodies), s.Held(), err, s.Err(), len(want.bodies), want.held, want.text)
		}
		if !equal(told, twins) || w.Held() != want.held || textOf(twinErr) != want.text || textOf(w.Err()) != want.text {
			t.Fatalf("%s: behind %.100x: a twin: %d bodies, %d held, %v, %v", what, came, len(twins), w.Held(), twinErr, w.Err())
		}
	}
}

// checkAll asks whether All tells what the promise makes of a road.
func checkAll(t *testing.T, b []byte) {
	t.Helper()
	want := slow(b)
	if want.text == "" && want.held > 0 {
		want.text = "frame " + strconv.Itoa(len(want.bodies)) + ": short"
	}
	if want.text != "" {
		want.bodies = nil
	}
	bodies, err := All(b)
	if !equal(bodies, want.bodies) || textOf(err) != want.text {
		t.Errorf("All(%.100x): %d bodies, %v; want %d, %s", b, len(bodies), err, len(want.bodies), want.text)
	}
}

// steps tells b in pieces of that length; the last one may be shorter.
func steps(b []byte, n int) [][]byte { return slices.Collect(slices.Chunk(b, n)) }

func TestP501WrapWordForWord(t *testing.T) {
	for s, want := range map[string]string{
		"":                 "\x00\x00\x00\x00\x00\x00",
		"\x00":             "\x01\x00\x00\x8d\xef\x02\xd2",
		"\xff\xff\xff\xff": "\x04\x00\xff\xff\xff\xff\xff\xff\xff\xff",
		"123456789":        "\x09\x00123456789\x26\x39\xf4\xcb",
	} {
		if got, err := Wrap([]byte(s)); string(got) != want || err != nil {
			t.Errorf("Wrap(%q): %q, %v; want %q", s, got, err, want)
		}
	}
	if got, err := Wrap(nil); string(got) != "\x00\x00\x00\x00\x00\x00" || err != nil {
		t.Errorf("Wrap(nil): %q, %v", got, err)
	}
}

func TestP501WrapEveryLength(t *testing.T) {
	for n := range api.MaxBody + 1 {
		if got, err := Wrap(body(n)); !bytes.Equal(got, plain(body(n))) || err != nil {
			t.Errorf("Wrap of %d bytes: %.80x, %v", n, got, err)
		}
	}
}

func TestP501WrapTooLong(t *testing.T) {
	for _, n := range []int{1025, 1026, 1280, 2048, 65535, 65536, 65537, 66560, 1 << 17, 1 << 24} {
		got, err := Wrap(make([]byte, n))
		checkFault(t, "Wrap of "+strconv.Itoa(n)+" bytes", err, 0, api.ErrLong, 0)
		if len(got) != 0 {
			t.Errorf("Wrap of %d bytes: %.80x beside %v", n, got, err)
		}
	}
}

func TestP501FeedTellsWhatWasWrapped(t *testing.T) {
	s := New()
	for n := range api.MaxBody + 1 {
		b, err := Wrap(body(n))
		if err != nil {
			t.Fatalf("Wrap of %d bytes: %v", n, err)
		}
		bodies, err := s.Feed(b)
		if len(bodies) != 1 || !bytes.Equal(bodies[0], body(n)) || err != nil || s.Held() != 0 || s.Err() != nil {
			t.Fatalf("Feed of a frame of %d bytes: %d bodies, %v, %d held, %v", n, len(bodies), err, s.Held(), s.Err())
		}
	}
}

func TestP501NewIsEmpty(t *testing.T) {
	s := New()
	for _, b := range [][]byte{nil, {}} {
		if bodies, err := s.Feed(b); len(bodies) != 0 || err != nil || s.Held() != 0 || s.Err() != nil {
			t.Errorf("Feed of nothing: %x, %v, %d held, %v", bodies, err, s.Held(), s.Err())
		}
	}
}

func TestP501FeedInSteps(t *testing.T) {
	for _, b := range [][]byte{
		road(0, 5, 300, 1024, 1, 0, 0, 1023, 255, 256, 257),
		append(road(3, 0, 70), road(200)[:150]...),
		append(road(3, 0, 70), 1),
		append(road(2, 1), 1, 4, 0, 0, 0, 0),
		append(turned(road(20, 9), 8*30), road(4)...),
	} {
		for _, n := range []int{1, 2, 3, 4, 5, 6, 7, 11, 100, 261, 1029, 1030, 1031, 3000} {
			checkRoad(t, "in steps of "+strconv.Itoa(n), steps(b, n)...)
		}
		checkAll(t, b)
	}
}

func TestP501FeedCutAnywhere(t *testing.T) {
	b := append(road(0, 3, 1), 9, 0, 'x')
	for i := range len(b) + 1 {
		for j := i; j <= len(b); j++ {
			checkRoad(t, "cut at "+strconv.Itoa(i)+" and "+strconv.Itoa(j), b[:i], b[i:j], nil, b[j:])
		}
	}
}

func TestP501HeldIsTheRest(t *testing.T) {
	b := road(300)
	s := New()
	for i := range len(b) - 1 {
		if bodies, err := s.Feed(b[i : i+1]); len(bodies) != 0 || err != nil || s.Held() != i+1 {
			t.Fatalf("behind %d bytes of a frame: %d bodies, %v, %d held", i+1, len(bodies), err, s.Held())
		}
	}
	bodies, err := s.Feed(append(bytes.Clone(b[len(b)-1:]), road(0)[:5]...))
	if len(bodies) != 1 || err != nil || s.Held() != 5 {
		t.Errorf("behind the last byte and five more: %d bodies, %v, %d held", len(bodies), err, s.Held())
	}
}

func TestP501TooLongAsSoonAsTheLengthIsThere(t *testing.T) {
	for n := range 1 << 16 {
		s := New()
		s.Feed(road(2))
		if bodies, err := s.Feed([]byte{byte(n)}); len(bodies) != 0 || err != nil || s.Held() != 1 {
			t.Fatalf("half a length of %d: %v, %d held", n, err, s.Held())
		}
		bodies, err := s.Feed([]byte{byte(n >> 8)})
		if n <= 1024 {
			if len(bodies) != 0 || err != nil || s.Held() != 2 || s.Err() != nil {
				t.Fatalf("a length of %d: %x, %v, %d held, %v", n, bodies, err, s.Held(), s.Err())
			}
			continue
		}
		checkFault(t, "a length of "+strconv.Itoa(n), err, 1, api.ErrLong, 0)
		checkFault(t, "asked behind a length of "+strconv.Itoa(n), s.Err(), 1, api.ErrLong, 0)
		if len(bodies) != 0 || s.Held() != 0 {
			t.Fatalf("a length of %d: %x, %d held", n, bodies, s.Held())
		}
	}
}

func TestP501NoSealWhenItIsWhole(t *testing.T) {
	for _, n := range []int{0, 1, 4, 40} {
		b := road(n)
		for bit := 16; bit < 8*len(b); bit++ {
			bad := turned(b, bit)
			what := "of " + strconv.Itoa(n) + " bytes, bit " + strconv.Itoa(bit) + " turned"
			s := New()
			if bodies, err := s.Feed(bad[:len(bad)-1]); len(bodies) != 0 || err != nil || s.Held() != len(bad)-1 || s.Err() != nil {
				t.Fatalf("%s: asked ahead: %d bodies, %v, %d held", what, len(bodies), err, s.Held())
			}
			bodies, err := s.Feed(bad[len(bad)-1:])
			checkFault(t, what, err, 0, api.ErrSum, n)
			if len(bodies) != 0 {
				t.Errorf("%s: told: %x", what, bodies)
			}
			checkDead(t, what, s, 0, api.ErrSum, n)
		}
	}
}

func TestP501WhatWasWholeAheadIsToldBesideTheError(t *testing.T) {
	for _, c := range []struct {
		bad  []byte
		want api.Errno
		size int
	}{
		{turned(road(4), 24), api.ErrSum, 4},
		{[]byte{1, 4}, api.ErrLong, 0},
		{[]byte{255, 255, 0}, api.ErrLong, 0},
		{append([]byte{1, 4}, make([]byte, 2000)...), api.ErrLong, 0},
	} {
		for ahead := range 4 {
			for beside := range 4 {
				what := strconv.Itoa(ahead) + " ahead, " + strconv.Itoa(beside) + " beside"
				s := New()
				for range ahead {
					s.Feed(road(6))
				}
				w := s.Twin()
				l := append(road([]int{0, 1, 1024}[:beside]...), c.bad...)
				bodies, err := s.Feed(append(l, road(5, 5)...))
				checkFault(t, what, err, ahead+beside, c.want, c.size)
				if !equal(bodies, [][]byte{body(0), body(1), body(1024)}[:beside]) {
					t.Errorf("%s: %.80x", what, bodies)
				}
				checkDead(t, what, s, ahead+beside, c.want, c.size)
				checkDead(t, what+", a twin", s.Twin(), ahead+beside, c.want, c.size)
				if bodies, err := w.Feed(road(5, 5)); len(bodies) != 2 || err != nil || w.Err() != nil {
					t.Errorf("%s: a twin of before: %d bodies, %v, %v", what, len(bodies), err, w.Err())
				}
				_, err = All(append(l, road(5, 5)...))
				checkFault(t, what+", All", err, beside, c.want, c.size)
			}
		}
	}
}

func TestP501TheFirstBadFrameIsTold(t *testing.T) {
	long, noSeal := []byte{1, 4}, turned(road(4), 24)
	for _, b := range [][]byte{
		append(bytes.Clone(long), noSeal...),
		append(bytes.Clone(noSeal), long...),
		append(bytes.Clone(long), 7),
		append(bytes.Clone(noSeal), 7),
		append(road(1), append(bytes.Clone(noSeal), long...)...),
	} {
		checkAll(t, b)
		checkRoad(t, "two that are bad", b)
		checkRoad(t, "two that are bad, byte by byte", steps(b, 1)...)
	}
}

func TestP501TextsOfFaults(t *testing.T) {
	for _, c := range []struct {
		b    []byte
		want string
	}{
		{append(road(1, 2), 0, 5), "frame 2: long"},
		{append(road(1, 2), turned(road(9), 30)...), "frame 2: sum 13: sum"},
		{append(road(1, 2), 0, 0, 0), "frame 2: short"},
	} {
		if bodies, err := All(c.b); len(bodies) != 0 || textOf(err) != c.want {
			t.Errorf("All(%x): %x, %v; want %s", c.b, bodies, err, c.want)
		}
	}
	if _, err := Wrap(make([]byte, 1025)); textOf(err) != "frame 0: long" {
		t.Errorf("Wrap: %v", err)
	}
}

func TestP501TwinsGoTheirOwnWays(t *testing.T) {
	b := road(3, 300, 5)
	for cut := range len(b) + 1 {
		s := New()
		first, _ := s.Feed(b[:cut])
		w := s.Twin()
		s.Feed(bytes.Repeat([]byte{'q'}, 40)) // dead, or held behind what is held: nothing of the twin's
		rest, err := w.Feed(b[cut:])
		if err != nil || w.Held() != 0 || !equal(append(first, rest...), [][]byte{body(3), body(300), body(5)}) {
			t.Fatalf("cut at %d: the twin: %d and %d bodies, %v, %d held", cut, len(first), len(rest), err, w.Held())
		}
		s = New()
		first, _ = s.Feed(b[:cut])
		w = s.Twin()
		w.Feed(bytes.Repeat([]byte{'q'}, 40))
		rest, err = s.Feed(b[cut:])
		if err != nil || s.Held() != 0 || !equal(append(first, rest...), [][]byte{body(3), body(300), body(5)}) {
			t.Fatalf("cut at %d: what has a twin: %d and %d bodies, %v, %d held", cut, len(first), len(rest), err, s.Held())
		}
	}
}

func TestP501TwinOfATwin(t *testing.T) {
	s := New()
	s.Feed(road(1, 2, 3)[:20])
	w := s.Twin().Twin()
	if w == s || w.Held() != s.Held() || w.Err() != nil {
		t.Errorf("a twin's twin: %d held, %v; want %d", w.Held(), w.Err(), s.Held())
	}
	_, err := w.Feed(append(road(1, 2, 3)[20:], 0, 200))
	checkFault(t, "a twin's twin", err, 3, api.ErrLong, 0)
	if s.Err() != nil {
		t.Errorf("it died with its twin's twin: %v", s.Err())
	}
}

func TestP501All(t *testing.T) {
	for _, b := range [][]byte{nil, {}} {
		if bodies, err := All(b); len(bodies) != 0 || err != nil {
			t.Errorf("All of nothing: %x, %v", bodies, err)
		}
	}
	b := road(0, 7, 1024, 1)
	if bodies, err := All(b); err != nil || !equal(bodies, [][]byte{body(0), body(7), body(1024), body(1)}) {
		t.Errorf("All: %d bodies, %v", len(bodies), err)
	}
	for cut := range len(b) {
		checkAll(t, b[:cut])
	}
	for bit := range 8 * 40 {
		checkAll(t, turned(b, bit))
	}
}

func TestP501AllOfWhatEndsTooEarly(t *testing.T) {
	for ahead := range 4 {
		b := road([]int{0, 9, 1024}[:ahead]...)
		for k := 1; k < len(road(3)); k++ {
			bodies, err := All(append(bytes.Clone(b), road(3)[:k]...))
			checkFault(t, "All of "+strconv.Itoa(ahead)+" and "+strconv.Itoa(k)+" bytes", err, ahead, api.ErrShort, 0)
			if len(bodies) != 0 {
				t.Errorf("All: %d bodies beside %v", len(bodies), err)
			}
		}
	}
}

func TestP1AnyBytesAreAnswered(t *testing.T) {
	state := uint32(1)
	next := func(n int) int {
		state = state*1664525 + 1013904223
		return int(state>>8) % n
	}
	for range 3000 {
		var b []byte
		for range next(5) {
			b = append(b, road(next(40))...)
		}
		for range next(3) {
			b = append(b, byte(next(256)), byte(next(6)), byte(next(256)))
		}
		if len(b) > 0 && next(2) == 0 {
			b = turned(b, next(8*len(b)))
		}
		var pieces [][]byte
		for rest := b; len(rest) > 0; {
			n := 1 + next(len(rest))
			pieces, rest = append(pieces, rest[:n]), rest[n:]
		}
		checkRoad(t, "any bytes", pieces...)
		checkAll(t, b)
	}
}

func TestP2WhatIsHandedInStaysAsItIs(t *testing.T) {
	for _, b := range [][]byte{nil, road(5), road(3, 1024, 0)[:700], append(road(2), 0, 9), turned(road(9), 40)} {
		view, whole := roomy(b)
		was := bytes.Clone(whole)
		s := New()
		s.Feed(view)
		s.Feed(road(1))
		Wrap(view)
		All(view)
		if !bytes.Equal(whole, was) {
			t.Errorf("%.80x, handed in, is now %.80x", was, whole)
		}
	}
}

func TestP2NothingIsKept(t *testing.T) {
	b := road(5, 300, 2)
	for cut := range len(b) + 1 {
		s := New()
		first, second := bytes.Clone(b[:cut]), bytes.Clone(b[cut:])
		bodies, _ := s.Feed(first)
		fill(first)
		rest, err := s.Feed(second)
		fill(second)
		if bodies = append(bodies, rest...); err != nil || !equal(bodies, [][]byte{body(5), body(300), body(2)}) {
			t.Fatalf("cut at %d, and written over: %d bodies, %v", cut, len(bodies), err)
		}
	}
}

func TestP2AnswersAreNewMemory(t *testing.T) {
	view, whole := roomy(road(5, 0, 300, 2))
	was := bytes.Clone(whole)
	s := New()
	first, _ := s.Feed(view[:20])
	w := s.Twin()
	second, _ := s.Feed(view[20:])
	bodies := append(slices.Clone(first), second...)
	want := [][]byte{body(5), body(0), body(300), body(2)}
	for i := range bodies {
		for j := range bodies {
			if !bytes.Equal(bodies[j], want[j]) {
				t.Fatalf("body %d, ahead of body %d: %x", j, i, bodies[j])
			}
		}
		fill(bodies[i])
		want[i] = bytes.Clone(bodies[i])
	}
	if rest, err := w.Feed(view[20:]); err != nil || len(rest) != 2 || !bytes.Equal(rest[0], body(300)) || !bytes.Equal(rest[1], body(2)) {
		t.Errorf("what is held changes with what was answered: %d bodies, %v", len(rest), err)
	}
	frame, err := Wrap(view[2:7])
	fill(frame)
	if err != nil || !bytes.Equal(whole, was) {
		t.Errorf("what was answered shares memory with what was handed in: %v", err)
	}
}

func TestP2FaultsAreTheCallersOwn(t *testing.T) {
	for _, c := range []struct {
		bad  []byte
		want api.Errno
		size int
	}{{[]byte{1, 4}, api.ErrLong, 0}, {turned(road(4), 24), api.ErrSum, 4}} {
		s := New()
		_, err := s.Feed(append(road(2), c.bad...))
		w := s.Twin()
		_, again := s.Feed(nil)
		for _, err := range []error{err, again, s.Err(), w.Err()} {
			checkFault(t, "told", err, 1, c.want, c.size)
			var f, g *api.Fault
			if errors.As(err, &f); errors.As(f.Err, &g) {
				g.Part, g.At, g.Err = "", -1, nil
			}
			f.Part, f.At, f.Err = "", -1, nil
			checkDead(t, "behind what was written on a fault", s, 1, c.want, c.size)
			checkDead(t, "a twin, behind what was written on a fault", w, 1, c.want, c.size)
		}
	}
}

func TestP3TheSameCallsAnswerTheSame(t *testing.T) {
	b := append(road(3, 40, 0), turned(road(8), 50)...)
	first, err := New().Feed(b)
	for range 3 {
		again, errAgain := New().Feed(b)
		if !equal(first, again) || textOf(err) != textOf(errAgain) {
			t.Errorf("two streams differ: %d bodies, %v; %d, %v", len(first), err, len(again), errAgain)
		}
		checkAll(t, b)
	}
}

func TestP5WhatWrapAndAllRefuseChangesNothing(t *testing.T) {
	s := New()
	s.Feed(road(6)[:9])
	Wrap(make([]byte, 1025))
	All([]byte{0, 200})
	if bodies, err := s.Feed(road(6)[9:]); len(bodies) != 1 || !bytes.Equal(bodies[0], body(6)) || err != nil {
		t.Errorf("behind what was refused elsewhere: %x, %v", bodies, err)
	}
}

func TestP7NewStreamsAreTheCallersOwn(t *testing.T) {
	s, other := New(), New()
	s.Feed([]byte{0, 200})
	if other == s || other.Err() != nil || other.Held() != 0 || New().Err() != nil {
		t.Errorf("what came to one stream came to another: %v, %d held", other.Err(), other.Held())
	}
}
