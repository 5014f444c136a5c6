package crc

import (
	"bytes"
	"errors"
	"hash/crc32"
	"strings"
	"testing"

	"straddle/api"
)

// samples are texts of every length about the seal's own, of bytes of every kind.
func samples() [][]byte {
	l := [][]byte{nil, {}, {0}, {0xFF}, []byte("123456789"), bytes.Repeat([]byte{0}, 40), bytes.Repeat([]byte{0xFF}, 40)}
	every := make([]byte, 256)
	for i := range every {
		every[i] = byte(i)
	}
	l = append(l, every, bytes.Repeat(every, 300))
	for n := range 20 {
		b := make([]byte, n)
		for i := range b {
			b[i] = byte(37*i + 11*n + 5)
		}
		l = append(l, b)
	}
	return l
}

// slow tells a sum as the promise has it: all ones ahead, the polynomial bit by bit, turned over behind.
func slow(b []byte) uint32 {
	sum := uint32(0xFFFFFFFF)
	for _, c := range b {
		for bit := range 8 {
			odd := sum&1 != uint32(c>>bit&1)
			sum >>= 1
			if odd {
				sum ^= 0xEDB88320
			}
		}
	}
	return ^sum
}

// roomy tells a copy of b with spare room behind it, and the whole of that memory.
func roomy(b []byte) (view, whole []byte) {
	whole = append(bytes.Clone(b), bytes.Repeat([]byte{0xA5}, 16)...)
	return whole[:len(b)], whole
}

// checkFault asks whether Open of b answers nothing but a Fault that wraps want.
func checkFault(t *testing.T, b []byte, want api.Errno) {
	t.Helper()
	body, err := Open(b)
	var f *api.Fault
	if !errors.As(err, &f) || f.Part != "sum" || f.At != len(b) || f.Err != want || !errors.Is(err, want) {
		t.Errorf("Open(%.80x): %v; want a fault of %v at %d", b, err, want, len(b))
	}
	if len(body) != 0 {
		t.Errorf("Open(%.80x): %.80x beside %v", b, body, err)
	}
}

func TestP201SumWordForWord(t *testing.T) {
	for s, want := range map[string]uint32{
		"":                         0,
		"\x00":                     0xD202EF8D,
		"\xff":                     0xFF000000,
		"\x00\x00\x00\x00":         0x2144DF1C,
		"\xff\xff\xff\xff":         0xFFFFFFFF,
		"a":                        0xE8B7BE43,
		"abc":                      0x352441C2,
		"123456789":                0xCBF43926,
		strings.Repeat("\x00", 32): 0x190A55AD,
		strings.Repeat("\xff", 32): 0xFF6CAB0B,
		"The quick brown fox jumps over the lazy dog": 0x414FA339,
	} {
		if got := Sum([]byte(s)); got != want {
			t.Errorf("Sum(%q): %08x; want %08x", s, got, want)
		}
	}
}

func TestP201SumIsTheRuleBitByBit(t *testing.T) {
	for _, b := range samples() {
		if got, want := Sum(b), slow(b); got != want || want != crc32.ChecksumIEEE(b) {
			t.Errorf("Sum(%.80x): %08x; want %08x", b, got, want)
		}
	}
	for c := range 256 {
		if b := []byte{byte(c)}; Sum(b) != slow(b) {
			t.Errorf("Sum(%x): %08x; want %08x", b, Sum(b), slow(b))
		}
	}
}

func TestP201SumOfParts(t *testing.T) {
	if got := Sum(); got != 0 {
		t.Errorf("Sum of no part: %08x", got)
	}
	if got := Sum(nil, []byte{}, nil); got != 0 {
		t.Errorf("Sum of empty parts: %08x", got)
	}
	whole := []byte("calls and puts\x00\xff, and back")
	want := slow(whole)
	for i := range len(whole) + 1 {
		for j := i; j <= len(whole); j++ {
			if got := Sum(whole[:i], whole[i:j], nil, whole[j:]); got != want {
				t.Errorf("Sum of %d, %d and the rest: %08x; want %08x", i, j-i, got, want)
			}
		}
	}
	if Sum([]byte("a"), []byte("b")) == Sum([]byte("b"), []byte("a")) {
		t.Error("Sum: the parts' order counts for nothing")
	}
}

func TestP201AddGoesOn(t *testing.T) {
	for _, b := range samples() {
		if got, want := Add(0, b), slow(b); got != want {
			t.Errorf("Add(0, %.80x): %08x; want %08x", b, got, want)
		}
		for i := 0; i <= len(b); i += 1 + len(b)/9 {
			if got, want := Add(Sum(b[:i]), b[i:]), slow(b); got != want {
				t.Errorf("Add of %.80x from %d on: %08x; want %08x", b, i, got, want)
			}
		}
		for _, sum := range []uint32{1, 0x7FFFFFFF, 0x80000000, 0xEDB88320, 0xFFFFFFFF} {
			if got, want := Add(sum, b), crc32.Update(sum, crc32.IEEETable, b); got != want {
				t.Errorf("Add(%08x, %.80x): %08x; want %08x", sum, b, got, want)
			}
		}
	}
	for _, sum := range []uint32{0, 1, 0xFFFFFFFF} {
		if Add(sum, nil) != sum || Add(sum, []byte{}) != sum {
			t.Errorf("Add(%08x) of nothing: %08x, %08x", sum, Add(sum, nil), Add(sum, []byte{}))
		}
	}
}

func TestP201SealWordForWord(t *testing.T) {
	for s, want := range map[string]string{
		"":                 "\x00\x00\x00\x00",
		"\x00":             "\x00\x8d\xef\x02\xd2",
		"\xff\xff\xff\xff": "\xff\xff\xff\xff\xff\xff\xff\xff",
		"123456789":        "123456789\x26\x39\xf4\xcb",
	} {
		if got := Seal([]byte(s)); string(got) != want {
			t.Errorf("Seal(%q): %q; want %q", s, got, want)
		}
	}
	if got := Seal(nil); string(got) != "\x00\x00\x00\x00" {
		t.Errorf("Seal(nil): %q", got)
	}
}

func TestP201OpenTellsWhatWasSealed(t *testing.T) {
	for _, b := range samples() {
		sealed := Seal(b)
		sum := slow(b)
		want := append(bytes.Clone(b), byte(sum), byte(sum>>8), byte(sum>>16), byte(sum>>24))
		if !bytes.Equal(sealed, want) {
			t.Errorf("Seal(%.80x): %.80x; want %.80x", b, sealed, want)
		}
		if got, err := Open(sealed); !bytes.Equal(got, b) || err != nil {
			t.Errorf("Open(Seal(%.80x)): %.80x, %v", b, got, err)
		}
		twice := Seal(sealed)
		if got, err := Open(twice); !bytes.Equal(got, sealed) || err != nil {
			t.Errorf("Open of a seal of a seal of %.80x: %.80x, %v", b, got, err)
		}
	}
}

func TestP201OpenTooShort(t *testing.T) {
	checkFault(t, nil, api.ErrShort)
	for n := range sumLen {
		checkFault(t, make([]byte, n), api.ErrShort)
		checkFault(t, bytes.Repeat([]byte{0xFF}, n), api.ErrShort)
		checkFault(t, Seal(nil)[:n], api.ErrShort)
		view, _ := roomy(make([]byte, n)) // room behind the end is none of it
		checkFault(t, view, api.ErrShort)
	}
	if body, err := Open(make([]byte, sumLen)); len(body) != 0 || err != nil {
		t.Errorf("Open of the shortest seal: %x, %v", body, err)
	}
}

func TestP201OpenOfNoSeal(t *testing.T) {
	for _, b := range samples() {
		if len(b) > 256 {
			continue
		}
		sealed := Seal(b)
		for i := range 8 * len(sealed) {
			turned := bytes.Clone(sealed)
			turned[i/8] ^= 1 << (i % 8)
			checkFault(t, turned, api.ErrSum)
		}
	}
	for _, s := range []string{
		"\x00\x00\x00\x01", "\xff\xff\xff\xff", "\x01\x00\x00\x00", // four bytes are enough, but no seal
		"123456789",
		"123456789\xcb\xf4\x39\x26",     // the highest first
		"123456789\xd9\xc6\x0b\x34",     // not turned over
		"123456789\x26\x39\xf4\xcb\x00", // a byte too many
		"123456789\x26\x39\xf4",         // one too few
		"\x00\x00\x00\x00\x00",
	} {
		checkFault(t, []byte(s), api.ErrSum)
	}
}

func TestP201FaultsAreTheCallersOwn(t *testing.T) {
	for _, c := range []struct {
		b    string
		want string
		err  api.Errno
	}{{"abc", "sum 3: short", api.ErrShort}, {"abcde", "sum 5: sum", api.ErrSum}} {
		_, err := Open([]byte(c.b))
		var f *api.Fault
		if !errors.As(err, &f) || err.Error() != c.want || errors.Unwrap(err) != c.err {
			t.Fatalf("Open(%q): %v; want %s", c.b, err, c.want)
		}
		f.At, f.Err = -1, nil
		checkFault(t, []byte(c.b), c.err)
	}
}

func TestP2WhatIsHandedInStaysAsItIs(t *testing.T) {
	for _, b := range append(samples(), Seal([]byte("straddle")), Seal(nil)) {
		view, whole := roomy(b)
		was := bytes.Clone(whole)
		Sum(view, view)
		Add(7, view)
		Seal(view)
		Open(view)
		if !bytes.Equal(whole, was) {
			t.Errorf("%.80x, handed in, is now %.80x", was, whole)
		}
	}
	parts := [][]byte{[]byte("a"), nil, []byte("b")}
	Sum(parts...)
	if string(parts[0]) != "a" || parts[1] != nil || string(parts[2]) != "b" {
		t.Errorf("the list of parts, handed in, is now %q", parts)
	}
}

func TestP2AnswersAreNewMemory(t *testing.T) {
	for _, b := range samples() {
		view, whole := roomy(b)
		sealed := Seal(view)
		sealedView, sealedWhole := roomy(sealed)
		opened, err := Open(sealedView)
		if err != nil {
			t.Fatalf("Open(Seal(%.80x)): %v", b, err)
		}
		was, sealedWas := bytes.Clone(whole), bytes.Clone(sealedWhole)
		fill(sealed)
		fill(opened)
		if !bytes.Equal(whole, was) || !bytes.Equal(sealedWhole, sealedWas) {
			t.Errorf("what was answered of %.80x shares memory with what was handed in", b)
		}
	}
}

// fill writes over b and its spare room.
func fill(b []byte) {
	b = b[:cap(b)]
	for i := range b {
		b[i] = 0x5A
	}
}

func TestP2NothingIsKept(t *testing.T) {
	b := []byte("straddle")
	sealed := Seal(b)
	opened, err := Open(sealed)
	fill(b)
	if got, again := Open(sealed); string(got) != "straddle" || again != nil {
		t.Errorf("a seal changes with what it was made of: %q, %v", got, again)
	}
	fill(sealed)
	if string(opened) != "straddle" || err != nil {
		t.Errorf("what was opened changes with its seal: %q, %v", opened, err)
	}
}

func TestP3TheSameCallsAnswerTheSame(t *testing.T) {
	for _, b := range samples() {
		sum, sealed := Sum(b), Seal(b)
		checkFault(t, append(bytes.Clone(sealed), 1), api.ErrSum) // what is refused changes nothing
		if Sum(b) != sum || !bytes.Equal(Seal(b), sealed) || Add(sum, b) != Add(sum, b) {
			t.Errorf("of %.80x two answers differ", b)
		}
	}
}
