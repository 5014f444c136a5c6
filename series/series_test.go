package series

import (
	"errors"
	"math"
	"math/big"
	"regexp"
	"slices"
	"strconv"
	"strings"
	"testing"
	"unsafe"

	"straddle/api"
)

const (
	most  = math.MaxInt64
	least = math.MinInt64
)

var (
	classForm  = regexp.MustCompile(`^[A-Z][A-Z0-9]{0,7}$`)
	numberForm = regexp.MustCompile(`^(0|-?[1-9][0-9]*)$`)
)

// classes are names of every length, and what is none, one byte beside one that is.
func classes() []string {
	return []string{
		"A", "Z", "M", "A0", "A9", "AB1", "ABCDEFGH", "A2345678", "ZZZZZZZZ", "Z9999999",
		"", " ", "0", "9", "1A", "12345678", "ABCDEFGHI", "A23456789", "a", "z", "Aa", "aA", "ABCDEFGh", "A-B", "A_", "A.", "A ", " A", "A B",
		"@", "[", "A@", "A[", "A/", "A:", "/A", ":A", "A\n", "\nA", "A\x00", "\x00", "\xff", "A\xc3", "Ä", "AÄ", "А", "A１", "١", "A١", strings.Repeat("A", 300),
	}
}

// expiries, strikes and rights are numbers about both ends of what may be, and far beyond.
func expiries() []int64 {
	return []int64{1, 2, 30, 99999, 100000, 0, -1, 100001, 1000000, 1<<32 + 1, least, most}
}

func strikes() []int64 {
	return []int64{1, 2, 500, 100001, 999999, 1000000, 0, -1, -500, 1000001, 1<<32 + 1, least, most}
}

func rights() []int {
	return []int{Call, Put, 0, -1, -2, 3, 4, 'C', 'P', 1<<32 + 1, 1<<32 + 2, least, most}
}

// all are the series of those classes, expiries, strikes and rights.
func all() []Series {
	var l []Series
	for _, class := range classes() {
		for _, expiry := range expiries() {
			for _, strike := range strikes() {
				for _, right := range rights() {
					l = append(l, Series{class, expiry, strike, right})
				}
			}
		}
	}
	return l
}

// judged tells what the promise makes of s: what is wrong, and at which word.
func judged(s Series) (int, api.Errno) {
	if !classForm.MatchString(s.Class) {
		return 0, api.ErrName
	}
	if s.Expiry < 1 || s.Expiry > 100000 {
		return 1, api.ErrArg
	}
	if s.Strike < 1 || s.Strike > 1000000 {
		return 3, api.ErrArg
	}
	if s.Right != 1 && s.Right != 2 {
		return 2, api.ErrArg
	}
	return 0, api.OK
}

// number tells what the promise of numbers makes of a word.
func number(word string) (int64, api.Errno) {
	if !numberForm.MatchString(word) {
		return 0, api.ErrForm
	}
	n, _ := new(big.Int).SetString(word, 10)
	if !n.IsInt64() {
		return 0, api.ErrRange
	}
	return n.Int64(), api.OK
}

// read tells what the promise makes of a text: its series, or what is wrong, and at which place.
func read(t string) (Series, int, api.Errno) {
	words := []string{""}
	for i := range len(t) {
		if t[i] == ' ' {
			words = append(words, "")
		} else {
			words[len(words)-1] += t[i : i+1]
		}
	}
	if len(words) != 4 {
		return Series{}, len(words), api.ErrForm
	}
	s := Series{Class: words[0]}
	var wrong api.Errno
	if s.Expiry, wrong = number(words[1]); wrong != api.OK {
		return Series{}, 1, wrong
	}
	s.Right = 1 + slices.Index([]string{"C", "P"}, words[2])
	if s.Right == 0 {
		return Series{}, 2, api.ErrForm
	}
	if s.Strike, wrong = number(words[3]); wrong != api.OK {
		return Series{}, 3, wrong
	}
	if at, wrong := judged(s); wrong != api.OK {
		return Series{}, at, wrong
	}
	return s, 0, api.OK
}

// checkParse asks whether Parse tells that of t: s of OK, else nothing but a Fault at that place that wraps want itself.
func checkParse(t *testing.T, text string, s Series, at int, want api.Errno) {
	t.Helper()
	got, err := Parse(text)
	if want == api.OK {
		if got != s || err != nil {
			t.Errorf("Parse of %.60q: %+v, %v; want %+v", text, got, err, s)
		}
		return
	}
	f, ok := err.(*api.Fault)
	if got != (Series{}) || !ok || f.Part != "word" || f.At != at || f.Err != want || !errors.Is(err, want) {
		t.Errorf("Parse of %.60q: %.60v, %v; want a fault of %v at %d", text, got, err, want, at)
	}
}

// sign tells -1, 0, 1 of a number.
func sign(n int) int { return max(-1, min(n, 1)) }

func TestP701GoodWordForWord(t *testing.T) {
	for i, class := range classes() {
		if want := i < 10; Good(class) != want || classForm.MatchString(class) != want {
			t.Errorf("Good of %.20q: %v; want %v", class, !want, want)
		}
	}
}

func TestP701GoodEveryByteAtEveryPlace(t *testing.T) {
	for length := 1; length <= 10; length++ {
		for at := range length {
			for b := range 256 {
				class := []byte(strings.Repeat("A", length))
				class[at] = byte(b)
				is := b >= 'A' && b <= 'Z' || b >= '0' && b <= '9' && at > 0
				if got := Good(string(class)); got != (is && length <= 8) {
					t.Errorf("Good of %q: %v", class, got)
				}
			}
		}
	}
}

func TestP701GoodCountsBytes(t *testing.T) {
	for n := range 300 {
		if got := Good(strings.Repeat("Q", n)); got != (n >= 1 && n <= 8) {
			t.Errorf("Good of %d letters: %v", n, got)
		}
		if got := Good("Q" + strings.Repeat("7", n)); got != (n <= 7) {
			t.Errorf("Good of a letter and %d digits: %v", n, got)
		}
	}
}

func TestP701CheckWordForWord(t *testing.T) {
	for _, c := range []struct {
		s    Series
		want api.Errno
	}{
		{Series{"AB1", 30, 500, Put}, api.OK},
		{Series{"AB1", 30, 500, Call}, api.OK},
		{Series{"A", 1, 1, Call}, api.OK},
		{Series{"ABCDEFGH", 100000, 1000000, Put}, api.OK},
		{Series{}, api.ErrName},
		{Series{"", 30, 500, Put}, api.ErrName},
		{Series{"ABCDEFGHI", 30, 500, Put}, api.ErrName},
		{Series{"1A", 30, 500, Put}, api.ErrName},
		{Series{"ab", 30, 500, Put}, api.ErrName},
		{Series{"ab", 0, 500, Put}, api.ErrName}, // ahead of all else
		{Series{"ab", 30, 0, Put}, api.ErrName},
		{Series{"ab", 30, 500, 0}, api.ErrName},
		{Series{"ab", 0, 0, 0}, api.ErrName},
		{Series{"AB1", 0, 500, Put}, api.ErrArg},
		{Series{"AB1", -1, 500, Put}, api.ErrArg},
		{Series{"AB1", 100001, 500, Put}, api.ErrArg},
		{Series{"AB1", least, 500, Put}, api.ErrArg},
		{Series{"AB1", most, 500, Put}, api.ErrArg},
		{Series{"AB1", 30, 0, Put}, api.ErrArg},
		{Series{"AB1", 30, -1, Put}, api.ErrArg},
		{Series{"AB1", 30, 1000001, Put}, api.ErrArg},
		{Series{"AB1", 30, least, Put}, api.ErrArg},
		{Series{"AB1", 30, most, Put}, api.ErrArg},
		{Series{"AB1", 30, 500, 0}, api.ErrArg},
		{Series{"AB1", 30, 500, 3}, api.ErrArg},
		{Series{"AB1", 30, 500, -1}, api.ErrArg},
		{Series{"AB1", 30, 500, 'C'}, api.ErrArg},
		{Series{"AB1", 0, 0, 0}, api.ErrArg},
	} {
		if got := Check(c.s); got != c.want {
			t.Errorf("Check of %+v: %v; want %v", c.s, got, c.want)
		}
	}
}

func TestP701CheckIsThePlainReading(t *testing.T) {
	found := map[api.Errno]int{}
	for _, s := range all() {
		if t.Failed() { // enough is told
			return
		}
		_, want := judged(s)
		found[want]++
		if got := Check(s); got != want {
			t.Errorf("Check of %.60v: %v; want %v", s, got, want)
		}
	}
	for _, e := range []api.Errno{api.OK, api.ErrName, api.ErrArg} {
		if found[e] < 500 {
			t.Errorf("only %d series of %v were asked about", found[e], e)
		}
	}
}

func TestP701CheckEveryExpiryAndStrike(t *testing.T) {
	for n := int64(-100); n <= 1000100; n++ {
		if t.Failed() { // enough is told
			return
		}
		if got := Check(Series{"A", n, 1, Call}) == api.OK; got != (n >= 1 && n <= 100000) {
			t.Errorf("Check of expiry %d: %v", n, got)
		}
		if got := Check(Series{"A", 1, n, Put}) == api.OK; got != (n >= 1 && n <= 1000000) {
			t.Errorf("Check of strike %d: %v", n, got)
		}
		if got := Check(Series{"A", 1, 1, int(n)}) == api.OK; got != (n == 1 || n == 2) {
			t.Errorf("Check of right %d: %v", n, got)
		}
	}
}

func TestP701CompareGoesByClassExpiryStrikeRight(t *testing.T) {
	rising := []Series{
		{"", 9, 9, 9},
		{"A", 9, 9, Put},
		{"A1", 9, 9, Put},  // digits are ahead of letters
		{"A10", 9, 9, Put}, // by their signs, not as a number
		{"A2", 9, 9, Put},
		{"AA", 9, 9, Put},
		{"AB", 1, 9, Put},
		{"AB", 2, 3, Put},
		{"AB", 2, 4, Call},
		{"AB", 2, 4, Put},
		{"AB", 2, 40, Call},
		{"AB", 10, 1, Call}, // as a number, not by its signs
		{"ABC", 1, 1, Call},
		{"B", 1, 1, Call},
		{"b", least, most, most},
		{"b", 0, least, most},
		{"b", 0, most, least},
		{"b", 0, most, most},
		{"b", most, least, least},
	}
	for i, a := range rising {
		for k, b := range rising {
			if got := Compare(a, b); got != sign(i-k) {
				t.Errorf("Compare of %+v, %+v: %d", a, b, got)
			}
		}
	}
}

func TestP701CompareIsThePlainReading(t *testing.T) {
	plain := func(a, b Series) int {
		switch {
		case a.Class != b.Class:
			return strings.Compare(a.Class, b.Class)
		case a.Expiry != b.Expiry:
			return big.NewInt(a.Expiry).Cmp(big.NewInt(b.Expiry))
		case a.Strike != b.Strike:
			return big.NewInt(a.Strike).Cmp(big.NewInt(b.Strike))
		}
		return big.NewInt(int64(a.Right)).Cmp(big.NewInt(int64(b.Right)))
	}
	var l []Series
	for _, class := range []string{"A", "AB", "Z", "", "a"} {
		for _, expiry := range []int64{1, 2, 10, -1, least, most} {
			for _, strike := range []int64{1, 2, 10, -1, least, most} {
				for _, right := range []int{Call, Put, -1, least, most} {
					l = append(l, Series{class, expiry, strike, right})
				}
			}
		}
	}
	for _, a := range l {
		if t.Failed() { // enough is told
			return
		}
		for _, b := range l {
			if got := Compare(a, b); got != plain(a, b) {
				t.Errorf("Compare of %+v, %+v: %d; want %d", a, b, got, plain(a, b))
			}
		}
	}
}

func TestP701TextWordForWord(t *testing.T) {
	for _, c := range []struct {
		s    Series
		want string
	}{
		{Series{"AB1", 30, 500, Put}, "AB1 30 P 500"},
		{Series{"AB1", 30, 500, Call}, "AB1 30 C 500"},
		{Series{"P", 1, 2, Call}, "P 1 C 2"},
		{Series{"C", 2, 1, Put}, "C 2 P 1"},
		{Series{"ABCDEFGH", 100000, 1000000, Put}, "ABCDEFGH 100000 P 1000000"},
		{Series{"A0000000", 1, 1, Call}, "A0000000 1 C 1"},
	} {
		if got := Text(c.s); got != c.want {
			t.Errorf("Text of %+v: %q; want %q", c.s, got, c.want)
		}
		checkParse(t, c.want, c.s, 0, api.OK)
	}
}

func TestP701ParseTellsTextBack(t *testing.T) {
	count := 0
	for _, s := range all() {
		if _, wrong := judged(s); wrong == api.OK {
			count++
			checkParse(t, Text(s), s, 0, api.OK)
		}
	}
	if count < 500 {
		t.Errorf("only %d series were told and read", count)
	}
	for n := int64(1); n <= 100000; n++ {
		if t.Failed() { // enough is told
			return
		}
		s := Series{"A" + strconv.FormatInt(n, 36), n, 10 * n, 1 + int(n%2)}
		s.Class = strings.ToUpper(s.Class)
		want := s.Class + " " + strconv.FormatInt(n, 10) + " " + "CP"[n%2:n%2+1] + " " + strconv.FormatInt(10*n, 10)
		if got := Text(s); got != want {
			t.Errorf("Text of %+v: %q; want %q", s, got, want)
		}
		checkParse(t, want, s, 0, api.OK)
	}
}

func TestP701ParseHowManyWords(t *testing.T) {
	for _, c := range []struct {
		t  string
		at int
	}{
		{"", 1},
		{"AB", 1},
		{"AB30C5", 1},
		{" ", 2},
		{"AB 30", 2},
		{"AB 30 C", 3},
		{"AB 30 C5", 3},
		{"AB 30 C 5 6", 5},
		{"AB 30 C 5 ", 5},
		{" AB 30 C 5", 5},
		{"AB  30 C 5", 5},
		{"AB 30  C 5", 5},
		{"AB 30 C  5", 5},
		{"    ", 5},
		{"ab x Q y z", 5}, // ahead of all that is wrong with a word
		{"ab x Q", 3},
		{"AB\t30\tC\t5", 1}, // a blank is a blank
		{"AB\t30 C 5", 3},
		{"AB\n30 C 5", 3},
		{"AB\u00a030 C 5", 3},
		{"AB,30,C,5", 1},
	} {
		checkParse(t, c.t, Series{}, c.at, api.ErrForm)
	}
	for n := range 3000 {
		if n != 3 {
			checkParse(t, strings.Repeat(" ", n), Series{}, n+1, api.ErrForm)
			checkParse(t, strings.Repeat("A ", n)+"1", Series{}, n+1, api.ErrForm)
		}
	}
}

func TestP701ParseAWordThatIsNothing(t *testing.T) {
	for _, c := range []struct {
		t    string
		at   int
		want api.Errno
	}{
		{" 30 C 5", 0, api.ErrName},
		{"AB  C 5", 1, api.ErrForm},
		{"AB 30  5", 2, api.ErrForm},
		{"AB 30 C ", 3, api.ErrForm},
		{"   ", 1, api.ErrForm},
	} {
		checkParse(t, c.t, Series{}, c.at, c.want)
	}
}

func TestP701ParseWordByWord(t *testing.T) {
	for _, c := range []struct {
		t    string
		at   int
		want api.Errno
	}{
		{"AB x C 5", 1, api.ErrForm},
		{"AB 030 C 5", 1, api.ErrForm},
		{"AB +30 C 5", 1, api.ErrForm},
		{"AB -0 C 5", 1, api.ErrForm},
		{"AB 3_0 C 5", 1, api.ErrForm},
		{"AB 30\t C 5", 1, api.ErrForm},
		{"AB 9223372036854775808 C 5", 1, api.ErrRange},
		{"AB -9223372036854775809 C 5", 1, api.ErrRange},
		{"AB 99999999999999999999 C 5", 1, api.ErrRange},
		{"AB 030 Q x", 1, api.ErrForm}, // the first word ahead of the others
		{"AB 99999999999999999999 Q x", 1, api.ErrRange},
		{"ab x Q y", 1, api.ErrForm}, // of a class Check tells, behind them
		{"AB 30 Q 5", 2, api.ErrForm},
		{"AB 30 c 5", 2, api.ErrForm},
		{"AB 30 p 5", 2, api.ErrForm},
		{"AB 30 CP 5", 2, api.ErrForm},
		{"AB 30 CC 5", 2, api.ErrForm},
		{"AB 30 1 5", 2, api.ErrForm},
		{"AB 30 C\n 5", 2, api.ErrForm},
		{"AB 30 \x00 5", 2, api.ErrForm},
		{"AB 30 CP x", 2, api.ErrForm},
		{"AB 0 CP 5", 2, api.ErrForm},
		{"ab 0 CP 5", 2, api.ErrForm},
		{"AB 30 C x", 3, api.ErrForm},
		{"AB 30 C 05", 3, api.ErrForm},
		{"AB 30 C 5.", 3, api.ErrForm},
		{"AB 30 C 5\n", 3, api.ErrForm},
		{"AB 30 P 9223372036854775808", 3, api.ErrRange},
		{"AB 30 P -9223372036854775809", 3, api.ErrRange},
		{"ab 0 P x", 3, api.ErrForm},
		{"ab 0 P 9223372036854775808", 3, api.ErrRange},
	} {
		checkParse(t, c.t, Series{}, c.at, c.want)
	}
}

func TestP701ParseThenCheck(t *testing.T) {
	for _, c := range []struct {
		t    string
		at   int
		want api.Errno
	}{
		{"ab 30 C 5", 0, api.ErrName},
		{"1A 30 C 5", 0, api.ErrName},
		{"ABCDEFGHI 30 C 5", 0, api.ErrName},
		{"A\t 30 C 5", 0, api.ErrName},
		{"\xff 30 C 5", 0, api.ErrName},
		{"ab 0 C 5", 0, api.ErrName},
		{"ab 30 C 0", 0, api.ErrName},
		{"ab 0 C 0", 0, api.ErrName},
		{"AB 0 C 5", 1, api.ErrArg},
		{"AB -30 C 5", 1, api.ErrArg},
		{"AB 100001 C 5", 1, api.ErrArg},
		{"AB 9223372036854775807 C 5", 1, api.ErrArg},
		{"AB -9223372036854775808 C 5", 1, api.ErrArg},
		{"AB 0 P 0", 1, api.ErrArg},
		{"AB 1 C 0", 3, api.ErrArg},
		{"AB 1 P -5", 3, api.ErrArg},
		{"AB 1 P 1000001", 3, api.ErrArg},
		{"AB 1 P 9223372036854775807", 3, api.ErrArg},
		{"AB 1 P -9223372036854775808", 3, api.ErrArg},
	} {
		checkParse(t, c.t, Series{}, c.at, c.want)
	}
}

func TestP701ParseIsThePlainReading(t *testing.T) {
	names := []string{"AB", "A", "ABCDEFGH", "ABCDEFGHI", "ab", "1A", "", "Ä", "A B", "\x00"}
	numbers := []string{"1", "30", "100000", "100001", "1000000", "1000001", "0", "-1", "-0", "01", "", "x", "1 2", "+1", "1e3", "9223372036854775807", "9223372036854775808", "-9223372036854775809", strings.Repeat("9", 300), strings.Repeat("0", 300)}
	letters := []string{"C", "P", "", "c", "p", "CP", "Q", "1", "2", "C P"}
	type what struct {
		at  int
		err api.Errno
	}
	found := map[what]int{}
	for _, name := range names {
		for _, expiry := range numbers {
			if t.Failed() { // enough is told
				return
			}
			for _, right := range letters {
				for _, strike := range numbers {
					text := name + " " + expiry + " " + right + " " + strike
					s, at, want := read(text)
					found[what{at, want}]++
					checkParse(t, text, s, at, want)
				}
			}
		}
	}
	for _, w := range []what{{0, api.OK}, {5, api.ErrForm}, {1, api.ErrForm}, {1, api.ErrRange}, {2, api.ErrForm}, {3, api.ErrForm}, {3, api.ErrRange}, {0, api.ErrName}, {1, api.ErrArg}, {3, api.ErrArg}} {
		if found[w] < 50 {
			t.Errorf("only %d texts of %v at %d were read", found[w], w.err, w.at)
		}
	}
}

func TestP701ParseEveryByteAtEveryPlace(t *testing.T) {
	for _, text := range []string{"AB1 30 P 500", "A 1 C 1", "ABCDEFGH 100000 C 1000000"} {
		for at := range len(text) + 1 {
			for b := range 256 {
				put := text[:at] + string([]byte{byte(b)}) + text[at:]
				s, place, want := read(put)
				checkParse(t, put, s, place, want)
				if at < len(text) {
					changed := text[:at] + string([]byte{byte(b)}) + text[at+1:]
					s, place, want = read(changed)
					checkParse(t, changed, s, place, want)
				}
			}
			s, place, want := read(text[:at])
			checkParse(t, text[:at], s, place, want)
			s, place, want = read(text[at:])
			checkParse(t, text[at:], s, place, want)
		}
	}
}

func TestP701FaultsAreTheCallersOwn(t *testing.T) {
	for _, c := range []struct {
		t    string
		want string
		at   int
		err  api.Errno
	}{
		{"", "word 1: form", 1, api.ErrForm},
		{"ab 30 C 5", "word 0: name", 0, api.ErrName},
		{"AB 0 C 5", "word 1: arg", 1, api.ErrArg},
		{"AB 30 Q 5", "word 2: form", 2, api.ErrForm},
		{"AB 30 C 9223372036854775808", "word 3: range", 3, api.ErrRange},
	} {
		_, err := Parse(c.t)
		var f *api.Fault
		if !errors.As(err, &f) || err.Error() != c.want || errors.Unwrap(err) != c.err {
			t.Fatalf("Parse of %q: %v; want %s", c.t, err, c.want)
		}
		f.Part, f.At, f.Err = "", -1, nil
		checkParse(t, c.t, Series{}, c.at, c.err)
	}
}

func TestP1WhatMayNotBeIsAnswered(t *testing.T) {
	l := all()
	for i, a := range l {
		if t.Failed() { // enough is told
			return
		}
		b := l[len(l)-1-i]
		Parse(Text(a)) // of what Check refuses that it is answered is all that is promised
		if Compare(a, b) != -Compare(b, a) || Compare(a, a) != 0 {
			t.Errorf("%.60v and %.60v are not compared alike both ways", a, b)
		}
	}
	for _, text := range []string{strings.Repeat("\x00", 1000), "\xff \xff \xff \xff", "\xed\xa0\x80 1 C 1", "\xff 1 C 1"} {
		s, at, wrong := read(text)
		checkParse(t, text, s, at, wrong)
	}
}

func TestP1LongTextsAreAnswered(t *testing.T) {
	const long = 1 << 22
	checkParse(t, strings.Repeat(" ", long), Series{}, long+1, api.ErrForm)
	checkParse(t, strings.Repeat("A", long), Series{}, 1, api.ErrForm)
	checkParse(t, strings.Repeat("A", long)+" 1 C 1", Series{}, 0, api.ErrName)
	checkParse(t, "A "+strings.Repeat("9", long)+" C 1", Series{}, 1, api.ErrRange)
	checkParse(t, "A "+strings.Repeat("-", long)+" C 1", Series{}, 1, api.ErrForm)
	checkParse(t, "A 1 "+strings.Repeat("C", long)+" 1", Series{}, 2, api.ErrForm)
	checkParse(t, "A 1 C "+strings.Repeat("0", long), Series{}, 3, api.ErrForm)
	if class := strings.Repeat("A", long); Good(class) || Check(Series{class, 1, 1, Call}) != api.ErrName {
		t.Errorf("a class of %d letters may be", long)
	}
}

func TestP2AnswersAreNewMemory(t *testing.T) {
	for _, text := range []string{"AB1 30 P 500", "A 1 C 1", "ABCDEFGH 100000 C 1000000"} {
		s, err := Parse(text)
		if err != nil {
			t.Fatalf("Parse of %q: %v", text, err)
		}
		begin, class := uintptr(unsafe.Pointer(unsafe.StringData(text))), uintptr(unsafe.Pointer(unsafe.StringData(s.Class)))
		if class >= begin && class < begin+uintptr(len(text)) {
			t.Errorf("the class of %q lies in the text", text)
		}
		if unsafe.StringData(Text(s)) == unsafe.StringData(Text(s)) || unsafe.StringData(Text(s)) == unsafe.StringData(s.Class) {
			t.Errorf("two texts of %+v are one", s)
		}
	}
}

func TestP3P5TheSameCallsAnswerTheSame(t *testing.T) {
	want := Series{"AB1", 30, 500, Put}
	for range 3 {
		for _, text := range []string{"", "x", "ab 1 P 1", "AB 0 P 1", "AB 1 Q 1", "AB 1 P 0", "AB 99999999999999999999 P 1"} { // what is refused changes nothing
			s, at, wrong := read(text)
			checkParse(t, text, s, at, wrong)
		}
		checkParse(t, "AB1 30 P 500", want, 0, api.OK)
		if Text(want) != "AB1 30 P 500" || Check(want) != api.OK || !Good("AB1") || Good("ab") {
			t.Errorf("asked again: %q, %v", Text(want), Check(want))
		}
	}
}
