package num

import (
	"math"
	"math/big"
	"strings"
	"testing"

	"straddle/api"
)

const (
	most  = math.MaxInt64
	least = math.MinInt64
)

// samples are the numbers around 0, around the roots and powers of two where
// sums and products begin to be too great, and around both ends.
func samples() []int64 {
	l := []int64{least, least + 1, least + 2, most - 2, most - 1, most, 3037000499, 3037000500, 999999999999999999}
	for n := int64(-12); n <= 12; n++ {
		l = append(l, n)
	}
	for _, bit := range []uint{15, 16, 30, 31, 32, 33, 61, 62} {
		p := int64(1) << bit
		l = append(l, p-1, p, p+1, -p-1, -p, -p+1)
	}
	return append(l, 1000000, -1000000, 3*5*7*11*13, -2*3*7*17)
}

// held tells what a sum of any size is as an answer.
func held(n *big.Int) (int64, api.Errno) {
	if !n.IsInt64() {
		return 0, api.ErrRange
	}
	return n.Int64(), api.OK
}

func TestP101SumsAreThoseOfAnySize(t *testing.T) {
	for _, c := range []struct {
		name  string
		f     func(a, b int64) (int64, api.Errno)
		model func(z, a, b *big.Int) *big.Int
	}{
		{"Add", Add, (*big.Int).Add},
		{"Sub", Sub, (*big.Int).Sub},
		{"Mul", Mul, (*big.Int).Mul},
	} {
		for _, a := range samples() {
			for _, b := range samples() {
				want, wantErr := held(c.model(new(big.Int), big.NewInt(a), big.NewInt(b)))
				if got, err := c.f(a, b); got != want || err != wantErr {
					t.Errorf("%s(%d, %d): %d, %v; want %d, %v", c.name, a, b, got, err, want, wantErr)
				}
			}
		}
	}
}

func TestP101SumsAtTheEnds(t *testing.T) {
	for _, c := range []struct {
		name string
		f    func(a, b int64) (int64, api.Errno)
		a, b int64
		want int64
		err  api.Errno
	}{
		{"Add", Add, 40, 2, 42, api.OK},
		{"Add", Add, most - 1, 1, most, api.OK},
		{"Add", Add, most, 1, 0, api.ErrRange},
		{"Add", Add, 1, most, 0, api.ErrRange},
		{"Add", Add, least + 1, -1, least, api.OK},
		{"Add", Add, least, -1, 0, api.ErrRange},
		{"Add", Add, -1, least, 0, api.ErrRange},
		{"Add", Add, least, least, 0, api.ErrRange}, // wraps round to 0 itself
		{"Add", Add, least, 0, least, api.OK},
		{"Sub", Sub, 40, -2, 42, api.OK},
		{"Sub", Sub, -1, most, least, api.OK},
		{"Sub", Sub, -2, most, 0, api.ErrRange},
		{"Sub", Sub, -1, least, most, api.OK},
		{"Sub", Sub, 0, least, 0, api.ErrRange},
		{"Sub", Sub, least, least, 0, api.OK},
		{"Mul", Mul, -6, -7, 42, api.OK},
		{"Mul", Mul, least, 1, least, api.OK},
		{"Mul", Mul, -1, least, 0, api.ErrRange},
		{"Mul", Mul, least, -1, 0, api.ErrRange},
		{"Mul", Mul, most, -1, -most, api.OK},
		{"Mul", Mul, 1 << 32, 1 << 31, 0, api.ErrRange},
		{"Mul", Mul, -1 << 32, 1 << 31, least, api.OK},
		{"Mul", Mul, 1 << 32, 1 << 32, 0, api.ErrRange}, // its lower half is 0
		{"Mul", Mul, -1 << 32, 1 << 32, 0, api.ErrRange},
		{"Mul", Mul, 0, least, 0, api.OK},
	} {
		if got, err := c.f(c.a, c.b); got != c.want || err != c.err {
			t.Errorf("%s(%d, %d): %d, %v; want %d, %v", c.name, c.a, c.b, got, err, c.want, c.err)
		}
	}
}

func TestP101NegTurnsTheSign(t *testing.T) {
	for _, a := range samples() {
		want, wantErr := held(new(big.Int).Neg(big.NewInt(a)))
		if got, err := Neg(a); got != want || err != wantErr {
			t.Errorf("Neg(%d): %d, %v; want %d, %v", a, got, err, want, wantErr)
		}
	}
	if got, err := Neg(least); got != 0 || err != api.ErrRange {
		t.Errorf("Neg of the least number: %d, %v", got, err)
	}
}

func TestP101GcdIsTheGreatestThatDividesBoth(t *testing.T) {
	for _, a := range samples() {
		for _, b := range samples() {
			x, y := new(big.Int).Abs(big.NewInt(a)), new(big.Int).Abs(big.NewInt(b))
			want, err := held(new(big.Int).GCD(nil, nil, x, y))
			if err != api.OK {
				want = most
			}
			if got := Gcd(a, b); got != want {
				t.Errorf("Gcd(%d, %d): %d; want %d", a, b, got, want)
			}
		}
	}
}

func TestP101GcdAtTheEnds(t *testing.T) {
	for _, c := range [][3]int64{
		{0, 0, 0}, {0, 9, 9}, {9, 0, 9}, {0, -9, 9}, {12, -18, 6}, {-12, -18, 6}, {8, 9, 1},
		{least, 0, most}, {0, least, most}, {least, least, most},
		{least, most, 1}, {least, -1, 1}, {least, 48, 16}, {least, -1 << 62, 1 << 62}, {-most, most, most},
	} {
		if got := Gcd(c[0], c[1]); got != c[2] {
			t.Errorf("Gcd(%d, %d): %d; want %d", c[0], c[1], got, c[2])
		}
	}
}

func TestP101ParseReadsWhatTextTells(t *testing.T) {
	for _, n := range samples() {
		s := Text(n)
		if want := big.NewInt(n).String(); s != want {
			t.Errorf("Text(%d): %q; want %q", n, s, want)
		}
		if got, err := Parse(s); got != n || err != api.OK {
			t.Errorf("Parse(%q): %d, %v; want %d", s, got, err, n)
		}
	}
}

func TestP101TextWordForWord(t *testing.T) {
	for n, want := range map[int64]string{
		0: "0", 7: "7", -7: "-7", 10: "10", -100: "-100",
		most: "9223372036854775807", least: "-9223372036854775808",
	} {
		if got := Text(n); got != want {
			t.Errorf("Text(%d): %q; want %q", n, got, want)
		}
	}
}

func TestP101ParseTakesDigitsAlone(t *testing.T) {
	for _, s := range []string{
		"", "-", "--", "--7", "-+7", "+7", "+", "+0", "7-", "-7-", "7-7",
		"-0", "00", "-00", "07", "-07", "000000000000000000000",
		" 7", "7 ", "- 7", "\t7", "7\n", "7\x00", "\x00", "\xff", "-\xff7",
		"1_0", "1,0", "1.0", "1e3", "0x7", "0b1", "0o7", "0_1", "7a", "a", "NaN", "Inf",
		"/", ":", "1/", "1:", "\u0667", "\uff17", "\u22127", "\u00b9",
	} {
		if got, err := Parse(s); got != 0 || err != api.ErrForm {
			t.Errorf("Parse(%q): %d, %v; want 0, %v", s, got, err, api.ErrForm)
		}
	}
}

func TestP101ParseTooGreat(t *testing.T) {
	for _, s := range []string{
		"9223372036854775808", "-9223372036854775809",
		"9300000000000000000", "10000000000000000000", "-10000000000000000000",
		"18446744073709551615", "18446744073709551616", "18446744073709551623", // 2^64 and 7 more would wrap round
		"-18446744073709551615", "-18446744073709551616",
		"1" + strings.Repeat("0", 100000), "-" + strings.Repeat("9", 100000),
	} {
		if got, err := Parse(s); got != 0 || err != api.ErrRange {
			t.Errorf("Parse(%.40q): %d, %v; want 0, %v", s, got, err, api.ErrRange)
		}
	}
}

func TestP6ParseAsksTheFormAheadOfTheRange(t *testing.T) {
	for _, s := range []string{
		"99999999999999999999999999x", "x99999999999999999999999999", "-99999999999999999999999999-",
		"099999999999999999999999999", "-00099999999999999999999999", strings.Repeat("9", 100000) + ".",
	} {
		if got, err := Parse(s); got != 0 || err != api.ErrForm {
			t.Errorf("Parse(%.40q): %d, %v; want 0, %v", s, got, err, api.ErrForm)
		}
	}
}

func TestP101InIsLoToHi(t *testing.T) {
	for _, c := range []struct {
		n, lo, hi int64
		want      bool
	}{
		{5, 1, 9, true}, {1, 1, 9, true}, {9, 1, 9, true}, {0, 1, 9, false}, {10, 1, 9, false},
		{3, 3, 3, true}, {2, 3, 3, false}, {4, 3, 3, false},
		{5, 9, 1, false}, {9, 9, 1, false}, {1, 9, 1, false},
		{-5, -9, -1, true}, {0, -9, -1, false}, {-5, 1, 9, false},
		{0, least, most, true}, {least, least, most, true}, {most, least, most, true},
		{most, least, most - 1, false}, {least, least + 1, most, false}, {least, most, least, false},
	} {
		if got := In(c.n, c.lo, c.hi); got != c.want {
			t.Errorf("In(%d, %d, %d): %v", c.n, c.lo, c.hi, got)
		}
	}
}

func TestP3TheSameCallsAnswerTheSame(t *testing.T) {
	round := func() []int64 {
		var told []int64
		for _, a := range samples() {
			n, err := Mul(a, 3)
			m, bad := Parse(Text(a) + "0")
			told = append(told, n, int64(err), m, int64(bad), Gcd(a, 60))
		}
		return told
	}
	first, again := round(), round()
	for i := range first {
		if first[i] != again[i] {
			t.Fatalf("answer %d: %d, then %d", i, first[i], again[i])
		}
	}
}
