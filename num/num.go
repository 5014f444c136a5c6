// Package num: numbers. See doc/01-num.md.
package num

import (
	"math"
	"math/bits"
	"strconv"
	"strings"

	"straddle/api"
)

// Add tells a + b.
func Add(a, b int64) (int64, api.Errno) {
	sum := a + b
	switch { // b's sign tells on which side of a the sum lies: on the other one it has wrapped round
	case b < 0 && sum > a:
		fallthrough
	case b > 0 && sum < a:
		return 0, api.ErrRange
	}
	return sum, api.OK
}

// Sub tells a - b.
func Sub(a, b int64) (int64, api.Errno) {
	diff := a - b
	switch { // as in Add, with the sides the other way round
	case b < 0 && diff < a:
		fallthrough
	case b > 0 && diff > a:
		return 0, api.ErrRange
	}
	return diff, api.OK
}

// Mul tells a * b.
func Mul(a, b int64) (int64, api.Errno) {
	sizeA, belowA := split(a)
	sizeB, belowB := split(b)
	high, low := bits.Mul64(sizeA, sizeB)
	if high != 0 {
		return 0, api.ErrRange
	}
	return join(low, belowA != belowB)
}

// Neg tells a with the other sign.
func Neg(a int64) (int64, api.Errno) { return Sub(0, a) }

// Gcd tells the greatest number that divides both: 0 of 0 and 0, and 2^63 - 1 where it is 2^63.
func Gcd(a, b int64) int64 {
	x, _ := split(a)
	y, _ := split(b)
	for y != 0 {
		x, y = y, x%y
	}
	return int64(min(x, math.MaxInt64))
}

// Parse reads a number as Text tells it.
func Parse(s string) (int64, api.Errno) {
	digits, below := strings.CutPrefix(s, "-")
	switch {
	case below && digits == "0":
		fallthrough
	case !plain(digits):
		return 0, api.ErrForm
	}
	size, err := strconv.ParseUint(digits, 10, 64)
	if err != nil { // of digits alone nothing else can be wrong
		return 0, api.ErrRange
	}
	return join(size, below)
}

// Text tells a number by its digits, behind a - if it is below 0.
func Text(n int64) string { return strconv.FormatInt(n, 10) }

// In tells whether n is one of lo to hi, both among them.
func In(n, lo, hi int64) bool { return lo <= n && n <= hi }

// split tells how far n is from 0, and whether it lies below.
// The size is a uint64, since that of the least number is no int64.
func split(n int64) (size uint64, below bool) {
	size = uint64(n)
	switch {
	case n < 0:
		size, below = -size, true
		fallthrough
	default:
		return size, below
	}
}

// join tells the number that split takes apart into size and below.
func join(size uint64, below bool) (int64, api.Errno) {
	n, most := int64(size), uint64(math.MaxInt64)
	switch {
	case below:
		n, most = -n, most+1 // below 0 there is one number more than above
		fallthrough
	default:
		if size > most {
			return 0, api.ErrRange
		}
		return n, api.OK
	}
}

// plain tells whether s is digits, one at least, without needless noughts ahead.
func plain(s string) bool {
	if s == "" || s[0] == '0' && len(s) > 1 {
		return false
	}
	for i := range len(s) {
		if s[i] < '0' || s[i] > '9' {
			return false
		}
	}
	return true
}
