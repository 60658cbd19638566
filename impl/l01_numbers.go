package impl

import "strconv"

const (
	ErrNone = iota
	ErrInvalid
	ErrRange
	ErrLimit
	ErrNotFound
	ErrState
	ErrSyntax
)

const (
	MaxValue = 1000000000000
	MaxList  = 200
)

// greatestRoot is the square root of MaxValue.
const greatestRoot = 1000000

// isValue reports whether n is in -MaxValue..MaxValue.
func isValue(n int64) bool { return n >= -MaxValue && n <= MaxValue }

// divisionError returns the error of the quotient a / b, or ErrNone.
func divisionError(a int64, b int64) int64 {
	if !isValue(a) || !isValue(b) {
		return ErrRange
	}
	if b == 0 {
		return ErrState
	}
	return ErrNone
}

// DivideDown returns the quotient a / b, rounded down, and ErrNone. Errors, in this order:
// ErrRange if a or b is not a value; ErrState if b is 0.
func DivideDown(a int64, b int64) (int64, int64) {
	if code := divisionError(a, b); code != ErrNone {
		return 0, code
	}
	quotient := a / b
	// Go cuts towards zero, which is too high only where the exact quotient is negative.
	if a%b != 0 && (a < 0) != (b < 0) {
		quotient--
	}
	return quotient, ErrNone
}

// DivideUp returns the quotient a / b, rounded up, and ErrNone. Errors: as for DivideDown.
func DivideUp(a int64, b int64) (int64, int64) {
	if code := divisionError(a, b); code != ErrNone {
		return 0, code
	}
	quotient := a / b
	// Go cuts towards zero, which is too low only where the exact quotient is positive.
	if a%b != 0 && (a < 0) == (b < 0) {
		quotient++
	}
	return quotient, ErrNone
}

// RootDown returns the greatest integer whose square is at most n, and ErrNone. Errors: ErrRange
// if n is not in 0..MaxValue.
func RootDown(n int64) (int64, int64) {
	if n < 0 || n > MaxValue {
		return 0, ErrRange
	}
	low, high := int64(0), int64(greatestRoot)
search:
	for low < high {
		// Rounded up, so that low grows even when high is next to it.
		middle := (low + high + 1) / 2
		switch square := middle * middle; {
		case square == n:
			low = middle
			break search
		case square < n:
			low = middle
		default:
			high = middle - 1
		}
	}
	return low, ErrNone
}

// RootUp returns the least integer of at least 0 whose square is at least n, and ErrNone.
// Errors: ErrRange if n is not in 0..MaxValue.
func RootUp(n int64) (int64, int64) {
	root, code := RootDown(n)
	if code != ErrNone {
		return 0, code
	}
	if root*root < n {
		root++
	}
	return root, ErrNone
}

// SumOf returns the sum of a list, 0 for the empty one, and ErrNone. Errors, in this order:
// ErrLimit if list has more than MaxList elements; ErrRange if an element or the sum is not a
// value.
func SumOf(list []int64) (int64, int64) {
	if len(list) > MaxList {
		return 0, ErrLimit
	}
	// MaxList values cannot overflow, so that only the whole sum has to be a value.
	sum := int64(0)
	for _, x := range list {
		if !isValue(x) {
			return 0, ErrRange
		}
		sum += x
	}
	if !isValue(sum) {
		return 0, ErrRange
	}
	return sum, ErrNone
}

// IsRising reports whether list is strictly increasing and all of its elements are in 0..n - 1;
// the empty list always is.
func IsRising(list []int64, n int64) bool {
	before := int64(-1)
	for _, x := range list {
		if x <= before || x >= n {
			return false
		}
		before = x
	}
	return true
}

// MetresText returns the text of a number of millimetres, or "" if n is not a value.
func MetresText(n int64) string {
	if !isValue(n) {
		return ""
	}
	sign := ""
	if n < 0 {
		sign, n = "-", -n
	}
	// The thousand in front keeps the leading zeros of the decimals.
	decimals := strconv.FormatInt(1000+n%1000, 10)[1:]
	return sign + strconv.FormatInt(n/1000, 10) + "." + decimals
}

// ReadMetres returns the value with the text s, and true, or 0 and false if there is none.
func ReadMetres(s string) (int64, bool) {
	dot := len(s) - 4
	if dot < 0 {
		return 0, false
	}
	n, err := strconv.ParseInt(s[:dot]+s[dot+1:], 10, 64)
	// Other texts can read as n too, such as those with superfluous zeros or with another byte
	// for the dot, but n has only one.
	if err != nil || MetresText(n) != s {
		return 0, false
	}
	return n, true
}
