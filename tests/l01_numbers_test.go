package tests

import (
	"math"
	"slices"
	"strings"
	"testing"

	"loop.example/g00916/impl"
)

// division is a call of DivideDown and DivideUp with their results.
type division struct{ a, b, down, up, code int64 }

func checkDivision(t *testing.T, c division) {
	t.Helper()
	if q, code := impl.DivideDown(c.a, c.b); q != c.down || code != c.code {
		t.Errorf("DivideDown(%d, %d) = %d, %d; want %d, %d", c.a, c.b, q, code, c.down, c.code)
	}
	if q, code := impl.DivideUp(c.a, c.b); q != c.up || code != c.code {
		t.Errorf("DivideUp(%d, %d) = %d, %d; want %d, %d", c.a, c.b, q, code, c.up, c.code)
	}
}

func TestErrorCodesAndLimits(t *testing.T) {
	codes := []int64{impl.ErrNone, impl.ErrInvalid, impl.ErrRange, impl.ErrLimit, impl.ErrNotFound, impl.ErrState, impl.ErrSyntax}
	for i, code := range codes {
		if code != int64(i) {
			t.Errorf("error code %d is %d", i, code)
		}
	}
	if impl.MaxValue != 1000000000000 || impl.MaxList != 200 {
		t.Errorf("MaxValue = %d, MaxList = %d", impl.MaxValue, impl.MaxList)
	}
}

func TestQuotients(t *testing.T) {
	for _, c := range []division{
		{7, 2, 3, 4, impl.ErrNone},
		{-7, 2, -4, -3, impl.ErrNone},
		{7, -2, -4, -3, impl.ErrNone},
		{-7, -2, 3, 4, impl.ErrNone},
		{6, 3, 2, 2, impl.ErrNone},
		{-6, 3, -2, -2, impl.ErrNone},
		{6, -3, -2, -2, impl.ErrNone},
		{-6, -3, 2, 2, impl.ErrNone},
		{0, 5, 0, 0, impl.ErrNone},
		{0, -5, 0, 0, impl.ErrNone},
		{1, 3, 0, 1, impl.ErrNone},
		{-1, 3, -1, 0, impl.ErrNone},
		{1, -3, -1, 0, impl.ErrNone},
		{-1, -3, 0, 1, impl.ErrNone},
		{1, impl.MaxValue, 0, 1, impl.ErrNone},
		{-1, impl.MaxValue, -1, 0, impl.ErrNone},
		{impl.MaxValue - 1, impl.MaxValue, 0, 1, impl.ErrNone},
		{1 - impl.MaxValue, impl.MaxValue, -1, 0, impl.ErrNone},
	} {
		checkDivision(t, c)
	}
}

func TestQuotientsAtTheBounds(t *testing.T) {
	const top = impl.MaxValue
	for _, c := range []division{
		{top, 1, top, top, impl.ErrNone},
		{top, -1, -top, -top, impl.ErrNone},
		{-top, 1, -top, -top, impl.ErrNone},
		{-top, -1, top, top, impl.ErrNone},
		{top, top, 1, 1, impl.ErrNone},
		{top, -top, -1, -1, impl.ErrNone},
		{-top, top, -1, -1, impl.ErrNone},
		{-top, -top, 1, 1, impl.ErrNone},
		{top, 3, 333333333333, 333333333334, impl.ErrNone},
		{-top, 3, -333333333334, -333333333333, impl.ErrNone},
	} {
		checkDivision(t, c)
	}
}

func TestQuotientErrors(t *testing.T) {
	const top = impl.MaxValue
	for _, c := range []division{
		{5, 0, 0, 0, impl.ErrState},
		{0, 0, 0, 0, impl.ErrState},
		{-5, 0, 0, 0, impl.ErrState},
		{top, 0, 0, 0, impl.ErrState},
		{-top, 0, 0, 0, impl.ErrState},
		{top + 1, 1, 0, 0, impl.ErrRange},
		{-top - 1, 1, 0, 0, impl.ErrRange},
		{1, top + 1, 0, 0, impl.ErrRange},
		{1, -top - 1, 0, 0, impl.ErrRange},
		{top + 1, top + 1, 0, 0, impl.ErrRange},
		{math.MinInt64, -1, 0, 0, impl.ErrRange},
		{-1, math.MinInt64, 0, 0, impl.ErrRange},
		{math.MaxInt64, 1, 0, 0, impl.ErrRange},
		{1, math.MaxInt64, 0, 0, impl.ErrRange},
		{top + 1, 0, 0, 0, impl.ErrRange}, // before the divisor 0
		{-top - 1, 0, 0, 0, impl.ErrRange},
		{math.MinInt64, 0, 0, 0, impl.ErrRange},
		{math.MaxInt64, 0, 0, 0, impl.ErrRange},
	} {
		checkDivision(t, c)
	}
}

// checkQuotientSides checks the definition of both quotients with the remainders that they leave.
func checkQuotientSides(t *testing.T, a int64, b int64) {
	t.Helper()
	down, one := impl.DivideDown(a, b)
	up, two := impl.DivideUp(a, b)
	if one != impl.ErrNone || two != impl.ErrNone {
		t.Fatalf("codes of %d / %d: %d, %d", a, b, one, two)
	}
	left, right := a-down*b, up*b-a
	if b < 0 {
		left, right, b = -left, -right, -b
	}
	if left < 0 || left >= b || right < 0 || right >= b {
		t.Errorf("%d / %d is not between %d and %d", a, b, down, up)
	}
}

func TestQuotientsLieOnTheStatedSide(t *testing.T) {
	for a := int64(-60); a <= 60; a++ {
		for b := int64(-13); b <= 13; b++ {
			if b != 0 {
				checkQuotientSides(t, a, b)
			}
		}
	}
	large := []int64{999, 1000, 123456789, 499999999999, 500000000000, 500000000001, impl.MaxValue - 1, impl.MaxValue}
	for _, a := range large {
		for _, b := range large {
			checkQuotientSides(t, a, b)
			checkQuotientSides(t, -a, b)
			checkQuotientSides(t, a, -b)
			checkQuotientSides(t, -a, -b)
		}
	}
}

func checkRoots(t *testing.T, n int64, down int64, up int64, code int64) {
	t.Helper()
	if r, c := impl.RootDown(n); r != down || c != code {
		t.Errorf("RootDown(%d) = %d, %d; want %d, %d", n, r, c, down, code)
	}
	if r, c := impl.RootUp(n); r != up || c != code {
		t.Errorf("RootUp(%d) = %d, %d; want %d, %d", n, r, c, up, code)
	}
}

func TestRootsOfSmallNumbers(t *testing.T) {
	down, up := int64(0), int64(0)
	for n := int64(0); n <= 3000; n++ {
		if (down+1)*(down+1) <= n {
			down++
		}
		if up*up < n {
			up++
		}
		checkRoots(t, n, down, up, impl.ErrNone)
	}
}

func TestRootsOfSquaresAndTheirNeighbours(t *testing.T) {
	roots := []int64{2, 3, 10, 999, 1000, 1001, 4096, 31622, 31623, 65535, 65536, 499999, 500000, 500001, 707106, 707107, 999998, 999999, 1000000}
	for _, r := range roots {
		checkRoots(t, r*r-1, r-1, r, impl.ErrNone)
		checkRoots(t, r*r, r, r, impl.ErrNone)
		if r*r < impl.MaxValue {
			checkRoots(t, r*r+1, r, r+1, impl.ErrNone)
		}
	}
	checkRoots(t, impl.MaxValue-1, 999999, 1000000, impl.ErrNone)
	checkRoots(t, impl.MaxValue, 1000000, 1000000, impl.ErrNone)
}

func TestRootErrors(t *testing.T) {
	for _, n := range []int64{-1, -4, -impl.MaxValue, impl.MaxValue + 1, math.MinInt64, math.MaxInt64} {
		checkRoots(t, n, 0, 0, impl.ErrRange)
	}
}

func repeated(x int64, count int) []int64 {
	return slices.Repeat([]int64{x}, count)
}

func TestSums(t *testing.T) {
	const top = impl.MaxValue
	for _, c := range []struct {
		name      string
		list      []int64
		sum, code int64
	}{
		{"nil", nil, 0, impl.ErrNone},
		{"empty", []int64{}, 0, impl.ErrNone},
		{"one", []int64{-5}, -5, impl.ErrNone},
		{"mixed signs", []int64{1, -2, 3}, 2, impl.ErrNone},
		{"greatest element", []int64{top}, top, impl.ErrNone},
		{"least element", []int64{-top}, -top, impl.ErrNone},
		{"greatest sum", []int64{top - 1, 1}, top, impl.ErrNone},
		{"least sum", []int64{1 - top, -1}, -top, impl.ErrNone},
		{"great on the way", []int64{top, top, -top}, top, impl.ErrNone},
		{"low on the way", []int64{-top, -top, top}, -top, impl.ErrNone},
		{"sum too great", []int64{top, 1}, 0, impl.ErrRange},
		{"sum too low", []int64{-top, -1}, 0, impl.ErrRange},
		{"element too great", []int64{top + 1}, 0, impl.ErrRange},
		{"element too low", []int64{-top - 1}, 0, impl.ErrRange},
		{"great element in a small sum", []int64{top + 1, -2}, 0, impl.ErrRange},
		{"low element in a small sum", []int64{2, -top - 1}, 0, impl.ErrRange},
		{"elements that cancel out", []int64{top + 1, -top - 1}, 0, impl.ErrRange},
		{"elements that wrap around", []int64{math.MinInt64, math.MinInt64, 7}, 0, impl.ErrRange},
		{"extremes that cancel out", []int64{math.MaxInt64, math.MinInt64, 1}, 0, impl.ErrRange},
		{"full list", repeated(3, impl.MaxList), 3 * impl.MaxList, impl.ErrNone},
		{"full list with a great sum", repeated(top/impl.MaxList, impl.MaxList), top, impl.ErrNone},
		{"full list of great elements", repeated(top, impl.MaxList), 0, impl.ErrRange},
		{"one element more", repeated(0, impl.MaxList+1), 0, impl.ErrLimit},
		{"one element more, no values", repeated(top+1, impl.MaxList+1), 0, impl.ErrLimit},
		{"one element more, sum too great", repeated(top, impl.MaxList+1), 0, impl.ErrLimit},
	} {
		if sum, code := impl.SumOf(c.list); sum != c.sum || code != c.code {
			t.Errorf("%s: SumOf = %d, %d; want %d, %d", c.name, sum, code, c.sum, c.code)
		}
	}
}

func TestRisingLists(t *testing.T) {
	long := make([]int64, impl.MaxList+1)
	for i := range long {
		long[i] = int64(i)
	}
	for _, c := range []struct {
		list []int64
		n    int64
		want bool
	}{
		{nil, 0, true},
		{nil, -1, true},
		{[]int64{}, math.MinInt64, true},
		{[]int64{0}, 1, true},
		{[]int64{0}, 0, false},
		{[]int64{0}, -1, false},
		{[]int64{-1}, 5, false},
		{[]int64{-2, 1}, 5, false},
		{[]int64{math.MinInt64}, math.MinInt64, false},
		{[]int64{0, 1, 2}, 3, true},
		{[]int64{0, 2}, 3, true},
		{[]int64{1, 4}, 5, true},
		{[]int64{1, 5}, 5, false},
		{[]int64{5, 6}, 5, false},
		{[]int64{6, 1}, 5, false},
		{[]int64{0, 0}, 3, false},
		{[]int64{1, 2, 2}, 3, false},
		{[]int64{2, 1}, 3, false},
		{[]int64{0, 2, 1}, 3, false},
		{[]int64{0, math.MaxInt64 - 1}, math.MaxInt64, true},
		{[]int64{0, math.MaxInt64}, math.MaxInt64, false},
		{long, impl.MaxList + 1, true},
		{long, impl.MaxList, false},
	} {
		if got := impl.IsRising(c.list, c.n); got != c.want {
			t.Errorf("IsRising(%v, %d) = %v", c.list, c.n, got)
		}
	}
}

func TestListsAreNotChanged(t *testing.T) {
	memory := []int64{4, 2, 9, 7}
	impl.SumOf(memory[:2])
	impl.IsRising(memory[:2], 10)
	if !slices.Equal(memory, []int64{4, 2, 9, 7}) {
		t.Errorf("the list or what is behind it became %v", memory)
	}
}

func TestTextsOfLengths(t *testing.T) {
	for _, c := range []struct {
		n int64
		s string
	}{
		{0, "0.000"}, {1, "0.001"}, {-1, "-0.001"}, {10, "0.010"}, {-10, "-0.010"}, {100, "0.100"},
		{999, "0.999"}, {-999, "-0.999"}, {1000, "1.000"}, {-1000, "-1.000"}, {1001, "1.001"},
		{-1250, "-1.250"}, {12345, "12.345"}, {100020, "100.020"}, {1000000, "1000.000"},
		{impl.MaxValue, "1000000000.000"}, {-impl.MaxValue, "-1000000000.000"},
		{impl.MaxValue - 1, "999999999.999"}, {1 - impl.MaxValue, "-999999999.999"},
	} {
		if got := impl.MetresText(c.n); got != c.s {
			t.Errorf("MetresText(%d) = %q; want %q", c.n, got, c.s)
		}
		if n, ok := impl.ReadMetres(c.s); n != c.n || !ok {
			t.Errorf("ReadMetres(%q) = %d, %v; want %d", c.s, n, ok, c.n)
		}
	}
	for _, n := range []int64{impl.MaxValue + 1, -impl.MaxValue - 1, math.MinInt64, math.MaxInt64} {
		if got := impl.MetresText(n); got != "" {
			t.Errorf("MetresText(%d) = %q; want no text", n, got)
		}
	}
}

func TestLengthsAreRecovered(t *testing.T) {
	seen := map[string]bool{}
	for n := int64(-impl.MaxValue); n <= impl.MaxValue; n += 1234567891 {
		seen[impl.MetresText(n)] = true
		checkRecovered(t, n)
	}
	for n := int64(-2100); n <= 2100; n++ {
		checkRecovered(t, n)
	}
	if len(seen) != 1621 {
		t.Errorf("%d texts of 1621 lengths", len(seen))
	}
}

func checkRecovered(t *testing.T, n int64) {
	t.Helper()
	s := impl.MetresText(n)
	if got, ok := impl.ReadMetres(s); got != n || !ok {
		t.Errorf("ReadMetres(%q) = %d, %v; want %d", s, got, ok, n)
	}
}

func TestTextsOfNoLength(t *testing.T) {
	texts := []string{
		"", ".", "-", "-.", "0", "1", "-1", "000", "0000", "1250",
		"-0.000", "+0.000", "+1.250", "--1.250", "1.-50", "1.+50", "-.500", ".500", "1.", "1.2", "1.25", "1.2500", "0.0", "0.00", "0.0000",
		"00.000", "01.000", "-01.000", "00.500", "-00.500", "0001.250",
		" 1.250", "1.250 ", "1. 25", "1.250\n", "1,250", "1x250", "12000", "1_0.000", "1.2_5", "0x1.000", "1e3.000", "a.000", "1.00a", "1.2.250", "1..250", "12.50", "1.25x",
		"1000000000.001", "-1000000000.001", "1000000001.000", "10000000000.000", "9223372036854775.807", "-9223372036854775.808", "9223372036854775.808",
		"18446744073709551.617", "18446744073709552.616", "\u0661.250", "1.25\u0660", "1\u22ee250", "\x001.250",
		strings.Repeat("9", 400) + ".000", strings.Repeat("0", 400) + ".000",
	}
	for _, s := range texts {
		if n, ok := impl.ReadMetres(s); n != 0 || ok {
			t.Errorf("ReadMetres(%q) = %d, %v; want no value", s, n, ok)
		}
	}
}
