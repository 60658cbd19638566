package tests

import (
	"math"
	"testing"

	"loop.example/g00916/impl"
)

const top = impl.MaxValue

func span(low int64, high int64) impl.Interval { return impl.Interval{Low: low, High: high} }

// whole is the interval of all values.
var whole = span(-top, top)

// notValid are intervals that are not valid, each for one reason or for several.
var notValid = []impl.Interval{
	span(1, 0), span(0, -1), span(-4, -5), span(top, -top), span(top, top-1), span(1-top, -top),
	span(0, top+1), span(-top-1, 0), span(-top-1, top+1), span(top+1, top+1), span(-top-1, -top-1),
	span(top+1, top), span(-top, -top-1), span(top+1, -top-1), span(top+1, 0), span(0, -top-1),
	span(0, math.MaxInt64), span(math.MinInt64, 0), span(math.MinInt64, math.MaxInt64),
	span(math.MaxInt64, math.MaxInt64), span(math.MinInt64, math.MinInt64), span(math.MaxInt64, math.MinInt64),
}

// operation is one of the functions that make an interval of two.
type operation struct {
	name string
	do   func(impl.Interval, impl.Interval) (impl.Interval, int64)
}

var (
	adding      = operation{"AddIntervals", impl.AddIntervals}
	subtracting = operation{"SubtractIntervals", impl.SubtractIntervals}
	hulling     = operation{"HullOf", impl.HullOf}
	meeting     = operation{"CommonPart", impl.CommonPart}
)

func checkOperation(t *testing.T, o operation, a impl.Interval, b impl.Interval, want impl.Interval, code int64) {
	t.Helper()
	if x, c := o.do(a, b); x != want || c != code {
		t.Errorf("%s(%v, %v) = %v, %d; want %v, %d", o.name, a, b, x, c, want, code)
	}
}

func checkScaled(t *testing.T, a impl.Interval, k int64, want impl.Interval, code int64) {
	t.Helper()
	if x, c := impl.ScaleInterval(a, k); x != want || c != code {
		t.Errorf("ScaleInterval(%v, %d) = %v, %d; want %v, %d", a, k, x, c, want, code)
	}
}

// intervalCase is a call of an operation with its result.
type intervalCase struct {
	a, b, want impl.Interval
	code       int64
}

func checkCases(t *testing.T, o operation, cases []intervalCase) {
	t.Helper()
	for _, c := range cases {
		checkOperation(t, o, c.a, c.b, c.want, c.code)
	}
}

func TestValidIntervals(t *testing.T) {
	valid := []impl.Interval{
		{}, span(0, 1), span(-1, 0), span(-1, 1), span(7, 7), span(-7, -7), span(-9, -7),
		whole, span(top, top), span(-top, -top), span(top-1, top), span(-top, 1-top), span(0, top), span(-top, 0),
	}
	for _, a := range valid {
		if !impl.IsInterval(a) {
			t.Errorf("IsInterval(%v) = false", a)
		}
	}
	for _, a := range notValid {
		if impl.IsInterval(a) {
			t.Errorf("IsInterval(%v) = true", a)
		}
	}
}

func TestSumsOfIntervals(t *testing.T) {
	none, tooFar := int64(impl.ErrNone), int64(impl.ErrRange)
	checkCases(t, adding, []intervalCase{
		{span(5, 9), span(1, 3), span(6, 12), none},
		{span(-5, 9), span(-3, -1), span(-8, 8), none},
		{span(4, 4), span(-9, -9), span(-5, -5), none},
		{span(0, 0), whole, whole, none},
		{span(-top, 0), span(0, top), whole, none},
		{span(top-1, top-1), span(1, 1), span(top, top), none},
		{span(1-top, 1-top), span(-1, -1), span(-top, -top), none},
		{span(-3, top-3), span(3, 3), span(0, top), none},
		{span(-3, top-2), span(3, 3), span(0, 0), tooFar},
		{span(0, top), span(0, 1), span(0, 0), tooFar},
		{span(-top, 0), span(-1, 0), span(0, 0), tooFar},
		{span(top, top), span(1, 1), span(0, 0), tooFar},
		{span(-top, -top), span(-1, -1), span(0, 0), tooFar},
		{whole, whole, span(0, 0), tooFar},
		{whole, span(0, 1), span(0, 0), tooFar},
		{whole, span(-1, 0), span(0, 0), tooFar},
	})
}

func TestDifferencesOfIntervals(t *testing.T) {
	none, tooFar := int64(impl.ErrNone), int64(impl.ErrRange)
	checkCases(t, subtracting, []intervalCase{
		{span(5, 9), span(1, 3), span(2, 8), none},
		{span(1, 3), span(5, 9), span(-8, -2), none},
		{span(-5, 9), span(-3, -1), span(-4, 12), none},
		{span(5, 9), span(5, 9), span(-4, 4), none},
		{span(4, 4), span(-9, -9), span(13, 13), none},
		{whole, span(0, 0), whole, none},
		{span(0, 0), whole, whole, none},
		{span(top, top), whole, span(0, 0), tooFar},
		{span(top, top), span(0, top), span(0, top), none},
		{span(-top, -top), span(-top, 0), span(-top, 0), none},
		{span(top-1, top-1), span(-1, -1), span(top, top), none},
		{span(1-top, 1-top), span(1, 1), span(-top, -top), none},
		{span(0, top), span(-1, 0), span(0, 0), tooFar},
		{span(-top, 0), span(0, 1), span(0, 0), tooFar},
		{span(-1, 0), span(0, top), span(0, 0), tooFar},
		{span(0, 1), span(-top, 0), span(0, 0), tooFar},
		{span(top, top), span(-1, -1), span(0, 0), tooFar},
		{span(-top, -top), span(1, 1), span(0, 0), tooFar},
		{whole, whole, span(0, 0), tooFar},
	})
}

// smallIntervals are all valid intervals with bounds in -reach..reach.
func smallIntervals(reach int64) []impl.Interval {
	var list []impl.Interval
	for low := -reach; low <= reach; low++ {
		for high := low; high <= reach; high++ {
			list = append(list, span(low, high))
		}
	}
	return list
}

// checkLeast checks that an operation returns the least interval of what each makes of all pairs of values.
func checkLeast(t *testing.T, o operation, each func(int64, int64) int64, a impl.Interval, b impl.Interval) {
	t.Helper()
	want := span(math.MaxInt64, math.MinInt64)
	for x := a.Low; x <= a.High; x++ {
		for y := b.Low; y <= b.High; y++ {
			want = span(min(want.Low, each(x, y)), max(want.High, each(x, y)))
		}
	}
	checkOperation(t, o, a, b, want, impl.ErrNone)
}

func TestSumsAndDifferencesLieInTheirIntervals(t *testing.T) {
	plus := func(x int64, y int64) int64 { return x + y }
	minus := func(x int64, y int64) int64 { return x - y }
	for _, a := range smallIntervals(4) {
		for _, b := range smallIntervals(4) {
			checkLeast(t, adding, plus, a, b)
			checkLeast(t, subtracting, minus, a, b)
		}
	}
}

// checkNearTheEnd checks the codes of a sum and a difference against those of single values.
func checkNearTheEnd(t *testing.T, a impl.Interval, b impl.Interval) {
	t.Helper()
	sum, difference := span(a.Low+b.Low, a.High+b.High), span(a.Low-b.High, a.High-b.Low)
	for _, c := range []struct {
		o    operation
		want impl.Interval
	}{{adding, sum}, {subtracting, difference}} {
		if c.want.Low < -top || c.want.High > top {
			checkOperation(t, c.o, a, b, span(0, 0), impl.ErrRange)
		} else {
			checkOperation(t, c.o, a, b, c.want, impl.ErrNone)
		}
	}
}

func TestSumsAndDifferencesNearTheEndsOfTheValues(t *testing.T) {
	for _, a := range smallIntervals(3) {
		for _, b := range smallIntervals(3) {
			checkNearTheEnd(t, span(a.Low+top-3, a.High+top-3), b)
			checkNearTheEnd(t, b, span(a.Low+top-3, a.High+top-3))
			checkNearTheEnd(t, span(a.Low+3-top, a.High+3-top), b)
			checkNearTheEnd(t, b, span(a.Low+3-top, a.High+3-top))
		}
	}
}

func TestScaledIntervals(t *testing.T) {
	const million = 1000000
	for _, c := range []struct {
		a    impl.Interval
		k    int64
		want impl.Interval
	}{
		{span(-2, 3), -4, span(-12, 8)},
		{span(-2, 3), 4, span(-8, 12)},
		{span(-2, 3), 1, span(-2, 3)},
		{span(-2, 3), -1, span(-3, 2)},
		{span(2, 3), -5, span(-15, -10)},
		{span(-3, -2), -5, span(10, 15)},
		{span(-3, -2), 5, span(-15, -10)},
		{span(7, 7), -3, span(-21, -21)},
		{span(-2, 3), 0, span(0, 0)},
		{span(5, 9), 0, span(0, 0)},
		{whole, 0, span(0, 0)},
		{span(top, top), 0, span(0, 0)},
		{span(0, 0), -million, span(0, 0)},
		{whole, 1, whole},
		{whole, -1, whole},
		{span(-top, 5), -1, span(-5, top)},
		{span(-5, top), -1, span(-top, 5)},
		{span(1, 2), million, span(million, 2*million)},
		{span(1, 2), -million, span(-2*million, -million)},
		{span(-million, million), million, whole},
		{span(-million, million), -million, whole},
		{span(-2, million), -million, span(-top, 2*million)},
		{span(0, top/2), 2, span(0, top)},
		{span(-top/2, 0), -2, span(0, top)},
		{span(333333333333, 333333333333), 3, span(999999999999, 999999999999)},
	} {
		checkScaled(t, c.a, c.k, c.want, impl.ErrNone)
	}
}

func TestProductsLieInTheirIntervals(t *testing.T) {
	for _, a := range smallIntervals(5) {
		for k := int64(-7); k <= 7; k++ {
			want := span(math.MaxInt64, math.MinInt64)
			for x := a.Low; x <= a.High; x++ {
				want = span(min(want.Low, k*x), max(want.High, k*x))
			}
			checkScaled(t, a, k, want, impl.ErrNone)
		}
	}
}

func TestScaledIntervalErrors(t *testing.T) {
	const million = 1000000
	for _, c := range []struct {
		a impl.Interval
		k int64
	}{
		{span(0, 0), million + 1},
		{span(0, 0), -million - 1},
		{span(1, 2), million + 1},
		{span(1, 2), -million - 1},
		{whole, million + 1},
		{span(0, 0), math.MaxInt64},
		{span(0, 0), math.MinInt64},
		{span(-1, 0), math.MinInt64},
		{span(0, 2), 1 << 62},
		{span(4, 4), 1 << 62}, // the products wrap around to 0
		{span(1024, 2048), -1 << 60},
		{span(0, million+1), million},
		{span(-million-1, 0), million},
		{span(0, million+1), -million},
		{span(-million-1, 0), -million},
		{span(million+1, million+1), million},
		{span(-million-1, -million-1), million},
		{span(0, top/2+1), 2},
		{span(-top/2-1, 0), 2},
		{span(0, top/2+1), -2},
		{span(-top/2-1, 0), -2},
		{span(333333333334, 333333333334), 3},
		{whole, 2},
		{whole, -2},
		{whole, million},
		{whole, -million},
		{span(top, top), million},
		{span(-top, -top), -million},
	} {
		checkScaled(t, c.a, c.k, span(0, 0), impl.ErrRange)
	}
}

func TestHulls(t *testing.T) {
	for _, c := range []struct{ a, b, want impl.Interval }{
		{span(1, 4), span(4, 6), span(1, 6)},
		{span(1, 4), span(2, 6), span(1, 6)},
		{span(1, 4), span(5, 6), span(1, 6)},
		{span(1, 4), span(8, 9), span(1, 9)},
		{span(1, 9), span(3, 4), span(1, 9)},
		{span(1, 9), span(1, 4), span(1, 9)},
		{span(1, 9), span(1, 9), span(1, 9)},
		{span(-3, -3), span(3, 3), span(-3, 3)},
		{span(5, 5), span(5, 5), span(5, 5)},
		{span(-top, -top), span(top, top), whole},
		{span(0, 0), whole, whole},
	} {
		checkOperation(t, hulling, c.a, c.b, c.want, impl.ErrNone)
		checkOperation(t, hulling, c.b, c.a, c.want, impl.ErrNone)
	}
}

func TestCommonParts(t *testing.T) {
	none, missing := int64(impl.ErrNone), int64(impl.ErrNotFound)
	for _, c := range []intervalCase{
		{span(1, 4), span(4, 6), span(4, 4), none},
		{span(1, 4), span(2, 6), span(2, 4), none},
		{span(1, 9), span(3, 4), span(3, 4), none},
		{span(1, 9), span(1, 4), span(1, 4), none},
		{span(1, 9), span(4, 9), span(4, 9), none},
		{span(1, 9), span(1, 9), span(1, 9), none},
		{span(1, 9), span(5, 5), span(5, 5), none},
		{span(5, 5), span(5, 5), span(5, 5), none},
		{span(0, 0), whole, span(0, 0), none},
		{span(top, top), whole, span(top, top), none},
		{span(-top, 0), span(0, top), span(0, 0), none},
		{span(1, 4), span(5, 6), span(0, 0), missing},
		{span(1, 4), span(8, 9), span(0, 0), missing},
		{span(-3, -1), span(1, 3), span(0, 0), missing},
		{span(5, 5), span(6, 6), span(0, 0), missing},
		{span(-top, -top), span(top, top), span(0, 0), missing},
		{span(-top, top-1), span(top, top), span(0, 0), missing},
	} {
		checkOperation(t, meeting, c.a, c.b, c.want, c.code)
		checkOperation(t, meeting, c.b, c.a, c.want, c.code)
	}
}

func TestIntervalsWithinOthers(t *testing.T) {
	for _, c := range []struct {
		a, b impl.Interval
		want bool
	}{
		{span(1, 4), span(1, 4), true},
		{span(2, 3), span(1, 4), true},
		{span(1, 3), span(1, 4), true},
		{span(2, 4), span(1, 4), true},
		{span(2, 2), span(1, 4), true},
		{span(4, 4), span(4, 4), true},
		{whole, whole, true},
		{span(top, top), whole, true},
		{span(1, 4), span(2, 3), false},
		{span(0, 4), span(1, 4), false},
		{span(1, 5), span(1, 4), false},
		{span(1, 4), span(4, 6), false},
		{span(4, 6), span(1, 4), false},
		{span(1, 4), span(5, 6), false},
		{span(5, 6), span(1, 4), false},
		{whole, span(1-top, top), false},
		{whole, span(-top, top-1), false},
	} {
		if got := impl.IsWithin(c.a, c.b); got != c.want {
			t.Errorf("IsWithin(%v, %v) = %v", c.a, c.b, got)
		}
	}
}

func checkCompared(t *testing.T, a impl.Interval, b impl.Interval, want int64, code int64) {
	t.Helper()
	if got, c := impl.CompareIntervals(a, b); got != want || c != code {
		t.Errorf("CompareIntervals(%v, %v) = %d, %d; want %d, %d", a, b, got, c, want, code)
	}
	if got, c := impl.CompareIntervals(b, a); got != -want || c != code {
		t.Errorf("CompareIntervals(%v, %v) = %d, %d; want %d, %d", b, a, got, c, -want, code)
	}
}

func TestComparedIntervals(t *testing.T) {
	for _, c := range []struct {
		a, b impl.Interval
		want int64
	}{
		{span(1, 4), span(5, 6), -1},
		{span(1, 4), span(8, 9), -1},
		{span(5, 5), span(6, 6), -1},
		{span(-3, -1), span(1, 3), -1},
		{span(-top, -top), span(top, top), -1},
		{span(-top, top-1), span(top, top), -1},
		{span(1, 4), span(4, 6), 0},
		{span(1, 4), span(2, 6), 0},
		{span(1, 9), span(3, 4), 0},
		{span(1, 4), span(1, 4), 0},
		{span(5, 5), span(5, 5), 0},
		{span(top, top), whole, 0},
		{span(-top, -top), whole, 0},
	} {
		checkCompared(t, c.a, c.b, c.want, impl.ErrNone)
	}
}

// liesIn reports whether x lies in a.
func liesIn(a impl.Interval, x int64) bool { return a.Low <= x && x <= a.High }

// checkSets checks the functions that see intervals as sets against all values in -reach..reach.
func checkSets(t *testing.T, a impl.Interval, b impl.Interval, reach int64) {
	t.Helper()
	hull, part := span(reach, -reach), span(reach, -reach)
	within, code := true, int64(impl.ErrNotFound)
	for x := -reach; x <= reach; x++ {
		if liesIn(a, x) || liesIn(b, x) {
			hull = span(min(hull.Low, x), max(hull.High, x))
		}
		if liesIn(a, x) && liesIn(b, x) {
			part = span(min(part.Low, x), max(part.High, x))
			code = impl.ErrNone
		}
		within = within && (liesIn(b, x) || !liesIn(a, x))
	}
	if code != impl.ErrNone {
		part = span(0, 0)
	}
	checkOperation(t, hulling, a, b, hull, impl.ErrNone)
	checkOperation(t, meeting, a, b, part, code)
	if got := impl.IsWithin(a, b); got != within {
		t.Errorf("IsWithin(%v, %v) = %v", a, b, got)
	}
}

// orderOf compares the values of two intervals one by one.
func orderOf(a impl.Interval, b impl.Interval) int64 {
	less, greater := true, true
	for x := a.Low; x <= a.High; x++ {
		for y := b.Low; y <= b.High; y++ {
			less, greater = less && x < y, greater && x > y
		}
	}
	switch {
	case less:
		return -1
	case greater:
		return 1
	}
	return 0
}

func TestIntervalsAreSetsOfValues(t *testing.T) {
	const reach = 4
	for _, a := range smallIntervals(reach) {
		for _, b := range smallIntervals(reach) {
			checkSets(t, a, b, reach)
			checkCompared(t, a, b, orderOf(a, b), impl.ErrNone)
		}
	}
}

func TestInvalidIntervals(t *testing.T) {
	// whole would give ErrRange as a part of a sum, a difference or a product, and {-9, -8} lies
	// apart from most others, so that ErrInvalid has to come first.
	for _, good := range []impl.Interval{{}, span(1, 4), span(-9, -8), span(top, top), whole} {
		for _, bad := range notValid {
			for _, o := range []operation{adding, subtracting, hulling, meeting} {
				checkOperation(t, o, bad, good, span(0, 0), impl.ErrInvalid)
				checkOperation(t, o, good, bad, span(0, 0), impl.ErrInvalid)
				checkOperation(t, o, bad, bad, span(0, 0), impl.ErrInvalid)
			}
			checkCompared(t, bad, good, 0, impl.ErrInvalid)
			checkCompared(t, bad, bad, 0, impl.ErrInvalid)
			if impl.IsWithin(bad, good) || impl.IsWithin(good, bad) || impl.IsWithin(bad, bad) {
				t.Errorf("IsWithin accepts %v beside %v", bad, good)
			}
		}
	}
}

func TestInvalidIntervalsComeBeforeFactors(t *testing.T) {
	for _, bad := range notValid {
		for _, k := range []int64{0, 1, -1, 2, 1000000, -1000000, 1000001, -1000001, math.MaxInt64, math.MinInt64} {
			checkScaled(t, bad, k, span(0, 0), impl.ErrInvalid)
		}
	}
}
